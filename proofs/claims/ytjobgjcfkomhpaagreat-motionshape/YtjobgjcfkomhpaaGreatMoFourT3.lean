/- PolyD PolyRf MoRa MdlA MdlB MdlC MdlD MdlE MdlKa MdlH MdlJ MoA MoNx MoMv MoMw PolyRc MoRg AppK MoCo PolyK0 MoRd MoRn MoFl MoM2 PolyK2 MoK0, one after another, as far as MoFour wants them. -/
import Derived.Test.YtjobgjcfkomhpaaGreatProg
import Derived.Test.YtjobgjcfkomhpaaGreatRows
import Derived.Test.YtjobgjcfkomhpaaGreatMoFourT2
set_option linter.unusedVariables false
set_option linter.unusedSimpArgs false
namespace Go.Proofs.YtjobgjcfkomhpaaGreat
open Go.RowKit Go.Shelf Go.Proofs.Wd
set_option maxRecDepth 10000
def flowZ (A : Nat → Int) (n : Nat) (t : Int) : Nat → Int := horZ (termZ A n) (n - 1) t (n - 1)
def flowC (A : Nat → Int) (n : Nat) (t : Int) : Bool := termC A n (n - 1) || horC (termZ A n) (n - 1) t (n * n) (n - 1)
theorem listT_at (n nn : Nat) (A : Nat → Int) (pre : List (Nat × Nat)) (i : Nat) (x : Nat × Nat) (h : pre[i]? = some x) : ixM (listT n nn A pre) i = XT n nn A i x := by
 refine ixM_at ?_
 unfold listT
 rw [List.getElem?_mapIdx, h]
 rfl
set_option maxRecDepth 20000 in
set_option maxHeartbeats 4000000 in
theorem polyFlow_ok (U n b o cap : Nat) (c0 : Bool) (n0 t : Int) (ht : I64 t) (hn0 : 0 ≤ n0 ∧ n0 < 100000000000000000) (A : Nat → Int) (hn : 1 ≤ n ∧ n ≤ 12) (hcap : n * n ≤ cap) (hA : ∀ j, j < n * n → I64 (A j)) (hup : upTo A n n = true) (w : World) (h : UC U c0 n0 w) (za : ∀ j, j < n * n → w.cell? ⟨b, o + j, none⟩ = some (.int .i64 (A j))) (hb : b ≠ U) :
  Calls Tryz.prog 38 #[.pointer (some ⟨U, 0, none⟩), .agg #[.int .i64 n, .int .i64 n, .slice (some ⟨b, o, none⟩) (n * n) cap], .int .i64 t] w fun e w' => ValP n n (n * n) (flowZ A n t) 0 (fun w' => UW U (c0 || flowC A n t) n0 200000 w' ∧ Mk U w w') w e w' := by
 have SQ := hide (fun w => polySquare n n (some ⟨b, o, none⟩) (n * n) cap w)
 rw [sqB_yes (sqA_of hn)] at SQ
 have k2 := mul12n n n hn hn
 have lU := Blk.lt h
 have UPP : Hid (∀ wx, Mk U w wx → Calls Tryz.prog 81 #[.agg #[.int .i64 n, .int .i64 n, .slice (some ⟨b, o, none⟩) (n * n) cap]] wx fun e w' => e = .returned (.bool true) ∧ Grown wx w') := fun wx m => by
  have := polyUpper_ok n b o cap A hn wx (fun j hj => m.cell (za j hj) hb)
  rwa [hup] at this
 have TM : Hid (∀ wx, UC U c0 n0 wx → Mk U w wx → Calls Tryz.prog 82 #[.pointer (some ⟨U, 0, none⟩), .agg #[.int .i64 n, .int .i64 n, .slice (some ⟨b, o, none⟩) (n * n) cap], .int .i64 ((n - 1 : Nat) : Int)] wx fun e w' => TermP U n (n * n) c0 n0 A (n - 1) wx e w') := fun wx u m =>
  polyTerms_ok U n (n * n) b o cap (n - 1) c0 n0 ⟨hn0.1, by omega⟩ A hn rfl (by omega) hcap hA wx u (fun j hj => m.cell (za j hj) hb) hb
 obtain ⟨nn, hnn⟩ : ∃ nn, n * n = nn := ⟨_, rfl⟩
 obtain ⟨k, hk⟩ : ∃ k, n = k + 1 := ⟨n - 1, by omega⟩
 have hk1 : n - 1 = k := by omega
 rw [hk1] at TM
 have eF : Hid (flowZ A n t = horZ (termZ A n) k t k ∧ flowC A n t = (termC A n k || horC (termZ A n) k t nn k)) := by
  unfold flowZ flowC
  rw [hk1, hnn]
  exact ⟨rfl, rfl⟩
 have tI : ∀ m p, p < nn → I64 (termZ A n m p) := fun m p hp => termZ_I64 A n m p (by rw [hnn]; exact hp)
 rw [hnn] at SQ k2 UPP TM
 rw [hnn]
 have G : Grown w ((w.alloc (.cells #[.int .i64 n, .int .i64 n, .slice (some ⟨b, o, none⟩) nn cap] 38)).alloc (.cells #[.int .i64 0, .int .i64 0, .slice none 0 0] 38)) := ((Grown.refl _).alloc _ _).alloc _ _
 have HB : Hid (Blk w.heap.size #[.int .i64 n, .int .i64 n, .slice (some ⟨b, o, none⟩) nn cap] 38 ((w.alloc (.cells #[.int .i64 n, .int .i64 n, .slice (some ⟨b, o, none⟩) nn cap] 38)).alloc (.cells #[.int .i64 0, .int .i64 0, .slice none 0 0] 38)) ∧ Blk (w.heap.size + 1) #[.int .i64 0, .int .i64 0, .slice none 0 0] 38 ((w.alloc (.cells #[.int .i64 n, .int .i64 n, .slice (some ⟨b, o, none⟩) nn cap] 38)).alloc (.cells #[.int .i64 0, .int .i64 0, .slice none 0 0] 38))) := ⟨Blk.grown (Blk.new w _ _) ((Grown.refl _).alloc _ _), blk_new2 w _ _ _⟩
 have HG := hide (And.intro G (And.intro (Blk.grown h G) (And.intro hn0 (And.intro lU (And.intro k2 (And.intro tI (And.intro ht (And.intro hn (And.intro hk hnn)))))))))
 have wk : wrap64 ((n : Int) - 1) = (k : Int) := by unfold wrap64; omega
 clear G h hn0 lU za hb hA hup hcap k2 hk1 tI ht hn hk hnn
 go_enter Tryz.func38, Tryz.ntmps38
 go_wp2_with fail
 generalize (w.alloc (.cells #[.int .i64 n, .int .i64 n, .slice (some ⟨b, o, none⟩) nn cap] 38)).alloc (.cells #[.int .i64 0, .int .i64 0, .slice none 0 0] 38) = w1 at *
 refine (unhide SQ _).mono ?_
 rintro e w2 ⟨rfl, g2⟩
 have RF := hide (polyRefuse U c0 n0 ⟨(unhide HG).2.2.1.1, by have := (unhide HG).2.2.1.2; omega⟩ true w2 (Blk.grown (unhide HG).2.1 g2))
 have G2 := hide g2
 clear g2 SQ
 go_wp2_with fail
 refine (unhide RF).mono ?_
 rintro e w3 ⟨rfl, u3, m3⟩
 have lU := (unhide HG).2.2.2.1
 have b3 := Blk.keep (Blk.grown (unhide HB).1 (unhide G2)) m3 (by omega)
 have r3 := Blk.keep (Blk.grown (unhide HB).2 (unhide G2)) m3 (by omega)
 have M3 : Mk U w w3 := (Mk.kp (Kp.of (gtrans (unhide HG).1 (unhide G2)))).trans (Mk.of m3)
 have x0 : w3.cell? ⟨w.heap.size, 0, none⟩ = some (.int .i64 n) := Blk.cell b3 0
 have x1 : w3.cell? ⟨w.heap.size, 1, none⟩ = some (.int .i64 n) := Blk.cell b3 1
 have x2 : w3.cell? ⟨w.heap.size, 2, none⟩ = some (.slice (some ⟨b, o, none⟩) nn cap) := Blk.cell b3 2
 have S3 := hide (And.intro u3 (And.intro M3 (And.intro b3 r3)))
 simp only [errB, if_true]
 clear u3 m3 b3 r3 M3 RF lU
 go_wp2_with fail
 refine (unhide UPP _ (unhide S3).2.1).mono ?_
 rintro e w4 ⟨rfl, g4⟩
 have S4 := hide (And.intro (Blk.grown (unhide S3).1 g4) (And.intro ((unhide S3).2.1.grown g4) (And.intro (Blk.grown (unhide S3).2.2.1 g4) (Blk.grown (unhide S3).2.2.2 g4))))
 clear g4 S3 x0 x1 x2 UPP
 have x0 : w4.cell? ⟨w.heap.size, 0, none⟩ = some (.int .i64 n) := Blk.cell (unhide S4).2.2.1 0
 have x1 : w4.cell? ⟨w.heap.size, 1, none⟩ = some (.int .i64 n) := Blk.cell (unhide S4).2.2.1 1
 have x2 : w4.cell? ⟨w.heap.size, 2, none⟩ = some (.slice (some ⟨b, o, none⟩) nn cap) := Blk.cell (unhide S4).2.2.1 2
 have T4 := hide (unhide TM _ (unhide S4).1 (unhide S4).2.1)
 clear TM
 go_wp2_with fail
 refine (unhide T4).mono ?_
 rintro e w5 ⟨Lb, pre, rfl, hl, hL, hT, ⟨cnt, q1, q2, hu⟩, hm⟩
 clear T4 x0 x1 x2
 have AT : Hid (Calls Tryz.prog 42 #[.pointer (some ⟨U, 0, none⟩), .slice (some ⟨Lb, 0, none⟩) (k + 1) (k + 1), .int .i64 t] w5 fun e w' => ValP n n nn (flowZ A n t) 0 (fun w' => UW U (c0 || flowC A n t) n0 200000 w' ∧ Mk U w5 w') w5 e w') := by
  obtain ⟨_, _, hn0, lU, k2, tI, ht, hn, hk, hnn⟩ := unhide HG
  have lw : w.heap.size ≤ w4.heap.size := (unhide S4).2.1.2.2.2
  obtain ⟨ao', cap', e, hM, hc, hoff⟩ := hL.mats
  rw [listT_len, hl] at e hM hc hoff
  cases e
  have hat : ∀ i, i ≤ k → ∃ x, pre[i]? = some x ∧ ixM (listT n nn A pre) i = XT n nn A i x := fun i hi => by
   have : i < pre.length := by omega
   exact ⟨pre[i], List.getElem?_eq_getElem this, listT_at n nn A pre i _ (List.getElem?_eq_getElem this)⟩
  have hZ : ∀ i, i ≤ k → ∀ p, p < nn → (ixM (listT n nn A pre) i).Z p = termZ A n i p := fun i hi p _ => by
   obtain ⟨x, _, e⟩ := hat i hi
   rw [e]
   rfl
  have hc' := hor_congr (fun i => (ixM (listT n nn A pre) i).Z) (termZ A n) k t nn hZ k
  refine (polyAt_ok U n n nn k (k + 1) (some ⟨Lb, 0, none⟩) (c0 || termC A n k) cnt t ⟨by omega, by omega⟩ ht hn hn hnn (by omega) (Nat.le_refl _) (ixM (listT n nn A pre)) (fun i hi => ?_) (fun i hi j hj => ?_) w5 hu hM (fun i hi => ?_) (fun i hi => ?_) (hoff U (by omega))).mono ?_
  ·obtain ⟨x, _, e⟩ := hat i hi
   rw [e]
   exact ⟨rfl, rfl, rfl⟩
  ·rw [hZ i hi j hj]
   exact tI i j hj
  ·obtain ⟨x, hx, e⟩ := hat i hi
   rw [e]
   exact (hT.1 i x hx).1.row
  ·obtain ⟨x, hx, e⟩ := hat i hi
   rw [e]
   have := (hT.1 i x hx).2.1
   exact off_blk (show x.1 ≠ U by omega)
  ·rintro e w6 ⟨a6, c6, B6, rfl, h2, h3, h4, ⟨c', r1, r2, hu6⟩, h6⟩
   refine ⟨a6, c6, B6, rfl, h2, h3, h4.imp id fun h => ⟨h.1, h.2.congr fun p hp => ?_⟩, ⟨c', by omega, by omega, ?_⟩, h6⟩
   ·rw [(unhide eF).2, ← Bool.or_assoc, ← hc'.2]
    exact hu6
   ·rw [hc'.1 p hp, (unhide eF).1]
 have S5 : Hid (Mk U w w5 ∧ Blk (w.heap.size + 1) #[.int .i64 0, .int .i64 0, .slice none 0 0] 38 w5) := ⟨(unhide S4).2.1.trans hm, Blk.mk (unhide S4).2.2.2 hm (by have := (unhide HG).2.2.2.1; omega)⟩
 clear hl hL hT q1 q2 hu hm S4
 go_wp2_with fail
 refine (unhide AT).mono ?_
 rintro e w6 ⟨a6, c6, B6, rfl, h2, h3, h4, hu6, h6⟩
 have r6 := Blk.mk (unhide S5).2 h6 (by have := (unhide HG).2.2.2.1; omega)
 have M6 : Mk U w w6 := (unhide S5).1.trans h6
 have e0 : w6.cell? ⟨w.heap.size + 1, 0, none⟩ = some (.int .i64 0) := Blk.cell r6 0
 have e1 : w6.cell? ⟨w.heap.size + 1, 1, none⟩ = some (.int .i64 0) := Blk.cell r6 1
 have e2 : w6.cell? ⟨w.heap.size + 1, 2, none⟩ = some (.slice none 0 0) := Blk.cell r6 2
 have f := Blk.free r6
 have R := hide (And.intro h2 (And.intro (Nat.le_trans (unhide S5).1.2.2.2 h3) (And.intro h4 (And.intro hu6 (And.intro M6 (And.intro r6 (unhide HG).2.2.2.1))))))
 have R2 : Hid (w.heap.size + 1 < w5.heap.size ∧ w5.heap.size ≤ B6) := ⟨Blk.lt (unhide S5).2, h3⟩
 clear h2 h3 h4 hu6 h6 r6 M6 AT S5 HB HG G2
 go_wp2
 obtain ⟨h2, h3, h4, ⟨c', r1, r2, hu6⟩, M6, r6, lU⟩ := unhide R
 have P := putM r6 (.int .i64 n) (.int .i64 n) (.slice a6 nn c6)
 generalize (((w6.setCell ⟨w.heap.size + 1, 0, none⟩ (.int .i64 n)).setCell ⟨w.heap.size + 1, 1, none⟩ (.int .i64 n)).setCell ⟨w.heap.size + 1, 2, none⟩ (.slice a6 nn c6)) = wE at *
 have c0' : wE.cell? ⟨w.heap.size + 1, 0, none⟩ = some (.int .i64 n) := Blk.cell P.1 0
 have c1' : wE.cell? ⟨w.heap.size + 1, 1, none⟩ = some (.int .i64 n) := Blk.cell P.1 1
 have c2' : wE.cell? ⟨w.heap.size + 1, 2, none⟩ = some (.slice a6 nn c6) := Blk.cell P.1 2
 refine bodyPost_ret (v := .tuple #[.agg #[.int .i64 n, .int .i64 n, .slice a6 nn c6], .int .i64 0]) (by simp [results, Tryz.results38, go_sem, c0', c1', c2']) rfl ?_
 exact ⟨a6, c6, B6, rfl, h2, h3, h4.imp id fun h => ⟨h.1, h.2.mk (Mk.of P.2) (by have := unhide R2; omega)⟩, ⟨c', r1, r2, Blk.keep hu6 P.2 (by omega)⟩, M6.new P.2 (by omega)⟩
theorem take_slotP {P : Program} {ops : Array Oper} {Q : Exit → Act → World → Prop} {md : Region.Mode} {S : World → Prop} {i d : Nat} {oi : Oper} {v : Value} {fuel : Nat} {listed : Array Bool} {a : Act} {w : World} (hi : ops[i]? = some oi) (hd : oi.dst = some d)
  (hs : Region.noSelect ops = true) (hf : Region.free md ops listed i = true) (hr : (Region.ready md ops listed).contains i = true)
  (hQ : ∀ c a w, Q (.panic c) (a.put (some d) v) w → Q (.panic c) a w) (hy : YieldsIf P ops S oi v a) (hS : S w)
  (h : wpAnyH P md ops Q S fuel (listed.setIfInBounds i true) (a.put (some d) v) w) : wpAnyH P md ops Q S (fuel + 1) listed a w :=
 wpAnyH_take hi hs hf hr (by rw [hd]; exact hQ) hy hS (by rw [hd]; exact h)
def inTime (ticks : Int) : Prop := -1099511627776 ≤ ticks ∧ ticks ≤ 1099511627776
open Classical in
noncomputable def rfD (m : DV) (ticks : Int) : Int := if okD m then (if inTime ticks then 0 else 4) else 2
theorem rfD_time {m : DV} {ticks : Int} (h : okD m) (h2 : inTime ticks) : rfD m ticks = 0 := by unfold rfD; rw [if_pos h, if_pos h2]
theorem rfD_late {m : DV} {ticks : Int} (h : okD m) (h2 : ¬ inTime ticks) : rfD m ticks = 4 := by unfold rfD; rw [if_pos h, if_neg h2]
theorem rfD_no {m : DV} {ticks : Int} (h : ¬ okD m) : rfD m ticks = 2 := by unfold rfD; rw [if_neg h]
theorem Blk.cellsM {A : Nat} {m : DV} {W : World} (h : Blk A m.cells 25 W) : W.cell? ⟨A, 0, none⟩ = some (.int .i64 m.N) ∧ W.cell? ⟨A, 1, none⟩ = some (.slice m.A.ao m.A.len m.A.cap) ∧ W.cell? ⟨A, 2, none⟩ = some (.slice m.Q.ao m.Q.len m.Q.cap) ∧ W.cell? ⟨A, 3, none⟩ = some (.int .i64 m.tick) ∧ W.cell? ⟨A, 4, none⟩ = some (.int .i64 m.gate) ∧ W.cell? ⟨A, 5, none⟩ = some (.int .i64 m.rmin) ∧ W.cell? ⟨A, 6, none⟩ = some (.slice m.ro m.rl m.rc) :=
 ⟨Blk.cell h 0, Blk.cell h 1, Blk.cell h 2, Blk.cell h 3, Blk.cell h 4, Blk.cell h 5, Blk.cell h 6⟩
def inP (lo hi x : Int) : Prop := lo ≤ x ∧ x ≤ hi
def inB (lo hi x : Int) : Bool := decide (lo ≤ x) && decide (x ≤ hi)
theorem inB_yes {lo hi x : Int} (h : inP lo hi x) : inB lo hi x = true := by unfold inB inP at *; simp; exact h
theorem inB_no {lo hi x : Int} (h : ¬ inP lo hi x) : inB lo hi x = false := by unfold inB inP at *; simp; omega
set_option maxHeartbeats 1000000 in
theorem mWithin (x lo hi : Int) (w : World) : Calls Tryz.prog 51 #[.int .i64 x, .int .i64 lo, .int .i64 hi] w fun e w' => e = .returned (.bool (inB lo hi x)) ∧ w' = w := by
 unfold inB
 by_cases h : lo ≤ x
 ·rw [decide_eq_true h]
  have d : decide (lo ≤ x) = true := decide_eq_true h
  clear h
  go_enter Tryz.func51, Tryz.ntmps51
  go_wp2
  go_ret
  exact ⟨by simp, rfl⟩
 ·rw [decide_eq_false h]
  have d : decide (lo ≤ x) = false := decide_eq_false h
  clear h
  go_enter Tryz.func51, Tryz.ntmps51
  go_wp2
  go_ret
  exact ⟨rfl, rfl⟩
set_option maxHeartbeats 1000000 in
theorem mNot (x lo hi : Int) (P Q : Nat) (w : World) (c0 : w.cell? ⟨P, 0, none⟩ = some (.int .i64 lo)) (c1 : w.cell? ⟨Q, 0, none⟩ = some (.int .i64 hi)) :
  Calls Tryz.prog 102 #[.int .i64 x, .pointer (some ⟨P, 0, none⟩), .pointer (some ⟨Q, 0, none⟩)] w fun e w' => e = .returned (.bool (!inB lo hi x)) ∧ w' = w := by
 have C := hide (fun w => mWithin x lo hi w)
 go_enter Tryz.func102, Tryz.ntmps102
 go_wp2_with fail
 refine (unhide C _).mono ?_
 rintro e w1 ⟨rfl, e1⟩
 subst e1
 clear C
 go_wp2
 go_ret
 exact ⟨rfl, rfl⟩
def IxP (len : Nat) (lo hi : Int) (Z : Nat → Int) (w : World) (e : Ending) (w' : World) : Prop := ∃ r : Int, e = .returned (.int .i64 r) ∧ ((r = -1 ∧ ∀ i, i < len → inP lo hi (Z i)) ∨ (0 ≤ r ∧ ∃ i, i < len ∧ ¬ inP lo hi (Z i))) ∧ w' = w
set_option maxHeartbeats 2000000 in
theorem mIndex (ao : Option Addr) (len cap : Nat) (Z : Nat → Int) (lo hi : Int) (P Q : Nat) (hl : len ≤ 1000000) (w : World) (hr : Row w ao len Z) (c0 : w.cell? ⟨P, 0, none⟩ = some (.int .i64 lo)) (c1 : w.cell? ⟨Q, 0, none⟩ = some (.int .i64 hi)) :
  Calls Tryz.prog 132 #[.slice ao len cap, .func (.func 102) #[] #[.pointer (some ⟨P, 0, none⟩), .pointer (some ⟨Q, 0, none⟩)]] w fun e w' => IxP len lo hi Z w e w' := by
 have HR := hide hr
 have HC := hide (And.intro c0 c1)
 clear hr c0 c1
 go_enter Tryz.func132, Tryz.ntmps132
 go_wp2_with fail
 go_loop [8, 5] (fun i _ => ∃ k : Nat, k ≤ len ∧ i = .int .i64 k ∧ Hid (∀ j, j < k → inP lo hi (Z j))) (fun i _ => len - (intOf i).toNat)
 case atStart => exact ⟨0, Nat.zero_le _, rfl, fun j hj => absurd hj (Nat.not_lt_zero _)⟩
 case round =>
  obtain ⟨k, hk, rfl, HI⟩ := hrel
  by_cases hlt : k < len
  ·obtain ⟨b, o, rfl, hc⟩ := (unhide HR).at hlt
   have i0 : (0 : Int) ≤ (k : Int) := Int.natCast_nonneg _
   have i1 : (k : Int) < (len : Int) := Int.ofNat_lt.2 hlt
   obtain ⟨x, hx⟩ : ∃ x, Z k = x := ⟨_, rfl⟩
   rw [hx] at hc
   have HX := hide hx
   have C := hide (fun w c0 c1 => mNot x lo hi P Q w c0 c1)
   clear hx
   by_cases h : inP lo hi x
   ·rw [inB_yes h] at C
    have H2 : Hid (∀ j, j < k + 1 → inP lo hi (Z j)) := fun j hj => by
     by_cases e : j = k
     ·subst e; rw [unhide HX]; exact h
     ·exact unhide HI j (by omega)
    clear h HI
    go_wp2_with fail
    refine (unhide C _ (unhide HC).1 (unhide HC).2).mono ?_
    rintro e w1 ⟨rfl, e1⟩
    subst e1
    clear C
    go_wp2
    go_round
    case rel => exact ⟨k + 1, hlt, by go_num, H2⟩
    case measure => simp [intOf]; omega
   ·rw [inB_no h] at C
    have H2 : Hid (∃ i, i < len ∧ ¬ inP lo hi (Z i)) := ⟨k, hlt, by rw [unhide HX]; exact h⟩
    clear h HI
    go_wp2_with fail
    refine (unhide C _ (unhide HC).1 (unhide HC).2).mono ?_
    rintro e w1 ⟨rfl, e1⟩
    subst e1
    clear C
    go_wp2
    go_ret
    exact (show IxP _ _ _ _ _ _ _ from ⟨_, rfl, Or.inr ⟨i0, unhide H2⟩, rfl⟩)
  ·obtain rfl : k = len := by omega
   go_wp2
   go_ret
   exact (show IxP _ _ _ _ _ _ _ from ⟨_, rfl, Or.inl ⟨rfl, unhide HI⟩, rfl⟩)
open Classical in
noncomputable def someB (len : Nat) (lo hi : Int) (Z : Nat → Int) : Bool := decide (∃ i, i < len ∧ ¬ inP lo hi (Z i))
theorem someB_no {len : Nat} {lo hi : Int} {Z : Nat → Int} (h : ∀ i, i < len → inP lo hi (Z i)) : someB len lo hi Z = false := by classical exact decide_eq_false (fun ⟨i, hi, h2⟩ => h2 (h i hi))
theorem someB_yes {len : Nat} {lo hi : Int} {Z : Nat → Int} (h : ∃ i, i < len ∧ ¬ inP lo hi (Z i)) : someB len lo hi Z = true := by classical exact decide_eq_true h
set_option maxHeartbeats 1000000 in
theorem mContains (ao : Option Addr) (len cap : Nat) (Z : Nat → Int) (lo hi : Int) (P Q : Nat) (hl : len ≤ 1000000) (w : World) (hr : Row w ao len Z) (c0 : w.cell? ⟨P, 0, none⟩ = some (.int .i64 lo)) (c1 : w.cell? ⟨Q, 0, none⟩ = some (.int .i64 hi)) :
  Calls Tryz.prog 101 #[.slice ao len cap, .func (.func 102) #[] #[.pointer (some ⟨P, 0, none⟩), .pointer (some ⟨Q, 0, none⟩)]] w fun e w' => e = .returned (.bool (someB len lo hi Z)) ∧ w' = w := by
 have C := hide (mIndex ao len cap Z lo hi P Q hl w hr c0 c1)
 clear hr c0 c1
 go_enter Tryz.func101, Tryz.ntmps101
 go_wp2_with fail
 refine (unhide C).mono ?_
 rintro e w1 ⟨r, rfl, hr, e1⟩
 subst e1
 clear C
 rcases hr with ⟨rfl, h⟩ | ⟨h0, h⟩
 ·have H := hide (someB_no h)
  clear h
  go_wp2
  go_ret
  exact ⟨by rw [unhide H]; rfl, rfl⟩
 ·have H := hide (someB_yes h)
  have d : decide (0 ≤ r) = true := decide_eq_true h0
  clear h
  go_wp2
  go_ret
  exact ⟨by rw [unhide H]; rfl, rfl⟩
def numP (len : Nat) (n lo hi : Int) (Z : Nat → Int) : Prop := (len : Int) = n ∧ ∀ i, i < len → inP lo hi (Z i)
open Classical in
noncomputable def numB (len : Nat) (n lo hi : Int) (Z : Nat → Int) : Bool := decide (numP len n lo hi Z)
theorem numB_yes {len : Nat} {n lo hi : Int} {Z : Nat → Int} (h : numP len n lo hi Z) : numB len n lo hi Z = true := by classical exact decide_eq_true h
theorem numB_no {len : Nat} {n lo hi : Int} {Z : Nat → Int} (h : ¬ numP len n lo hi Z) : numB len n lo hi Z = false := by classical exact decide_eq_false h
theorem numB_some {len : Nat} {lo hi : Int} {Z : Nat → Int} : numB len (len : Int) lo hi Z = !someB len lo hi Z := by
 by_cases h : ∃ i, i < len ∧ ¬ inP lo hi (Z i)
 ·rw [someB_yes h, numB_no]
  ·rfl
  ·rintro ⟨_, h2⟩
   obtain ⟨i, hi, h3⟩ := h
   exact h3 (h2 i hi)
 ·have h2 : ∀ i, i < len → inP lo hi (Z i) := fun i hi => Classical.byContradiction fun h3 => h ⟨i, hi, h3⟩
  rw [someB_no h2, numB_yes ⟨rfl, h2⟩]
  rfl
set_option maxHeartbeats 1000000 in
theorem mNumbers (ao : Option Addr) (len cap : Nat) (Z : Nat → Int) (n lo hi : Int) (hl : len ≤ 1000000) (w : World) (hr : Row w ao len Z) :
  Calls Tryz.prog 53 #[.slice ao len cap, .int .i64 n, .int .i64 lo, .int .i64 hi] w fun e w' => e = .returned (.bool (numB len n lo hi Z)) ∧ Grown w w' := by
 have G1 : Hid (Grown w ((w.alloc (.cells #[.int .i64 lo] 3)).alloc (.cells #[.int .i64 hi] 3))) := ((Grown.refl _).alloc _ _).alloc _ _
 have c0 : ((w.alloc (.cells #[.int .i64 lo] 3)).alloc (.cells #[.int .i64 hi] 3)).cell? ⟨w.heap.size, 0, none⟩ = some (.int .i64 lo) := Blk.cell (Blk.grown (Blk.new w #[.int .i64 lo] 3) ((Grown.refl _).alloc _ _)) 0
 have c1 : ((w.alloc (.cells #[.int .i64 lo] 3)).alloc (.cells #[.int .i64 hi] 3)).cell? ⟨w.heap.size + 1, 0, none⟩ = some (.int .i64 hi) := by
  have h := Blk.cell (Blk.new (w.alloc (.cells #[.int .i64 lo] 3)) #[.int .i64 hi] 3) 0
  rwa [show (w.alloc (.cells #[.int .i64 lo] 3)).heap.size = w.heap.size + 1 by simp] at h
 have C := hide (mContains ao len cap Z lo hi w.heap.size (w.heap.size + 1) hl _ (hr.grown (unhide G1)) c0 c1)
 clear c0 c1 hr
 by_cases h : (len : Int) = n
 ·subst h
  have d : ((len : Int) == (len : Int)) = true := by simp
  rw [numB_some]
  go_enter Tryz.func53, Tryz.ntmps53
  go_wp2_with fail
  refine (unhide C).mono ?_
  rintro e w1 ⟨rfl, e1⟩
  subst e1
  clear C
  go_wp2
  go_ret
  exact ⟨rfl, unhide G1⟩
 ·have d : ((len : Int) == n) = false := by simpa using h
  rw [numB_no (fun h2 => h h2.1)]
  clear C h
  go_enter Tryz.func53, Tryz.ntmps53
  go_wp2
  go_ret
  exact ⟨rfl, unhide G1⟩
theorem tdiv_nat (k n q : Nat) (h : k / n = q) : (k : Int).tdiv (n : Int) = (q : Int) := by
 rw [Int.tdiv_eq_ediv_of_nonneg (Int.natCast_nonneg _), ← h]
 exact (Int.natCast_ediv _ _).symm
theorem tmod_nat (k n r : Nat) (h : k % n = r) : (k : Int).tmod (n : Int) = (r : Int) := by
 rw [Int.tmod_eq_emod_of_nonneg (Int.natCast_nonneg _), ← h]
 exact (Int.natCast_emod _ _).symm
theorem wrapNk (q : Nat) (h : q ≤ 1000000) : IntKind.i64.wrap (q : Int) = (q : Int) := by rw [IntKind.wrap_i64]; omega
def upP (n len : Nat) (A : Nat → Int) : Prop := ∀ k, k < len → A k ≠ 0 → k / n < k % n
open Classical in
noncomputable def upDB (n len : Nat) (A : Nat → Int) : Bool := decide (upP n len A)
theorem upDB_yes {n len : Nat} {A : Nat → Int} (h : upP n len A) : upDB n len A = true := by classical exact decide_eq_true h
theorem upDB_no {n len : Nat} {A : Nat → Int} (h : ¬ upP n len A) : upDB n len A = false := by classical exact decide_eq_false h
set_option maxHeartbeats 2000000 in
theorem mUpper (ao : Option Addr) (len cap : Nat) (A : Nat → Int) (n : Nat) (hn : 1 ≤ n) (hl : len ≤ 1000000) (w : World) (hr : Row w ao len A) :
  Calls Tryz.prog 54 #[.slice ao len cap, .int .i64 n] w fun e w' => e = .returned (.bool (upDB n len A)) ∧ Grown w w' := by
 have HR := hide hr
 have n0 : ((n : Int) == 0) = false := by simp; omega
 have n1 : (n : Int) ≠ 0 := by omega
 have HN := hide hn
 clear hr hn
 go_enter Tryz.func54, Tryz.ntmps54
 go_wp2_with fail
 go_loopw [9, 5, 6] (fun i _ _ wr => ∃ k : Nat, k ≤ len ∧ i = .int .i64 k ∧ Hid ((∀ j, j < k → A j ≠ 0 → j / n < j % n) ∧ Grown w wr)) (fun i _ _ _ => len - (intOf i).toNat)
 case atStart => exact ⟨0, Nat.zero_le _, rfl, fun j hj => absurd hj (Nat.not_lt_zero _), Grown.refl _⟩
 case round =>
  obtain ⟨k, hk, rfl, HI⟩ := hrel
  by_cases hlt : k < len
  ·obtain ⟨b, o, rfl, hc0⟩ := (unhide HR).at hlt
   have i0 : (0 : Int) ≤ (k : Int) := Int.natCast_nonneg _
   have i1 : (k : Int) < (len : Int) := Int.ofNat_lt.2 hlt
   obtain ⟨x, hx⟩ : ∃ x, A k = x := ⟨_, rfl⟩
   rw [hx] at hc0
   have hc := gat (unhide HI).2 hc0
   have HX := hide hx
   clear hx hc0
   by_cases h : x = 0
   ·subst h
    have d : ((0 : Int) != 0) = false := by decide
    have H2 : Hid ((∀ j, j < k + 1 → A j ≠ 0 → j / n < j % n) ∧ ∀ m, Grown w (wr.drewN m)) := ⟨fun j hj => by
     by_cases e : j = k
     ·subst e; intro h; exact absurd (unhide HX) h
     ·exact (unhide HI).1 j (by omega), fun m => (unhide HI).2⟩
    clear HI
    go_wp2_with fail
    go_quiet (fail)
    go_wp2
    go_roundw
    case rel => exact ⟨k + 1, hlt, by go_num, (unhide H2).1, (unhide H2).2 _⟩
    case measure => simp [intOf]; omega
   ·have d : (x != 0) = true := by simpa using h
    obtain ⟨q, hq⟩ : ∃ q, k / n = q := ⟨_, rfl⟩
    obtain ⟨r, hr⟩ : ∃ r, k % n = r := ⟨_, rfl⟩
    have tq := tdiv_nat k n q hq
    have tr := tmod_nat k n r hr
    have hq2 : q ≤ k := by rw [← hq]; exact Nat.div_le_self _ _
    have hr2 : r ≤ k := by rw [← hr]; exact Nat.mod_le _ _
    have wq := wrapNk q (by omega)
    have wr' := wrapNk r (by omega)
    by_cases h2 : r ≤ q
    ·have d2 : decide ((r : Int) ≤ (q : Int)) = true := decide_eq_true (by omega)
     have H2 : Hid (upDB n len A = false ∧ ∀ m, Grown w (wr.drewN m)) := ⟨upDB_no (fun hp => by have := hp k hlt (by rw [unhide HX]; exact h); omega), fun m => (unhide HI).2⟩
     clear HI h hq hr hq2 hr2
     go_wp2_with fail
     go_quiet (fail)
     go_wp2
     go_ret
     exact ⟨(by rw [(unhide H2).1]; rfl), (unhide H2).2 _⟩
    ·have d2 : decide ((r : Int) ≤ (q : Int)) = false := decide_eq_false (by omega)
     have H2 : Hid ((∀ j, j < k + 1 → A j ≠ 0 → j / n < j % n) ∧ ∀ m, Grown w (wr.drewN m)) := ⟨fun j hj => by
      by_cases e : j = k
      ·subst e; intro h; omega
      ·exact (unhide HI).1 j (by omega), fun m => (unhide HI).2⟩
     clear HI h hq hr hq2 hr2
     go_wp2_with fail
     go_quiet (fail)
     go_wp2
     go_roundw
     case rel => exact ⟨k + 1, hlt, by go_num, (unhide H2).1, (unhide H2).2 _⟩
     case measure => simp [intOf]; omega
  ·obtain rfl : k = len := by omega
   have H2 : Hid (upDB n k A = true ∧ Grown w wr) := ⟨upDB_yes (unhide HI).1, (unhide HI).2⟩
   clear HI
   go_wp2
   go_ret
   exact ⟨(by rw [(unhide H2).1]; rfl), (unhide H2).2⟩
def ordP (N rmin : Int) (X : Nat → RV) (n : Nat) : Prop := ∀ i, i < n → okRow N rmin (lastS X i) (X i)
open Classical in
noncomputable def ordB (N rmin : Int) (X : Nat → RV) (n : Nat) : Bool := decide (ordP N rmin X n)
theorem ordB_yes {N rmin : Int} {X : Nat → RV} {n : Nat} (h : ordP N rmin X n) : ordB N rmin X n = true := by classical exact decide_eq_true h
theorem ordB_no {N rmin : Int} {X : Nat → RV} {n : Nat} (h : ¬ ordP N rmin X n) : ordB N rmin X n = false := by classical exact decide_eq_false h
theorem ordP.last {N rmin : Int} {X : Nat → RV} {n : Nat} (h : ordP N rmin X n) : 1 ≤ lastS X n := by
 cases n with
 | zero => exact Int.le_refl _
 | succ n => exact (h n (Nat.lt_succ_self _)).1.1
theorem ordP.step {N rmin : Int} {X : Nat → RV} {n : Nat} (h : ordP N rmin X n) (k : okRow N rmin (lastS X n) (X n)) : ordP N rmin X (n + 1) := fun j hj => by
 rcases Nat.lt_or_ge j n with h1 | h1
 ·exact h j h1
 ·rw [show j = n from Nat.le_antisymm (Nat.le_of_lt_succ hj) h1]; exact k
def rowE (X : Nat → RV) (k : Nat) (s r : Int) (ha : Option Addr) (hl hc : Nat) (Z : Nat → Int) : Prop := X k = ⟨s, ⟨ha, hl, hc, Z⟩, r⟩
theorem rowE.mk {N rmin l : Int} {X : Nat → RV} {k : Nat} {s r : Int} {ha : Option Addr} {hl hc : Nat} {Z : Nat → Int} (e : rowE X k s r ha hl hc Z) (h0 : 1 ≤ l) (h1 : inP l 16 s) (h2 : numP hl N (-68719476736) 68719476736 Z) (h3 : ¬ r < rmin) : okRow N rmin l (X k) := by
 unfold rowE at e
 rw [e]
 exact ⟨⟨Int.le_trans h0 h1.1, h1.2, h1.1⟩, h2.1, Int.not_lt.1 h3, h2.2⟩
theorem rowE.of {N rmin l : Int} {X : Nat → RV} {k : Nat} {s r : Int} {ha : Option Addr} {hl hc : Nat} {Z : Nat → Int} (e : rowE X k s r ha hl hc Z) (h : okRow N rmin l (X k)) : inP l 16 s ∧ numP hl N (-68719476736) 68719476736 Z ∧ ¬ r < rmin := by
 unfold rowE at e
 rw [e] at h
 exact ⟨⟨h.1.2.2, h.1.2.1⟩, ⟨h.2.1, h.2.2.2⟩, Int.not_lt.2 h.2.2.1⟩
theorem row_last {X : Nat → RV} {k : Nat} {s r : Int} {ha : Option Addr} {hl hc : Nat} {Z : Nat → Int} (e : rowE X k s r ha hl hc Z) : lastS X (k + 1) = s := by
 show (X k).s = s
 unfold rowE at e
 rw [e]
set_option maxRecDepth 20000 in
set_option maxHeartbeats 8000000 in
theorem mOrdered (N : Int) (aa qa ro : Option Addr) (al ac ql qc rl rc : Nat) (tick gate rmin : Int) (X : Nat → RV) (hl : rl ≤ 1000000) (w : World) (hr : RVs w ro rl X) (hh : ∀ i, i < rl → Row w (X i).h.ao (X i).h.len (X i).h.Z ∧ (X i).h.len ≤ 1000000) :
  Calls Tryz.prog 59 #[.agg #[.int .i64 N, .slice aa al ac, .slice qa ql qc, .int .i64 tick, .int .i64 gate, .int .i64 rmin, .slice ro rl rc]] w fun e w' => e = .returned (.bool (ordB N rmin X rl)) ∧ Grown w w' := by
 have G1 : Hid (Grown w (w.alloc (.cells #[.int .i64 N, .slice aa al ac, .slice qa ql qc, .int .i64 tick, .int .i64 gate, .int .i64 rmin, .slice ro rl rc] 25)) ∧ Blk w.heap.size #[.int .i64 N, .slice aa al ac, .slice qa ql qc, .int .i64 tick, .int .i64 gate, .int .i64 rmin, .slice ro rl rc] 25 (w.alloc (.cells #[.int .i64 N, .slice aa al ac, .slice qa ql qc, .int .i64 tick, .int .i64 gate, .int .i64 rmin, .slice ro rl rc] 25))) := ⟨(Grown.refl _).alloc _ _, Blk.new _ _ _⟩
 have RR := hide (And.intro hr hh)
 have y6 : (w.alloc (.cells #[.int .i64 N, .slice aa al ac, .slice qa ql qc, .int .i64 tick, .int .i64 gate, .int .i64 rmin, .slice ro rl rc] 25)).cell? ⟨w.heap.size, 6, none⟩ = some (.slice ro rl rc) := Blk.cell (unhide G1).2 6
 clear hr hh
 go_enter Tryz.func59, Tryz.ntmps59
 go_wp2_with fail
 generalize (w.alloc (.cells #[.int .i64 N, .slice aa al ac, .slice qa ql qc, .int .i64 tick, .int .i64 gate, .int .i64 rmin, .slice ro rl rc] 25)) = w1 at *
 go_loopw [9, 3, 5] (fun i l _ wr => ∃ (k : Nat) (last : Int), k ≤ rl ∧ i = .int .i64 k ∧ l = .int .i64 last ∧ Hid (last = lastS X k ∧ ordP N rmin X k ∧ Grown w wr ∧ Blk w.heap.size #[.int .i64 N, .slice aa al ac, .slice qa ql qc, .int .i64 tick, .int .i64 gate, .int .i64 rmin, .slice ro rl rc] 25 wr)) (fun i _ _ _ => rl - (intOf i).toNat)
 case atStart => exact ⟨0, 1, Nat.zero_le _, rfl, rfl, rfl, fun j hj => absurd hj (Nat.not_lt_zero _), unhide G1⟩
 case round =>
  obtain ⟨k, last, hk, rfl, rfl, HI⟩ := hrel
  clear y6
  by_cases hlt : k < rl
  ·obtain ⟨b, o, rfl, c0, c1, c2⟩ := ((unhide RR).1.grown (unhide HI).2.2.1).at hlt
   have i0 : (0 : Int) ≤ (k : Int) := Int.natCast_nonneg _
   have i1 : (k : Int) < (rl : Int) := Int.ofNat_lt.2 hlt
   have HH := hide (And.intro ((unhide RR).2 k hlt).2 (((unhide RR).2 k hlt).1.grown (unhide HI).2.2.1))
   obtain ⟨s, ⟨ha, hl, hc, Z⟩, r, hX⟩ : ∃ s h r, X k = ⟨s, h, r⟩ := ⟨_, _, _, rfl⟩
   have EX : Hid (rowE X k s r ha hl hc Z) := hX
   rw [hX] at c0 c1 c2 HH
   dsimp only at c0 c1 c2 HH
   clear hX
   have S2 : Hid (Grown wr (wr.alloc (.cells #[.int .i64 s, .slice ha hl hc, .int .i64 r] 62)) ∧ Blk wr.heap.size #[.int .i64 s, .slice ha hl hc, .int .i64 r] 62 (wr.alloc (.cells #[.int .i64 s, .slice ha hl hc, .int .i64 r] 62)) ∧ Blk w.heap.size #[.int .i64 N, .slice aa al ac, .slice qa ql qc, .int .i64 tick, .int .i64 gate, .int .i64 rmin, .slice (some ⟨b, o, none⟩) rl rc] 25 (wr.alloc (.cells #[.int .i64 s, .slice ha hl hc, .int .i64 r] 62))) := ⟨(Grown.refl _).alloc _ _, Blk.new _ _ _, Blk.grown (unhide HI).2.2.2 ((Grown.refl _).alloc _ _)⟩
   have CW := hide (fun w => mWithin s last 16 w)
   have CN : Hid (∀ W, Grown wr W → Calls Tryz.prog 53 #[.slice ha hl hc, .int .i64 N, .int .i64 (-68719476736), .int .i64 68719476736] W fun e w' => e = .returned (.bool (numB hl N (-68719476736) 68719476736 Z)) ∧ Grown W w') := fun W g => mNumbers ha hl hc Z N (-68719476736) 68719476736 (unhide HH).1 W ((unhide HH).2.grown g)
   clear HH
   by_cases h1 : inP last 16 s
   ·rw [inB_yes h1] at CW
    by_cases h2 : numP hl N (-68719476736) 68719476736 Z
    ·rw [numB_yes h2] at CN
     by_cases h3 : r < rmin
     ·have d3 : decide (r < rmin) = true := decide_eq_true h3
      have HB : Hid (ordB N rmin X rl = false) := ordB_no (fun h => ((unhide EX).of (h k hlt)).2.2 h3)
      clear h1 h2 h3
      go_wp2_with fail
      generalize hw2 : (wr.alloc (.cells #[.int .i64 s, .slice ha hl hc, .int .i64 r] 62)) = w2 at *
      clear hw2 c0 c1 c2
      refine (unhide CW _).mono ?_
      rintro e w3 ⟨rfl, e3⟩
      subst e3
      clear CW
      have r0 : w3.cell? ⟨wr.heap.size, 0, none⟩ = some (.int .i64 s) := Blk.cell (unhide S2).2.1 0
      have r1 : w3.cell? ⟨wr.heap.size, 1, none⟩ = some (.slice ha hl hc) := Blk.cell (unhide S2).2.1 1
      have r2 : w3.cell? ⟨wr.heap.size, 2, none⟩ = some (.int .i64 r) := Blk.cell (unhide S2).2.1 2
      have m0 : w3.cell? ⟨w.heap.size, 0, none⟩ = some (.int .i64 N) := Blk.cell (unhide S2).2.2 0
      have m5 : w3.cell? ⟨w.heap.size, 5, none⟩ = some (.int .i64 rmin) := Blk.cell (unhide S2).2.2 5
      go_wp2_with fail
      refine (unhide CN _ (unhide S2).1).mono ?_
      rintro e w4 ⟨rfl, g4⟩
      have S4 := hide (And.intro (gtrans (unhide S2).1 g4) (And.intro (Blk.grown (unhide S2).2.1 g4) (Blk.grown (unhide S2).2.2 g4)))
      clear g4 CN r0 r1 r2 m0 m5 S2
      have r0 : w4.cell? ⟨wr.heap.size, 0, none⟩ = some (.int .i64 s) := Blk.cell (unhide S4).2.1 0
      have r2 : w4.cell? ⟨wr.heap.size, 2, none⟩ = some (.int .i64 r) := Blk.cell (unhide S4).2.1 2
      have m5 : w4.cell? ⟨w.heap.size, 5, none⟩ = some (.int .i64 rmin) := Blk.cell (unhide S4).2.2 5
      go_wp2
      go_ret
      exact ⟨(by rw [unhide HB]; rfl), gtrans (unhide HI).2.2.1 (unhide S4).1⟩
     ·have d3 : decide (r < rmin) = false := decide_eq_false h3
      have HB : Hid (s = lastS X (k + 1) ∧ ordP N rmin X (k + 1)) := ⟨(row_last (unhide EX)).symm, (unhide HI).2.1.step ((unhide EX).mk (unhide HI).2.1.last (by rw [← (unhide HI).1]; exact h1) h2 h3)⟩
      clear h1 h2 h3
      go_wp2_with fail
      generalize hw2 : (wr.alloc (.cells #[.int .i64 s, .slice ha hl hc, .int .i64 r] 62)) = w2 at *
      clear hw2 c0 c1 c2
      refine (unhide CW _).mono ?_
      rintro e w3 ⟨rfl, e3⟩
      subst e3
      clear CW
      have r0 : w3.cell? ⟨wr.heap.size, 0, none⟩ = some (.int .i64 s) := Blk.cell (unhide S2).2.1 0
      have r1 : w3.cell? ⟨wr.heap.size, 1, none⟩ = some (.slice ha hl hc) := Blk.cell (unhide S2).2.1 1
      have r2 : w3.cell? ⟨wr.heap.size, 2, none⟩ = some (.int .i64 r) := Blk.cell (unhide S2).2.1 2
      have m0 : w3.cell? ⟨w.heap.size, 0, none⟩ = some (.int .i64 N) := Blk.cell (unhide S2).2.2 0
      have m5 : w3.cell? ⟨w.heap.size, 5, none⟩ = some (.int .i64 rmin) := Blk.cell (unhide S2).2.2 5
      go_wp2_with fail
      refine (unhide CN _ (unhide S2).1).mono ?_
      rintro e w4 ⟨rfl, g4⟩
      have S4 := hide (And.intro (gtrans (unhide S2).1 g4) (And.intro (Blk.grown (unhide S2).2.1 g4) (Blk.grown (unhide S2).2.2 g4)))
      clear g4 CN r0 r1 r2 m0 m5 S2
      have r0 : w4.cell? ⟨wr.heap.size, 0, none⟩ = some (.int .i64 s) := Blk.cell (unhide S4).2.1 0
      have r2 : w4.cell? ⟨wr.heap.size, 2, none⟩ = some (.int .i64 r) := Blk.cell (unhide S4).2.1 2
      have m5 : w4.cell? ⟨w.heap.size, 5, none⟩ = some (.int .i64 rmin) := Blk.cell (unhide S4).2.2 5
      go_wp2
      go_roundw
      case rel => exact ⟨k + 1, s, hlt, by go_num, rfl, (unhide HB).1, (unhide HB).2, gtrans (unhide HI).2.2.1 (unhide S4).1, (unhide S4).2.2⟩
      case measure => simp [intOf]; omega
    ·rw [numB_no h2] at CN
     have HB : Hid (ordB N rmin X rl = false) := ordB_no (fun h => h2 ((unhide EX).of (h k hlt)).2.1)
     clear h1 h2
     go_wp2_with fail
     generalize hw2 : (wr.alloc (.cells #[.int .i64 s, .slice ha hl hc, .int .i64 r] 62)) = w2 at *
     clear hw2 c0 c1 c2
     refine (unhide CW _).mono ?_
     rintro e w3 ⟨rfl, e3⟩
     subst e3
     clear CW
     have r0 : w3.cell? ⟨wr.heap.size, 0, none⟩ = some (.int .i64 s) := Blk.cell (unhide S2).2.1 0
     have r1 : w3.cell? ⟨wr.heap.size, 1, none⟩ = some (.slice ha hl hc) := Blk.cell (unhide S2).2.1 1
     have r2 : w3.cell? ⟨wr.heap.size, 2, none⟩ = some (.int .i64 r) := Blk.cell (unhide S2).2.1 2
     have m0 : w3.cell? ⟨w.heap.size, 0, none⟩ = some (.int .i64 N) := Blk.cell (unhide S2).2.2 0
     have m5 : w3.cell? ⟨w.heap.size, 5, none⟩ = some (.int .i64 rmin) := Blk.cell (unhide S2).2.2 5
     go_wp2_with fail
     refine (unhide CN _ (unhide S2).1).mono ?_
     rintro e w4 ⟨rfl, g4⟩
     have S4 := hide (And.intro (gtrans (unhide S2).1 g4) (And.intro (Blk.grown (unhide S2).2.1 g4) (Blk.grown (unhide S2).2.2 g4)))
     clear g4 CN r0 r1 r2 m0 m5 S2
     have r0 : w4.cell? ⟨wr.heap.size, 0, none⟩ = some (.int .i64 s) := Blk.cell (unhide S4).2.1 0
     have r2 : w4.cell? ⟨wr.heap.size, 2, none⟩ = some (.int .i64 r) := Blk.cell (unhide S4).2.1 2
     have m5 : w4.cell? ⟨w.heap.size, 5, none⟩ = some (.int .i64 rmin) := Blk.cell (unhide S4).2.2 5
     go_wp2
     go_ret
     exact ⟨(by rw [unhide HB]; rfl), gtrans (unhide HI).2.2.1 (unhide S4).1⟩
   ·rw [inB_no h1] at CW
    have HB : Hid (ordB N rmin X rl = false) := ordB_no (fun h => h1 (by rw [(unhide HI).1]; exact ((unhide EX).of (h k hlt)).1))
    clear h1
    go_wp2_with fail
    generalize hw2 : (wr.alloc (.cells #[.int .i64 s, .slice ha hl hc, .int .i64 r] 62)) = w2 at *
    clear hw2 c0 c1 c2
    refine (unhide CW _).mono ?_
    rintro e w3 ⟨rfl, e3⟩
    subst e3
    clear CW
    have r0 : w3.cell? ⟨wr.heap.size, 0, none⟩ = some (.int .i64 s) := Blk.cell (unhide S2).2.1 0
    have r1 : w3.cell? ⟨wr.heap.size, 1, none⟩ = some (.slice ha hl hc) := Blk.cell (unhide S2).2.1 1
    have r2 : w3.cell? ⟨wr.heap.size, 2, none⟩ = some (.int .i64 r) := Blk.cell (unhide S2).2.1 2
    have m0 : w3.cell? ⟨w.heap.size, 0, none⟩ = some (.int .i64 N) := Blk.cell (unhide S2).2.2 0
    have m5 : w3.cell? ⟨w.heap.size, 5, none⟩ = some (.int .i64 rmin) := Blk.cell (unhide S2).2.2 5
    go_wp2
    go_ret
    exact ⟨(by rw [unhide HB]; rfl), gtrans (unhide HI).2.2.1 (unhide S2).1⟩
  ·obtain rfl : k = rl := by omega
   have H2 : Hid (ordB N rmin X k = true ∧ Grown w wr) := ⟨ordB_yes (unhide HI).2.1, (unhide HI).2.2.1⟩
   clear HI
   go_wp2
   go_ret
   exact ⟨(by rw [(unhide H2).1]; rfl), (unhide H2).2⟩
def allB (n : Nat) (b : Nat → Bool) : Bool := decide (∀ i, i < n → b i = true)
theorem allB_yes {n : Nat} {b : Nat → Bool} (h : ∀ i, i < n → b i = true) : allB n b = true := decide_eq_true h
theorem allB_no {n : Nat} {b : Nat → Bool} {k : Nat} (hk : k < n) (h : b k = false) : allB n b = false := decide_eq_false (fun h2 => by rw [h2 k hk] at h; cases h)
set_option maxHeartbeats 4000000 in
theorem mAll (B n cap P : Nat) (F : Nat → Nat) (b : Nat → Bool) (I : World → Prop) (hn : n ≤ 1000000) (w : World) (h0 : Hid (I w))
  (HC : Hid (∀ W, I W → ∀ i, i < n → W.cell? ⟨B, i, none⟩ = some (.func (.func (F i)) #[] #[.pointer (some ⟨P, 0, none⟩)])))
  (HF : Hid (∀ i, i < n → ∀ args w, (callFunc (F i) args).run Tryz.prog w = .ok (.enter (F i) args) w))
  (C : Hid (∀ i, i < n → (∀ j, j < i → b j = true) → ∀ W, I W → Calls Tryz.prog (F i) #[.pointer (some ⟨P, 0, none⟩)] W fun e w' => e = .returned (.bool (b i)) ∧ I w')) :
  Calls Tryz.prog 49 #[.slice (some ⟨B, 0, none⟩) n cap] w fun e w' => e = .returned (.bool (allB n b)) ∧ I w' := by
 go_enter Tryz.func49, Tryz.ntmps49
 go_wp2_with fail
 go_loopw [7, 4] (fun i _ wr => ∃ k : Nat, k ≤ n ∧ i = .int .i64 k ∧ Hid ((∀ j, j < k → b j = true) ∧ I wr)) (fun i _ _ => n - (intOf i).toNat)
 case atStart => exact ⟨0, Nat.zero_le _, rfl, fun j hj => absurd hj (Nat.not_lt_zero _), unhide h0⟩
 case round =>
  obtain ⟨k, hk, rfl, HI⟩ := hrel
  by_cases hlt : k < n
  ·have i0 : (0 : Int) ≤ (k : Int) := Int.natCast_nonneg _
   have i1 : (k : Int) < (n : Int) := Int.ofNat_lt.2 hlt
   have c0 := unhide HC wr (unhide HI).2 k hlt
   have CC := hide (unhide C k hlt (unhide HI).1 wr (unhide HI).2)
   have eF := unhide HF k hlt
   obtain ⟨f, hf⟩ : ∃ f, F k = f := ⟨_, rfl⟩
   rw [hf] at c0 CC eF
   obtain ⟨x, hx⟩ : ∃ x, b k = x := ⟨_, rfl⟩
   rw [hx] at CC
   have HX := hide hx
   clear hf hx
   cases x with
   | true =>
    have H2 : Hid (∀ j, j < k + 1 → b j = true) := fun j hj => by
     rcases Nat.lt_or_ge j k with h1 | h1
     ·exact (unhide HI).1 j h1
     ·rw [show j = k from Nat.le_antisymm (Nat.le_of_lt_succ hj) h1]; exact unhide HX
    clear HI HX
    go_wp2_with fail
    refine (unhide CC).mono ?_
    rintro e w2 ⟨rfl, h2⟩
    have H3 := hide h2
    clear CC h2 c0 eF
    go_wp2
    go_roundw
    case rel => exact ⟨k + 1, hlt, by go_num, unhide H2, unhide H3⟩
    case measure => simp [intOf]; omega
   | false =>
    have H2 : Hid (allB n b = false) := allB_no hlt (unhide HX)
    clear HI HX
    go_wp2_with fail
    refine (unhide CC).mono ?_
    rintro e w2 ⟨rfl, h2⟩
    have H3 := hide h2
    clear CC h2 c0 eF
    go_wp2
    go_ret
    exact ⟨(by rw [unhide H2]; rfl), unhide H3⟩
  ·obtain rfl : k = n := by omega
   have H2 : Hid (allB k b = true ∧ I wr) := ⟨allB_yes (unhide HI).1, (unhide HI).2⟩
   clear HI
   go_wp2
   go_ret
   exact ⟨(by rw [(unhide H2).1]; rfl), (unhide H2).2⟩
set_option maxRecDepth 20000 in
set_option maxHeartbeats 4000000 in
theorem mCk1 (N : Int) (aa qa ro : Option Addr) (al ac ql qc rl rc : Nat) (tick gate rmin : Int) (P : Nat) (w : World) (bl : Blk P #[.int .i64 N, .slice aa al ac, .slice qa ql qc, .int .i64 tick, .int .i64 gate, .int .i64 rmin, .slice ro rl rc] 25 w) :
  Calls Tryz.prog 50 #[.pointer (some ⟨P, 0, none⟩)] w fun e w' => e = .returned (.bool (inB 1 6 N)) ∧ w' = w := by
 have y0 : w.cell? ⟨P, 0, none⟩ = some (.int .i64 N) := Blk.cell bl 0
 have C := hide (fun w => mWithin N 1 6 w)
 go_enter Tryz.func50, Tryz.ntmps50
 go_wp2_with fail
 refine (unhide C _).mono ?_
 rintro e w1 ⟨rfl, e1⟩
 subst e1
 clear C
 go_wp2
 go_ret
 exact ⟨rfl, rfl⟩
set_option maxRecDepth 20000 in
set_option maxHeartbeats 4000000 in
theorem mCk4 (N : Int) (aa qa ro : Option Addr) (al ac ql qc rl rc : Nat) (tick gate rmin : Int) (P : Nat) (w : World) (bl : Blk P #[.int .i64 N, .slice aa al ac, .slice qa ql qc, .int .i64 tick, .int .i64 gate, .int .i64 rmin, .slice ro rl rc] 25 w) :
  Calls Tryz.prog 56 #[.pointer (some ⟨P, 0, none⟩)] w fun e w' => e = .returned (.bool (inB 1 4294967296 tick)) ∧ w' = w := by
 have y3 : w.cell? ⟨P, 3, none⟩ = some (.int .i64 tick) := Blk.cell bl 3
 have C := hide (fun w => mWithin tick 1 4294967296 w)
 go_enter Tryz.func56, Tryz.ntmps56
 go_wp2_with fail
 refine (unhide C _).mono ?_
 rintro e w1 ⟨rfl, e1⟩
 subst e1
 clear C
 go_wp2
 go_ret
 exact ⟨rfl, rfl⟩
set_option maxRecDepth 20000 in
set_option maxHeartbeats 4000000 in
theorem mCk5 (N : Int) (aa qa ro : Option Addr) (al ac ql qc rl rc : Nat) (tick gate rmin : Int) (P : Nat) (w : World) (bl : Blk P #[.int .i64 N, .slice aa al ac, .slice qa ql qc, .int .i64 tick, .int .i64 gate, .int .i64 rmin, .slice ro rl rc] 25 w) :
  Calls Tryz.prog 57 #[.pointer (some ⟨P, 0, none⟩)] w fun e w' => e = .returned (.bool (decide (1 ≤ gate) && decide (1 ≤ rmin))) ∧ w' = w := by
 have y4 : w.cell? ⟨P, 4, none⟩ = some (.int .i64 gate) := Blk.cell bl 4
 have y5 : w.cell? ⟨P, 5, none⟩ = some (.int .i64 rmin) := Blk.cell bl 5
 by_cases h : 1 ≤ gate
 ·rw [decide_eq_true h]
  have d : decide (1 ≤ gate) = true := decide_eq_true h
  clear h
  go_enter Tryz.func57, Tryz.ntmps57
  go_wp2
  go_ret
  exact ⟨by simp, rfl⟩
 ·rw [decide_eq_false h]
  have d : decide (1 ≤ gate) = false := decide_eq_false h
  clear h
  go_enter Tryz.func57, Tryz.ntmps57
  go_wp2
  go_ret
  exact ⟨rfl, rfl⟩
set_option maxRecDepth 20000 in
set_option maxHeartbeats 4000000 in
theorem mCk3 (N : Int) (aa qa ro : Option Addr) (al ac ql qc rl rc : Nat) (tick gate rmin : Int) (P : Nat) (w : World) (bl : Blk P #[.int .i64 N, .slice aa al ac, .slice qa ql qc, .int .i64 tick, .int .i64 gate, .int .i64 rmin, .slice ro rl rc] 25 w) (Q : Nat → Int) (hq : ql ≤ 1000000) (hr : Row w qa ql Q) :
  Calls Tryz.prog 55 #[.pointer (some ⟨P, 0, none⟩)] w fun e w' => e = .returned (.bool (numB ql N 0 68719476736 Q)) ∧ Grown w w' := by
 have y0 : w.cell? ⟨P, 0, none⟩ = some (.int .i64 N) := Blk.cell bl 0
 have y2 : w.cell? ⟨P, 2, none⟩ = some (.slice qa ql qc) := Blk.cell bl 2
 have C := hide (mNumbers qa ql qc Q N 0 68719476736 hq w hr)
 clear hr bl
 go_enter Tryz.func55, Tryz.ntmps55
 go_wp2_with fail
 refine (unhide C).mono ?_
 rintro e w1 ⟨rfl, g1⟩
 have G := hide g1
 clear C g1 y0 y2
 go_wp2
 go_ret
 exact ⟨rfl, unhide G⟩
set_option maxRecDepth 20000 in
set_option maxHeartbeats 4000000 in
theorem mCk2 (n : Nat) (aa qa ro : Option Addr) (al ac ql qc rl rc : Nat) (tick gate rmin : Int) (P : Nat) (w : World) (bl : Blk P #[.int .i64 (n : Int), .slice aa al ac, .slice qa ql qc, .int .i64 tick, .int .i64 gate, .int .i64 rmin, .slice ro rl rc] 25 w) (A : Nat → Int) (hn : 1 ≤ n ∧ n ≤ 6) (ha : al ≤ 1000000) (hr : Row w aa al A) :
  Calls Tryz.prog 52 #[.pointer (some ⟨P, 0, none⟩)] w fun e w' => e = .returned (.bool (numB al ((n * n : Nat) : Int) (-68719476736) 68719476736 A && upDB n al A)) ∧ Grown w w' := by
 have y0 : w.cell? ⟨P, 0, none⟩ = some (.int .i64 (n : Int)) := Blk.cell bl 0
 have y1 : w.cell? ⟨P, 1, none⟩ = some (.slice aa al ac) := Blk.cell bl 1
 obtain ⟨nn, hnn⟩ : ∃ nn, n * n = nn := ⟨_, rfl⟩
 have n36 : nn ≤ 1000000 := by have : n * n ≤ 36 := Nat.mul_le_mul hn.2 hn.2; omega
 rw [hnn]
 have wn : wrap64 ((n : Int) * (n : Int)) = (nn : Int) := wrapP n n nn hnn n36
 have C := hide (mNumbers aa al ac A (nn : Int) (-68719476736) 68719476736 ha w hr)
 have CU : Hid (∀ W, Grown w W → Calls Tryz.prog 54 #[.slice aa al ac, .int .i64 n] W fun e w' => e = .returned (.bool (upDB n al A)) ∧ Grown W w') := fun W g => mUpper aa al ac A n hn.1 ha W (hr.grown g)
 have BL := hide bl
 clear hr hnn n36 hn bl
 by_cases h : numP al (nn : Int) (-68719476736) 68719476736 A
 ·rw [numB_yes h] at C ⊢
  clear h
  go_enter Tryz.func52, Tryz.ntmps52
  go_wp2_with fail
  refine (unhide C).mono ?_
  rintro e w1 ⟨rfl, g1⟩
  have G := hide g1
  have bl := Blk.grown (unhide BL) g1
  clear C g1 y0 y1
  have z0 : w1.cell? ⟨P, 0, none⟩ = some (.int .i64 (n : Int)) := Blk.cell bl 0
  have z1 : w1.cell? ⟨P, 1, none⟩ = some (.slice aa al ac) := Blk.cell bl 1
  go_wp2_with fail
  refine (unhide CU _ (unhide G)).mono ?_
  rintro e w2 ⟨rfl, g2⟩
  have G2 := hide (gtrans (unhide G) g2)
  clear CU g2 z0 z1 bl
  go_wp2
  go_ret
  exact ⟨by simp, unhide G2⟩
 ·rw [numB_no h] at C ⊢
  clear h
  go_enter Tryz.func52, Tryz.ntmps52
  go_wp2_with fail
  refine (unhide C).mono ?_
  rintro e w1 ⟨rfl, g1⟩
  have G := hide g1
  clear C g1 y0 y1
  go_wp2
  go_ret
  exact ⟨rfl, unhide G⟩
set_option maxRecDepth 20000 in
set_option maxHeartbeats 4000000 in
theorem mCk6 (N : Int) (aa qa ro : Option Addr) (al ac ql qc rl rc : Nat) (tick gate rmin : Int) (P : Nat) (w : World) (bl : Blk P #[.int .i64 N, .slice aa al ac, .slice qa ql qc, .int .i64 tick, .int .i64 gate, .int .i64 rmin, .slice ro rl rc] 25 w) (X : Nat → RV) (hl : rl ≤ 1000000) (hr : RVs w ro rl X) (hh : ∀ i, i < rl → Row w (X i).h.ao (X i).h.len (X i).h.Z ∧ (X i).h.len ≤ 1000000) :
  Calls Tryz.prog 58 #[.pointer (some ⟨P, 0, none⟩)] w fun e w' => e = .returned (.bool (decide (rl ≤ 24) && ordB N rmin X rl)) ∧ Grown w w' := by
 have y0 : w.cell? ⟨P, 0, none⟩ = some (.int .i64 N) := Blk.cell bl 0
 have y1 : w.cell? ⟨P, 1, none⟩ = some (.slice aa al ac) := Blk.cell bl 1
 have y2 : w.cell? ⟨P, 2, none⟩ = some (.slice qa ql qc) := Blk.cell bl 2
 have y3 : w.cell? ⟨P, 3, none⟩ = some (.int .i64 tick) := Blk.cell bl 3
 have y4 : w.cell? ⟨P, 4, none⟩ = some (.int .i64 gate) := Blk.cell bl 4
 have y5 : w.cell? ⟨P, 5, none⟩ = some (.int .i64 rmin) := Blk.cell bl 5
 have y6 : w.cell? ⟨P, 6, none⟩ = some (.slice ro rl rc) := Blk.cell bl 6
 have C := hide (mOrdered N aa qa ro al ac ql qc rl rc tick gate rmin X hl w hr hh)
 clear hr hh
 by_cases h : rl ≤ 24
 ·rw [decide_eq_true h]
  have d : decide ((rl : Int) ≤ 24) = true := decide_eq_true (by omega)
  go_enter Tryz.func58, Tryz.ntmps58
  go_wp2_with fail
  refine (unhide C).mono ?_
  rintro e w1 ⟨rfl, g1⟩
  have G := hide g1
  clear C g1 y0 y1 y2 y3 y4 y5 y6 bl
  go_wp2
  go_ret
  exact ⟨by simp, unhide G⟩
 ·rw [decide_eq_false h]
  have d : decide ((rl : Int) ≤ 24) = false := decide_eq_false (by omega)
  clear C
  go_enter Tryz.func58, Tryz.ntmps58
  go_wp2
  go_ret
  exact ⟨rfl, Grown.refl _⟩
end Go.Proofs.YtjobgjcfkomhpaaGreat
namespace Go.Proofs.YtjobgjcfkomhpaaGreat
open Go.RowKit Go.Shelf Go.Proofs Go.Proofs.Wd
set_option maxRecDepth 10000
theorem div_at (i k n : Nat) (hk : k < n) : (i * n + k) / n = i := by
 rw [Nat.mul_comm, Nat.mul_add_div (by omega), Nat.div_eq_of_lt hk]
 rfl
theorem mod_at (i k n : Nat) (hk : k < n) : (i * n + k) % n = k := by
 rw [Nat.mul_comm, Nat.mul_add_mod, Nat.mod_eq_of_lt hk]
theorem at_div (p n : Nat) : p / n * n + p % n = p := by
 rw [Nat.mul_comm]
 exact Nat.div_add_mod p n
theorem at_lt (i k n : Nat) (hi : i < n) (hk : k < n) : i * n + k < n * n := by
 calc i * n + k < i * n + n := by omega
  _ = (i + 1) * n := by rw [Nat.add_mul, Nat.one_mul]
  _ ≤ n * n := Nat.mul_le_mul_right _ hi
theorem moves_iff (n al ql : Nat) (A Q : Nat → Int) : okMoves n al ql A Q ↔ (numP al ((n * n : Nat) : Int) (-68719476736) 68719476736 A ∧ upP n al A) ∧ numP ql (n : Int) 0 68719476736 Q := by
 constructor
 ·rintro ⟨h1, h2, h3⟩
  refine ⟨⟨⟨by rw [h1], fun p hp => ?_⟩, fun p hp h0 => ?_⟩, by rw [h2], fun p hp => (h3 p (by omega)).1⟩
  ·rw [h1] at hp
   have a := Nat.div_lt_of_lt_mul hp
   have b := Nat.mod_lt p (Nat.lt_of_le_of_lt (Nat.zero_le _) a)
   have c := ((h3 _ a).2 _ b).1
   rw [at_div] at c
   exact c
  ·rw [h1] at hp
   have a := Nat.div_lt_of_lt_mul hp
   have b := Nat.mod_lt p (Nat.lt_of_le_of_lt (Nat.zero_le _) a)
   have c := ((h3 _ a).2 _ b).2
   rw [at_div] at c
   exact Nat.lt_of_not_le (fun h => h0 (c h))
 ·rintro ⟨⟨⟨h1, h2⟩, h3⟩, h4, h5⟩
  have h1 : al = n * n := Int.ofNat.inj h1
  have h4 : ql = n := Int.ofNat.inj h4
  refine ⟨h1, h4, fun i hi => ⟨h5 i (by omega), fun k hk => ⟨h2 _ (by rw [h1]; exact at_lt i k n hi hk), fun hki => ?_⟩⟩⟩
  have c := h3 (i * n + k) (by rw [h1]; exact at_lt i k n hi hk)
  rw [div_at i k n hk, mod_at i k n hk] at c
  exact Classical.byContradiction fun h0 => absurd (c h0) (Nat.not_lt.2 hki)
noncomputable def ckB (N : Int) (al ql rl : Nat) (A Q : Nat → Int) (tick gate rmin : Int) (X : Nat → RV) : Nat → Bool
 | 0 => inB 1 6 N
 | 1 => numB al ((N.toNat * N.toNat : Nat) : Int) (-68719476736) 68719476736 A && upDB N.toNat al A
 | 2 => numB ql N 0 68719476736 Q
 | 3 => inB 1 4294967296 tick
 | 4 => decide (1 ≤ gate) && decide (1 ≤ rmin)
 | _ => decide (rl ≤ 24) && ordB N rmin X rl
theorem inB_iff {lo hi x : Int} : inB lo hi x = true ↔ inP lo hi x := ⟨fun h => by unfold inB at h; simp at h; exact h, inB_yes⟩
theorem numB_iff {len : Nat} {n lo hi : Int} {Z : Nat → Int} : numB len n lo hi Z = true ↔ numP len n lo hi Z := ⟨fun h => by classical exact of_decide_eq_true h, numB_yes⟩
theorem upDB_iff {n len : Nat} {A : Nat → Int} : upDB n len A = true ↔ upP n len A := ⟨fun h => by classical exact of_decide_eq_true h, upDB_yes⟩
theorem ordB_iff {N rmin : Int} {X : Nat → RV} {n : Nat} : ordB N rmin X n = true ↔ ordP N rmin X n := ⟨fun h => by classical exact of_decide_eq_true h, ordB_yes⟩
theorem allB_iff {n : Nat} {b : Nat → Bool} : allB n b = true ↔ ∀ i, i < n → b i = true := ⟨fun h => of_decide_eq_true h, allB_yes⟩
theorem ck_iff (N : Int) (al ql rl : Nat) (A Q : Nat → Int) (tick gate rmin : Int) (X : Nat → RV) : allB 6 (ckB N al ql rl A Q tick gate rmin X) = true ↔ okC N al ql rl A Q tick gate rmin X := by
 rw [allB_iff]
 unfold okC
 rw [moves_iff]
 constructor
 ·intro h
  have a0 := inB_iff.1 (h 0 (by omega))
  have a1 := Bool.and_eq_true_iff.1 (h 1 (by omega))
  have a2 := numB_iff.1 (h 2 (by omega))
  have a3 := inB_iff.1 (h 3 (by omega))
  have a4 := Bool.and_eq_true_iff.1 (h 4 (by omega))
  have a5 := Bool.and_eq_true_iff.1 (h 5 (by omega))
  have e : ((N.toNat : Nat) : Int) = N := Int.toNat_of_nonneg (Int.le_trans (by decide) a0.1)
  exact ⟨a0, ⟨⟨numB_iff.1 a1.1, upDB_iff.1 a1.2⟩, by rw [e]; exact a2⟩, a3, of_decide_eq_true a4.1, of_decide_eq_true a4.2, of_decide_eq_true a5.1, ordB_iff.1 a5.2⟩
 ·rintro ⟨a0, ⟨⟨a1, a2⟩, a3⟩, a4, a5, a6, a7, a8⟩ i hi
  have e : ((N.toNat : Nat) : Int) = N := Int.toNat_of_nonneg (Int.le_trans (by decide) a0.1)
  rw [e] at a3
  have : i = 0 ∨ i = 1 ∨ i = 2 ∨ i = 3 ∨ i = 4 ∨ i = 5 := by omega
  rcases this with rfl | rfl | rfl | rfl | rfl | rfl
  ·exact inB_yes a0
  ·exact Bool.and_eq_true_iff.2 ⟨numB_yes a1, upDB_yes a2⟩
  ·exact numB_yes a3
  ·exact inB_yes a4
  ·exact Bool.and_eq_true_iff.2 ⟨decide_eq_true a5, decide_eq_true a6⟩
  ·exact Bool.and_eq_true_iff.2 ⟨decide_eq_true a7, ordB_yes a8⟩
theorem chk_all {N : Int} {al ql rl : Nat} {A Q : Nat → Int} {tick gate rmin : Int} {X : Nat → RV} : chkC N al ql rl A Q tick gate rmin X = if allB 6 (ckB N al ql rl A Q tick gate rmin X) then 0 else 2 := by
 by_cases h : okC N al ql rl A Q tick gate rmin X
 ·rw [chkC_yes h, if_pos ((ck_iff ..).2 h)]
 ·rw [chkC_no h, if_neg (fun h2 => h ((ck_iff ..).1 h2))]
def ckF (i : Nat) : Nat := [50, 52, 55, 56, 57, 58].getD i 0
theorem ck_enters : ∀ i, i < 6 → ∀ args w, (callFunc (ckF i) args).run Tryz.prog w = .ok (.enter (ckF i) args) w := fun i hi => by
 have : i = 0 ∨ i = 1 ∨ i = 2 ∨ i = 3 ∨ i = 4 ∨ i = 5 := by omega
 rcases this with rfl | rfl | rfl | rfl | rfl | rfl
 ·exact enters_of Tryz.func50 (by kernel_rfl) rfl
 ·exact enters_of Tryz.func52 (by kernel_rfl) rfl
 ·exact enters_of Tryz.func55 (by kernel_rfl) rfl
 ·exact enters_of Tryz.func56 (by kernel_rfl) rfl
 ·exact enters_of Tryz.func57 (by kernel_rfl) rfl
 ·exact enters_of Tryz.func58 (by kernel_rfl) rfl
set_option maxRecDepth 20000 in
set_option maxHeartbeats 4000000 in
theorem mCheck (N : Int) (aa qa ro : Option Addr) (al ac ql qc rl rc : Nat) (tick gate rmin : Int) (A Q : Nat → Int) (X : Nat → RV) (la : al ≤ 1000000) (lq : ql ≤ 1000000) (hl : rl ≤ 1000000) (w : World) (ha : Row w aa al A) (hq : Row w qa ql Q) (hr : RVs w ro rl X) (hh : ∀ i, i < rl → Row w (X i).h.ao (X i).h.len (X i).h.Z ∧ (X i).h.len ≤ 1000000) :
  Calls Tryz.prog 26 #[.agg #[.int .i64 N, .slice aa al ac, .slice qa ql qc, .int .i64 tick, .int .i64 gate, .int .i64 rmin, .slice ro rl rc]] w fun e w' => e = .returned (.int .i64 (chkC N al ql rl A Q tick gate rmin X)) ∧ Grown w w' := by
 have G2 : Hid (Grown w ((w.alloc (.cells #[.int .i64 N, .slice aa al ac, .slice qa ql qc, .int .i64 tick, .int .i64 gate, .int .i64 rmin, .slice ro rl rc] 25)).alloc (.cells #[.func (.func 50) #[] #[.pointer (some ⟨w.heap.size, 0, none⟩)], .func (.func 52) #[] #[.pointer (some ⟨w.heap.size, 0, none⟩)], .func (.func 55) #[] #[.pointer (some ⟨w.heap.size, 0, none⟩)], .func (.func 56) #[] #[.pointer (some ⟨w.heap.size, 0, none⟩)], .func (.func 57) #[] #[.pointer (some ⟨w.heap.size, 0, none⟩)], .func (.func 58) #[] #[.pointer (some ⟨w.heap.size, 0, none⟩)]] 31)) ∧ Blk w.heap.size #[.int .i64 N, .slice aa al ac, .slice qa ql qc, .int .i64 tick, .int .i64 gate, .int .i64 rmin, .slice ro rl rc] 25 ((w.alloc (.cells #[.int .i64 N, .slice aa al ac, .slice qa ql qc, .int .i64 tick, .int .i64 gate, .int .i64 rmin, .slice ro rl rc] 25)).alloc (.cells #[.func (.func 50) #[] #[.pointer (some ⟨w.heap.size, 0, none⟩)], .func (.func 52) #[] #[.pointer (some ⟨w.heap.size, 0, none⟩)], .func (.func 55) #[] #[.pointer (some ⟨w.heap.size, 0, none⟩)], .func (.func 56) #[] #[.pointer (some ⟨w.heap.size, 0, none⟩)], .func (.func 57) #[] #[.pointer (some ⟨w.heap.size, 0, none⟩)], .func (.func 58) #[] #[.pointer (some ⟨w.heap.size, 0, none⟩)]] 31)) ∧ Blk (w.heap.size + 1) #[.func (.func 50) #[] #[.pointer (some ⟨w.heap.size, 0, none⟩)], .func (.func 52) #[] #[.pointer (some ⟨w.heap.size, 0, none⟩)], .func (.func 55) #[] #[.pointer (some ⟨w.heap.size, 0, none⟩)], .func (.func 56) #[] #[.pointer (some ⟨w.heap.size, 0, none⟩)], .func (.func 57) #[] #[.pointer (some ⟨w.heap.size, 0, none⟩)], .func (.func 58) #[] #[.pointer (some ⟨w.heap.size, 0, none⟩)]] 31 ((w.alloc (.cells #[.int .i64 N, .slice aa al ac, .slice qa ql qc, .int .i64 tick, .int .i64 gate, .int .i64 rmin, .slice ro rl rc] 25)).alloc (.cells #[.func (.func 50) #[] #[.pointer (some ⟨w.heap.size, 0, none⟩)], .func (.func 52) #[] #[.pointer (some ⟨w.heap.size, 0, none⟩)], .func (.func 55) #[] #[.pointer (some ⟨w.heap.size, 0, none⟩)], .func (.func 56) #[] #[.pointer (some ⟨w.heap.size, 0, none⟩)], .func (.func 57) #[] #[.pointer (some ⟨w.heap.size, 0, none⟩)], .func (.func 58) #[] #[.pointer (some ⟨w.heap.size, 0, none⟩)]] 31))) := by
  refine ⟨((Grown.refl _).alloc _ _).alloc _ _, Blk.grown (Blk.new _ _ _) ((Grown.refl _).alloc _ _), ?_⟩
  have h := Blk.new (w.alloc (.cells #[.int .i64 N, .slice aa al ac, .slice qa ql qc, .int .i64 tick, .int .i64 gate, .int .i64 rmin, .slice ro rl rc] 25)) #[.func (.func 50) #[] #[.pointer (some ⟨w.heap.size, 0, none⟩)], .func (.func 52) #[] #[.pointer (some ⟨w.heap.size, 0, none⟩)], .func (.func 55) #[] #[.pointer (some ⟨w.heap.size, 0, none⟩)], .func (.func 56) #[] #[.pointer (some ⟨w.heap.size, 0, none⟩)], .func (.func 57) #[] #[.pointer (some ⟨w.heap.size, 0, none⟩)], .func (.func 58) #[] #[.pointer (some ⟨w.heap.size, 0, none⟩)]] 31
  rwa [show (w.alloc (.cells #[.int .i64 N, .slice aa al ac, .slice qa ql qc, .int .i64 tick, .int .i64 gate, .int .i64 rmin, .slice ro rl rc] 25)).heap.size = w.heap.size + 1 by simp] at h
 have CA : Hid (Calls Tryz.prog 49 #[.slice (some ⟨w.heap.size + 1, 0, none⟩) 6 6] ((w.alloc (.cells #[.int .i64 N, .slice aa al ac, .slice qa ql qc, .int .i64 tick, .int .i64 gate, .int .i64 rmin, .slice ro rl rc] 25)).alloc (.cells #[.func (.func 50) #[] #[.pointer (some ⟨w.heap.size, 0, none⟩)], .func (.func 52) #[] #[.pointer (some ⟨w.heap.size, 0, none⟩)], .func (.func 55) #[] #[.pointer (some ⟨w.heap.size, 0, none⟩)], .func (.func 56) #[] #[.pointer (some ⟨w.heap.size, 0, none⟩)], .func (.func 57) #[] #[.pointer (some ⟨w.heap.size, 0, none⟩)], .func (.func 58) #[] #[.pointer (some ⟨w.heap.size, 0, none⟩)]] 31)) fun e w' => e = .returned (.bool (allB 6 (ckB N al ql rl A Q tick gate rmin X))) ∧ Grown ((w.alloc (.cells #[.int .i64 N, .slice aa al ac, .slice qa ql qc, .int .i64 tick, .int .i64 gate, .int .i64 rmin, .slice ro rl rc] 25)).alloc (.cells #[.func (.func 50) #[] #[.pointer (some ⟨w.heap.size, 0, none⟩)], .func (.func 52) #[] #[.pointer (some ⟨w.heap.size, 0, none⟩)], .func (.func 55) #[] #[.pointer (some ⟨w.heap.size, 0, none⟩)], .func (.func 56) #[] #[.pointer (some ⟨w.heap.size, 0, none⟩)], .func (.func 57) #[] #[.pointer (some ⟨w.heap.size, 0, none⟩)], .func (.func 58) #[] #[.pointer (some ⟨w.heap.size, 0, none⟩)]] 31)) w') := by
  refine mAll (w.heap.size + 1) 6 6 w.heap.size ckF (ckB N al ql rl A Q tick gate rmin X) (Grown _) (by omega) _ (Grown.refl _) ?_ ck_enters ?_
  ·intro W g i hi
   have bl := Blk.grown (unhide G2).2.2 g
   rw [Blk.cell bl]
   have : i = 0 ∨ i = 1 ∨ i = 2 ∨ i = 3 ∨ i = 4 ∨ i = 5 := by omega
   rcases this with rfl | rfl | rfl | rfl | rfl | rfl <;> rfl
  ·intro i hi hb W g
   have bl := Blk.grown (unhide G2).2.1 g
   have gw := gtrans (unhide G2).1 g
   by_cases hi0 : i = 0
   ·subst hi0
    exact (mCk1 N aa qa ro al ac ql qc rl rc tick gate rmin w.heap.size W bl).mono (fun e w' h => ⟨h.1, by rw [h.2]; exact g⟩)
   ·have a0 := inB_iff.1 (hb 0 (by omega))
    have : i = 1 ∨ i = 2 ∨ i = 3 ∨ i = 4 ∨ i = 5 := by omega
    rcases this with rfl | rfl | rfl | rfl | rfl
    ·obtain ⟨n, rfl⟩ : ∃ n : Nat, N = n := ⟨N.toNat, (Int.toNat_of_nonneg (Int.le_trans (by decide) a0.1)).symm⟩
     exact (mCk2 n aa qa ro al ac ql qc rl rc tick gate rmin w.heap.size W bl A ⟨by have := a0.1; omega, by have := a0.2; omega⟩ la (ha.grown gw)).mono (fun e w' h => ⟨h.1, gtrans g h.2⟩)
    ·exact (mCk3 N aa qa ro al ac ql qc rl rc tick gate rmin w.heap.size W bl Q lq (hq.grown gw)).mono (fun e w' h => ⟨h.1, gtrans g h.2⟩)
    ·exact (mCk4 N aa qa ro al ac ql qc rl rc tick gate rmin w.heap.size W bl).mono (fun e w' h => ⟨h.1, by rw [h.2]; exact g⟩)
    ·exact (mCk5 N aa qa ro al ac ql qc rl rc tick gate rmin w.heap.size W bl).mono (fun e w' h => ⟨h.1, by rw [h.2]; exact g⟩)
    ·exact (mCk6 N aa qa ro al ac ql qc rl rc tick gate rmin w.heap.size W bl X hl (hr.grown gw) (fun i hi => ⟨(hh i hi).1.grown gw, (hh i hi).2⟩)).mono (fun e w' h => ⟨h.1, gtrans g h.2⟩)
 rw [chk_all]
 obtain ⟨x, hx⟩ : ∃ x, allB 6 (ckB N al ql rl A Q tick gate rmin X) = x := ⟨_, rfl⟩
 rw [hx] at CA ⊢
 clear hx ha hq hr hh
 cases x with
 | true =>
  go_enter Tryz.func26, Tryz.ntmps26
  go_wp2_with fail
  refine (unhide CA).mono ?_
  rintro e w3 ⟨rfl, g3⟩
  have G3 := hide (gtrans (unhide G2).1 g3)
  clear CA g3 G2
  go_wp2
  go_ret
  exact ⟨rfl, unhide G3⟩
 | false =>
  go_enter Tryz.func26, Tryz.ntmps26
  go_wp2_with fail
  refine (unhide CA).mono ?_
  rintro e w3 ⟨rfl, g3⟩
  have G3 := hide (gtrans (unhide G2).1 g3)
  clear CA g3 G2
  go_wp2
  go_ret
  exact ⟨rfl, unhide G3⟩
theorem mCheckD (m : DV) (w : World) (h : m.good w) : Calls Tryz.prog 26 #[.agg m.cells] w fun e w' => e = .returned (.int .i64 (chkD m)) ∧ Grown w w' := by
 obtain ⟨hA, hQ, hr, hX, hf, hi, l1, l2, l3, l4⟩ := h
 rw [chkD_C]
 exact mCheck m.N m.A.ao m.Q.ao m.ro m.A.len m.A.cap m.Q.len m.Q.cap m.rl m.rc m.tick m.gate m.rmin m.A.Z m.Q.Z m.X (by omega) (by omega) (by omega) w hA.1 hQ.1 hr (fun i hi => ⟨(hX i hi).1.1, by have := l4 i hi; omega⟩)
end Go.Proofs.YtjobgjcfkomhpaaGreat
namespace Go.Proofs.YtjobgjcfkomhpaaGreat
open Go.RowKit Go.Shelf Go.Proofs.Wd
set_option maxRecDepth 10000
attribute [local go_sem ↓] Go.wp_at_zero Go.wp_at_succ
def smallM (m : DV) : Prop := m.A.len ≤ 40 ∧ m.Q.len ≤ 12 ∧ m.rl ≤ 30 ∧ ∀ i, i < m.rl → (m.X i).h.len ≤ 12
def LongMP (m : DV) (w : World) (e : Ending) (w' : World) : Prop := ∃ r : Bool, e = .returned (.bool r) ∧ Grown w w' ∧ (r = false → smallM m)
def smallC (al ql rl : Nat) (X : Nat → RV) : Prop := al ≤ 40 ∧ ql ≤ 12 ∧ rl ≤ 30 ∧ ∀ i, i < rl → (X i).h.len ≤ 12
def LongMC (al ql rl : Nat) (X : Nat → RV) (w : World) (e : Ending) (w' : World) : Prop := ∃ r : Bool, e = .returned (.bool r) ∧ Grown w w' ∧ (r = false → smallC al ql rl X)
set_option maxRecDepth 20000 in
set_option maxHeartbeats 4000000 in
theorem kitLongC (N : Int) (aa qa ro : Option Addr) (al ac ql qc rl rc : Nat) (tick gate rmin : Int) (X : Nat → RV) (w : World) (hr : RVs w ro rl X) :
  Calls Tryz.prog 10 #[.agg #[.int .i64 N, .slice aa al ac, .slice qa ql qc, .int .i64 tick, .int .i64 gate, .int .i64 rmin, .slice ro rl rc]] w fun e w' => LongMC al ql rl X w e w' := by
 have G1 : Hid (Grown w (w.alloc (.cells #[.int .i64 N, .slice aa al ac, .slice qa ql qc, .int .i64 tick, .int .i64 gate, .int .i64 rmin, .slice ro rl rc] 25))) := (Grown.refl _).alloc _ _
 have bl := Blk.new w #[.int .i64 N, .slice aa al ac, .slice qa ql qc, .int .i64 tick, .int .i64 gate, .int .i64 rmin, .slice ro rl rc] 25
 have y1 : (w.alloc (.cells #[.int .i64 N, .slice aa al ac, .slice qa ql qc, .int .i64 tick, .int .i64 gate, .int .i64 rmin, .slice ro rl rc] 25)).cell? ⟨w.heap.size, 1, none⟩ = some (.slice aa al ac) := Blk.cell bl 1
 have y2 : (w.alloc (.cells #[.int .i64 N, .slice aa al ac, .slice qa ql qc, .int .i64 tick, .int .i64 gate, .int .i64 rmin, .slice ro rl rc] 25)).cell? ⟨w.heap.size, 2, none⟩ = some (.slice qa ql qc) := Blk.cell bl 2
 have y6 : (w.alloc (.cells #[.int .i64 N, .slice aa al ac, .slice qa ql qc, .int .i64 tick, .int .i64 gate, .int .i64 rmin, .slice ro rl rc] 25)).cell? ⟨w.heap.size, 6, none⟩ = some (.slice ro rl rc) := Blk.cell bl 6
 have HR := hide (hr.grown (unhide G1))
 clear bl hr
 go_enter Tryz.func10, Tryz.ntmps10
 go_wp2_with fail
 generalize (w.alloc (.cells #[.int .i64 N, .slice aa al ac, .slice qa ql qc, .int .i64 tick, .int .i64 gate, .int .i64 rmin, .slice ro rl rc] 25)) = w1 at *
 go_loop [3] (fun i => ∃ k : Nat, k ≤ 31 ∧ k ≤ rl ∧ i = .int .i64 k ∧ Hid (∀ j, j < k → (X j).h.len ≤ 12)) (fun i => 31 - (intOf i).toNat)
 case atStart => exact ⟨0, Nat.zero_le _, Nat.zero_le _, rfl, fun j hj => absurd hj (Nat.not_lt_zero _)⟩
 case round =>
  obtain ⟨k, hk31, hk, rfl, HK⟩ := hrel
  by_cases hlt : k < rl
  ·have dk : decide ((k : Int) < (rl : Int)) = true := decide_eq_true (by omega)
   by_cases h31 : k < 31
   ·have dk2 : decide ((k : Int) < 31) = true := decide_eq_true (by omega)
    obtain ⟨b, o, rfl, c0, c1, c2⟩ := (unhide HR).at hlt
    have i0 : (0 : Int) ≤ (k : Int) := Int.natCast_nonneg _
    have i1 : (k : Int) < (rl : Int) := Int.ofNat_lt.2 hlt
    have B1 : Hid (k + 1 ≤ 31 ∧ k + 1 ≤ rl) := ⟨h31, hlt⟩
    by_cases hh : 12 < (X k).h.len
    ·have dh : decide ((12 : Int) < ((X k).h.len : Int)) = true := decide_eq_true (by omega)
     clear hh HK
     have RR2 : Hid (LongMC al ql rl X w (.returned (.bool true)) w1) := ⟨_, rfl, unhide G1, fun h => by cases h⟩
     go_wp2
     go_ret
     exact unhide RR2
    ·have dh : decide ((12 : Int) < ((X k).h.len : Int)) = false := decide_eq_false (by omega)
     have HK2 : Hid (∀ j, j < k + 1 → (X j).h.len ≤ 12) := fun j hj => by
      by_cases e : j = k
      ·subst e; omega
      ·exact unhide HK j (by omega)
     clear hh HK
     go_wp2
     go_round
     case rel => exact ⟨k + 1, (unhide B1).1, (unhide B1).2, by go_num, HK2⟩
     case measure => have := unhide B1; simp [intOf]; omega
   ·obtain rfl : k = 31 := by omega
    have dr : decide ((30 : Int) < (rl : Int)) = true := decide_eq_true (by omega)
    have di : decide ((31 : Int) < (rl : Int)) = true := decide_eq_true (by omega)
    clear h31 HK dk
    by_cases ha : 40 < al
    ·have da : decide ((40 : Int) < (al : Int)) = true := decide_eq_true (by omega)
     clear ha
     have RR2 : Hid (LongMC al ql rl X w (.returned (.bool true)) w1) := ⟨_, rfl, unhide G1, fun h => by cases h⟩
     go_wp2
     go_ret
     exact unhide RR2
    ·have da : decide ((40 : Int) < (al : Int)) = false := decide_eq_false (by omega)
     clear ha
     by_cases hq : 12 < ql
     ·have dq : decide ((12 : Int) < (ql : Int)) = true := decide_eq_true (by omega)
      clear hq
      have RR2 : Hid (LongMC al ql rl X w (.returned (.bool true)) w1) := ⟨_, rfl, unhide G1, fun h => by cases h⟩
      go_wp2
      go_ret
      exact unhide RR2
     ·have dq : decide ((12 : Int) < (ql : Int)) = false := decide_eq_false (by omega)
      clear hq
      have RR2 : Hid (LongMC al ql rl X w (.returned (.bool true)) w1) := ⟨_, rfl, unhide G1, fun h => by cases h⟩
      go_wp2
      go_ret
      exact unhide RR2
  ·obtain rfl : k = rl := by omega
   have dk : decide ((k : Int) < (k : Int)) = false := decide_eq_false (by omega)
   by_cases ha : 40 < al
   ·have da : decide ((40 : Int) < (al : Int)) = true := decide_eq_true (by omega)
    clear ha
    have RR2 : Hid (LongMC al ql k X w (.returned (.bool true)) w1) := ⟨_, rfl, unhide G1, fun h => by cases h⟩
    go_wp2
    go_ret
    exact unhide RR2
   ·have da : decide ((40 : Int) < (al : Int)) = false := decide_eq_false (by omega)
    by_cases hq : 12 < ql
    ·have dq : decide ((12 : Int) < (ql : Int)) = true := decide_eq_true (by omega)
     clear ha hq
     have RR2 : Hid (LongMC al ql k X w (.returned (.bool true)) w1) := ⟨_, rfl, unhide G1, fun h => by cases h⟩
     go_wp2
     go_ret
     exact unhide RR2
    ·have dq : decide ((12 : Int) < (ql : Int)) = false := decide_eq_false (by omega)
     by_cases hr : 30 < k
     ·have dr : decide ((30 : Int) < (k : Int)) = true := decide_eq_true (by omega)
      clear ha hq hr
      have RR2 : Hid (LongMC al ql k X w (.returned (.bool true)) w1) := ⟨_, rfl, unhide G1, fun h => by cases h⟩
      go_wp2
      go_ret
      exact unhide RR2
     ·have dr : decide ((30 : Int) < (k : Int)) = false := decide_eq_false (by omega)
      have SM : Hid (smallC al ql k X) := ⟨by omega, by omega, by omega, unhide HK⟩
      clear ha hq hr
      have RR2 : Hid (LongMC al ql k X w (.returned (.bool false)) w1) := ⟨_, rfl, unhide G1, fun _ => unhide SM⟩
      go_wp2
      go_ret
      exact unhide RR2
theorem kitLongM (m : DV) (w : World) (h : RVs w m.ro m.rl m.X) : Calls Tryz.prog 10 #[.agg m.cells] w fun e w' => LongMP m w e w' :=
 kitLongC m.N m.A.ao m.Q.ao m.ro m.A.len m.A.cap m.Q.len m.Q.cap m.rl m.rc m.tick m.gate m.rmin m.X w h
end Go.Proofs.YtjobgjcfkomhpaaGreat
namespace Go.Proofs.YtjobgjcfkomhpaaGreat
open Go.RowKit Go.Shelf Go.Proofs.Wd
set_option maxRecDepth 10000
def PCheck : Prop := ∀ (m : DV) (w : World), m.good w → Calls Tryz.prog 26 #[.agg m.cells] w fun e w' => e = .returned (.int .i64 (chkD m)) ∧ Kp w w'
theorem pCheck : PCheck := fun m w h => (mCheckD m w h).mono (fun e w' h => ⟨h.1, Kp.of h.2⟩)
open Classical in
noncomputable def rfL (m : DV) (ticks least : Int) : Int := if okD m then (if least ≤ ticks ∧ ticks ≤ 1099511627776 then 0 else 4) else 2
theorem rfL_time {m : DV} {ticks least : Int} (h : okD m) (h2 : least ≤ ticks ∧ ticks ≤ 1099511627776) : rfL m ticks least = 0 := by unfold rfL; rw [if_pos h, if_pos h2]
theorem rfL_late {m : DV} {ticks least : Int} (h : okD m) (h2 : ¬ (least ≤ ticks ∧ ticks ≤ 1099511627776)) : rfL m ticks least = 4 := by unfold rfL; rw [if_pos h, if_neg h2]
theorem rfL_no {m : DV} {ticks least : Int} (h : ¬ okD m) : rfL m ticks least = 2 := by unfold rfL; rw [if_neg h]
theorem rfL_D (m : DV) (ticks : Int) : rfL m ticks (-1099511627776) = rfD m ticks := by
 by_cases h : okD m
 ·by_cases h2 : inTime ticks
  ·rw [rfL_time h h2, rfD_time h h2]
  ·rw [rfL_late h h2, rfD_late h h2]
 ·rw [rfL_no h, rfD_no h]
theorem rfL_ok {m : DV} {ticks least : Int} (h : rfL m ticks least = 0) : okD m ∧ least ≤ ticks ∧ ticks ≤ 1099511627776 := by
 unfold rfL at h
 by_cases h1 : okD m
 ·rw [if_pos h1] at h
  by_cases h2 : least ≤ ticks ∧ ticks ≤ 1099511627776
  ·exact ⟨h1, h2⟩
  ·rw [if_neg h2] at h; exact absurd h (by decide)
 ·rw [if_neg h1] at h; exact absurd h (by decide)
set_option maxRecDepth 20000 in
set_option maxHeartbeats 8000000 in
theorem moSpan (U : Nat) (c0 : Bool) (n0 : Int) (hn0 : 0 ≤ n0 ∧ n0 < 1000000000000000000) (m : DV) (ticks : Int) (hI : I64 ticks) (hT : I64 m.tick) (w : World) (h : UC U c0 n0 w) :
  Calls Tryz.prog 34 #[.pointer (some ⟨U, 0, none⟩), .agg m.cells, .int .i64 ticks] w fun e w' => e = .returned (.int .i64 (spanZ ticks m.tick)) ∧ UC U (c0 || spanC ticks m.tick) (n0 + 3) w' ∧ Mod U w w' := by
 have S2 : Hid (Grown w (w.alloc (.cells #[.int .i64 m.N, .slice m.A.ao m.A.len m.A.cap, .slice m.Q.ao m.Q.len m.Q.cap, .int .i64 m.tick, .int .i64 m.gate, .int .i64 m.rmin, .slice m.ro m.rl m.rc] 25)) ∧ Blk w.heap.size m.cells 25 (w.alloc (.cells #[.int .i64 m.N, .slice m.A.ao m.A.len m.A.cap, .slice m.Q.ao m.Q.len m.Q.cap, .int .i64 m.tick, .int .i64 m.gate, .int .i64 m.rmin, .slice m.ro m.rl m.rc] 25))) := ⟨(Grown.refl _).alloc _ _, Blk.new w _ _⟩
 have lR : Hid (U < w.heap.size) := Blk.lt h
 have HT := hide hT
 have HH := hide h
 have HN := hide hn0
 have HI := hide hI
 clear h hn0 hI hT
 unfold DV.cells
 have z3 : ((w.alloc (.cells #[.int .i64 m.N, .slice m.A.ao m.A.len m.A.cap, .slice m.Q.ao m.Q.len m.Q.cap, .int .i64 m.tick, .int .i64 m.gate, .int .i64 m.rmin, .slice m.ro m.rl m.rc] 25))).cell? ⟨w.heap.size, 3, none⟩ = some (.int .i64 m.tick) := (unhide S2).2.cellsM.2.2.2.1
 go_enter Tryz.func34, Tryz.ntmps34
 go_wp2_with fail
 generalize (w.alloc (.cells #[.int .i64 m.N, .slice m.A.ao m.A.len m.A.cap, .slice m.Q.ao m.Q.len m.Q.cap, .int .i64 m.tick, .int .i64 m.gate, .int .i64 m.rmin, .slice m.ro m.rl m.rc] 25)) = w2 at *
 refine wp_region_noPanic ?_
 refine wp_region_held_drew (S := fun w' => w'.cell? ⟨w.heap.size, 3, none⟩ = some (.int .i64 m.tick)) (by kernel_rfl) z3 (fun hHeld => ?_)
 clear z3
 have U2 : Hid (UC U c0 n0 w2.drew ∧ Mod U w w2.drew) := ⟨Blk.grown (unhide HH) (unhide S2).1, Mod.of (unhide S2).1⟩
 refine take_slotP (i := 0) (d := 7) (v := .pointer (some ⟨U, 0, none⟩)) rfl rfl (by kernel_rfl) (by kernel_rfl) (by kernel_rfl) (fun _ _ _ h => h) (Or.inl ⟨by rfl, ?_⟩) hHeld ?_
 ·intro wS hSw
  have z3 := hSw
  clear hHeld
  go_simp
 (try simp only [Act.put, List.setIfInBounds_toArray, List.set_cons_zero, List.set_cons_succ])
 refine take_slotP (i := 1) (d := 8) (v := .pointer (some ⟨U, 0, none⟩)) rfl rfl (by kernel_rfl) (by kernel_rfl) (by kernel_rfl) (fun _ _ _ h => h) (Or.inl ⟨by rfl, ?_⟩) hHeld ?_
 ·intro wS hSw
  have z3 := hSw
  clear hHeld
  go_simp
 (try simp only [Act.put, List.setIfInBounds_toArray, List.set_cons_zero, List.set_cons_succ])
 refine take_slotP (i := 2) (d := 9) (v := .int .i64 ticks) rfl rfl (by kernel_rfl) (by kernel_rfl) (by kernel_rfl) (fun _ _ _ h => h) (Or.inl ⟨by rfl, ?_⟩) hHeld ?_
 ·intro wS hSw
  have z3 := hSw
  clear hHeld
  go_simp
 (try simp only [Act.put, List.setIfInBounds_toArray, List.set_cons_zero, List.set_cons_succ])
 refine take_slotP (i := 4) (d := 11) (v := .pointer (some ⟨w.heap.size, 3, none⟩)) rfl rfl (by kernel_rfl) (by kernel_rfl) (by kernel_rfl) (fun _ _ _ h => h) (Or.inl ⟨by rfl, ?_⟩) hHeld ?_
 ·intro wS hSw
  have z3 := hSw
  clear hHeld
  go_simp
 (try simp only [Act.put, List.setIfInBounds_toArray, List.set_cons_zero, List.set_cons_succ])
 refine take_slotP (i := 5) (d := 12) (v := .int .i64 m.tick) rfl rfl (by kernel_rfl) (by kernel_rfl) (by kernel_rfl) (fun _ _ _ h => h) (Or.inl ⟨by rfl, ?_⟩) hHeld ?_
 ·intro wS hSw
  have z3 := hSw
  clear hHeld
  go_simp
 (try simp only [Act.put, List.setIfInBounds_toArray, List.set_cons_zero, List.set_cons_succ])
 have HS := hide hHeld
 clear hHeld
 refine wpAnyH_ready (rs := [3]) (by kernel_rfl) (by simp) ?_
 refine AllReadyH.cons rfl (fun K hK => ?_) AllReadyH.nil
 go_simp
 refine (unitWhole U c0 n0 ticks (unhide HI) (by have := unhide HN; omega) w2.drew (unhide U2).1).mono ?_
 rintro e w3 ⟨rfl, u3, m3⟩
 have U3 : Hid (UC U (c0 || whoC ticks) (n0 + 1) w3 ∧ Mod U w w3) := ⟨u3, (unhide U2).2.trans m3⟩
 have HS3 : Hid (w3.cell? ⟨w.heap.size, 3, none⟩ = some (.int .i64 m.tick)) := (Mk.of m3).cell (unhide HS) (by have := unhide lR; omega)
 clear u3 m3 U2 HS
 refine hK.out _ _ (unhide HS3) (fun hHeld => ?_)
 clear hK K hHeld
 (try simp only [Act.put, List.setIfInBounds_toArray, List.set_cons_zero, List.set_cons_succ])
 refine wpAnyH_ready (rs := [6]) (by kernel_rfl) (by simp) ?_
 refine AllReadyH.cons rfl (fun K hK => ?_) AllReadyH.nil
 go_simp
 have G4 : Grown w3 (w3.alloc (.cells #[.int .i64 (whoN ticks), .int .i64 m.tick] 3)) := (Grown.refl _).alloc _ _
 have U4 : Hid (UC U (c0 || whoC ticks) (n0 + 1) (w3.alloc (.cells #[.int .i64 (whoN ticks), .int .i64 m.tick] 3)) ∧ Mod U w (w3.alloc (.cells #[.int .i64 (whoN ticks), .int .i64 m.tick] 3)) ∧ Blk w3.heap.size #[.int .i64 (whoN ticks), .int .i64 m.tick] 3 (w3.alloc (.cells #[.int .i64 (whoN ticks), .int .i64 m.tick] 3)) ∧ U < w3.heap.size) := ⟨Blk.grown (unhide U3).1 G4, (unhide U3).2.trans (Mod.of G4), Blk.new _ _ _, Nat.lt_of_lt_of_le (unhide lR) (unhide U3).2.2.2.2.2⟩
 have HS4 : Hid ((w3.alloc (.cells #[.int .i64 (whoN ticks), .int .i64 m.tick] 3)).cell? ⟨w.heap.size, 3, none⟩ = some (.int .i64 m.tick)) := gat G4 (unhide HS3)
 clear G4 U3 HS3
 generalize w3.alloc (.cells #[.int .i64 (whoN ticks), .int .i64 m.tick] 3) = w4 at *
 generalize w3.heap.size = L at *
 refine hK.out _ _ (unhide HS4) (fun hHeld => ?_)
 clear hK K hHeld
 (try simp only [Act.put, List.setIfInBounds_toArray, List.set_cons_zero, List.set_cons_succ])
 refine wpAnyH_ready (rs := [7]) (by kernel_rfl) (by simp) ?_
 refine AllReadyH.cons rfl (fun K hK => ?_) AllReadyH.nil
 go_simp
 obtain ⟨Zp, hZp⟩ : ∃ Z : Nat → Int, Z = fun i => if i = 0 then whoN ticks else m.tick := ⟨_, rfl⟩
 have MU := unitMul U (c0 || whoC ticks) (n0 + 1) (some ⟨L, 0, none⟩) 2 2 Zp (by have := unhide HN; omega) (by omega) (fun i hi => by
  rw [hZp]
  rcases (show i = 0 ∨ i = 1 by omega) with rfl | rfl
  ·exact fitI_I64 _
  ·exact unhide HT) w4 (unhide U4).1 (Or.inr ⟨L, 0, rfl, fun i hi => by
  rw [Nat.zero_add, Blk.cell (unhide U4).2.2.1, hZp]
  rcases (show i = 0 ∨ i = 1 by omega) with rfl | rfl <;> rfl⟩) (fun _ a ha => by cases ha; have := (unhide U4).2.2.2; show L ≠ U; omega)
 have eZ : thN mulN 4294967296 Zp 2 = spanZ ticks m.tick ∧ thC mulN mulC 4294967296 Zp 2 = m2C (whoN ticks) m.tick := by
  rw [hZp]
  exact ⟨rfl, rfl⟩
 rw [eZ.1, eZ.2] at MU
 clear eZ hZp Zp
 refine MU.mono ?_
 rintro e w5 ⟨rfl, u5, m5⟩
 have HS5 : Hid (w5.cell? ⟨w.heap.size, 3, none⟩ = some (.int .i64 m.tick)) := (Mk.of m5).cell (unhide HS4) (by have := unhide lR; omega)
 have U5 : Hid (UC U (c0 || spanC ticks m.tick) (n0 + 3) w5 ∧ Mod U w w5) := by
  refine ⟨?_, (unhide U4).2.1.trans m5⟩
  unfold spanC
  rw [← Bool.or_assoc, show n0 + 3 = n0 + 1 + ((2 : Nat) : Int) by omega]
  exact u5
 clear MU u5 m5 U4 HS4
 refine hK.out _ _ (unhide HS5) (fun hHeld => ?_)
 clear hK K HS5
 (try simp only [Act.put, List.setIfInBounds_toArray, List.set_cons_zero, List.set_cons_succ])
 refine take_slotP (i := 8) (d := 6) (v := .int .i64 (spanZ ticks m.tick)) rfl rfl (by kernel_rfl) (by kernel_rfl) (by kernel_rfl) (fun _ _ _ h => h) (Or.inl ⟨by rfl, ?_⟩) hHeld ?_
 ·intro wS hSw
  have z3 := hSw
  clear hHeld
  go_simp
 (try simp only [Act.put, List.setIfInBounds_toArray, List.set_cons_zero, List.set_cons_succ])
 refine wpAnyH_done (by kernel_rfl) (NoPanic.normal ?_) _
 clear hHeld
 go_wp2
 go_ret
 exact ⟨rfl, (unhide U5).1, (unhide U5).2⟩
set_option maxRecDepth 20000 in
set_option maxHeartbeats 4000000 in
theorem moRefuse (U : Nat) (c0 : Bool) (n0 : Int) (hn0 : 0 ≤ n0 ∧ n0 < 1000000000000000000) (m : DV) (ticks least : Int) (w : World) (hm : ∀ W, Mk U w W → m.good W) (h : UC U c0 n0 w) :
  Calls Tryz.prog 33 #[.pointer (some ⟨U, 0, none⟩), .agg m.cells, .int .i64 ticks, .int .i64 least] w fun e w' => e = .returned (.int .i64 (rfL m ticks least)) ∧ UC U c0 n0 w' ∧ Mk U w w' := by
 have S0 : Hid (Grown w (w.alloc (.cells #[.int .i64 m.N, .slice m.A.ao m.A.len m.A.cap, .slice m.Q.ao m.Q.len m.Q.cap, .int .i64 m.tick, .int .i64 m.gate, .int .i64 m.rmin, .slice m.ro m.rl m.rc] 25)) ∧ Blk w.heap.size m.cells 25 (w.alloc (.cells #[.int .i64 m.N, .slice m.A.ao m.A.len m.A.cap, .slice m.Q.ao m.Q.len m.Q.cap, .int .i64 m.tick, .int .i64 m.gate, .int .i64 m.rmin, .slice m.ro m.rl m.rc] 25))) := ⟨(Grown.refl _).alloc _ _, Blk.new w _ _⟩
 have CK : Hid (∀ W, Mk U w W → Calls Tryz.prog 26 #[.agg #[.int .i64 m.N, .slice m.A.ao m.A.len m.A.cap, .slice m.Q.ao m.Q.len m.Q.cap, .int .i64 m.tick, .int .i64 m.gate, .int .i64 m.rmin, .slice m.ro m.rl m.rc]] W fun e w' => e = .returned (.int .i64 (chkD m)) ∧ Kp W w') := fun W g => pCheck m W (hm W g)
 have DT := hide (refuseDot U c0 n0 ⟨by omega, by omega⟩ (w.alloc (.cells #[.int .i64 m.N, .slice m.A.ao m.A.len m.A.cap, .slice m.Q.ao m.Q.len m.Q.cap, .int .i64 m.tick, .int .i64 m.gate, .int .i64 m.rmin, .slice m.ro m.rl m.rc] 25)) (Blk.grown h (unhide S0).1))
 have lU : Hid (U < w.heap.size) := Blk.lt h
 clear hm h hn0
 unfold DV.cells
 by_cases hok : okD m
 ·have E1 : Hid (chkD m = 0) := if_pos hok
  rw [unhide E1] at CK
  clear E1
  by_cases h1 : ticks < least
  ·have d1 : decide (ticks < least) = true := decide_eq_true h1
   rw [rfL_late hok (fun h => by have := h.1; omega)]
   clear h1 hok
   go_enter Tryz.func33, Tryz.ntmps33
   go_wp2_with fail
   generalize (w.alloc (.cells #[.int .i64 m.N, .slice m.A.ao m.A.len m.A.cap, .slice m.Q.ao m.Q.len m.Q.cap, .int .i64 m.tick, .int .i64 m.gate, .int .i64 m.rmin, .slice m.ro m.rl m.rc] 25)) = w1 at *
   refine (unhide DT).mono ?_
   rintro e w2 ⟨rfl, u2, m2⟩
   have S2 : Hid (UC U c0 n0 w2 ∧ Mk U w w2 ∧ Blk w.heap.size m.cells 25 w2) := ⟨u2, (Mk.of (Mod.of (unhide S0).1)).trans (Mk.of m2), Blk.keep (unhide S0).2 m2 (by have := unhide lU; omega)⟩
   clear u2 m2 S0 DT
   obtain ⟨y0, y1, y2, y3, y4, y5, y6⟩ := ((unhide S2).2.2).cellsM
   go_wp2_with fail
   refine (unhide CK w2 (unhide S2).2.1).mono ?_
   rintro e w3 ⟨rfl, k3⟩
   have S3 : Hid (UC U c0 n0 w3 ∧ Mk U w w3) := ⟨Blk.kp (unhide S2).1 k3, (unhide S2).2.1.trans (Mk.kp k3)⟩
   clear k3 S2 CK y0 y1 y2 y3 y4 y5 y6
   go_wp2
   go_ret
   exact ⟨rfl, (unhide S3).1, (unhide S3).2⟩
  ·have d1 : decide (ticks < least) = false := decide_eq_false h1
   by_cases h2 : 1099511627776 < ticks
   ·have d2 : decide (1099511627776 < ticks) = true := decide_eq_true h2
    rw [rfL_late hok (fun h => by have := h.2; omega)]
    clear h1 h2 hok
    go_enter Tryz.func33, Tryz.ntmps33
    go_wp2_with fail
    generalize (w.alloc (.cells #[.int .i64 m.N, .slice m.A.ao m.A.len m.A.cap, .slice m.Q.ao m.Q.len m.Q.cap, .int .i64 m.tick, .int .i64 m.gate, .int .i64 m.rmin, .slice m.ro m.rl m.rc] 25)) = w1 at *
    refine (unhide DT).mono ?_
    rintro e w2 ⟨rfl, u2, m2⟩
    have S2 : Hid (UC U c0 n0 w2 ∧ Mk U w w2 ∧ Blk w.heap.size m.cells 25 w2) := ⟨u2, (Mk.of (Mod.of (unhide S0).1)).trans (Mk.of m2), Blk.keep (unhide S0).2 m2 (by have := unhide lU; omega)⟩
    clear u2 m2 S0 DT
    obtain ⟨y0, y1, y2, y3, y4, y5, y6⟩ := ((unhide S2).2.2).cellsM
    go_wp2_with fail
    refine (unhide CK w2 (unhide S2).2.1).mono ?_
    rintro e w3 ⟨rfl, k3⟩
    have S3 : Hid (UC U c0 n0 w3 ∧ Mk U w w3) := ⟨Blk.kp (unhide S2).1 k3, (unhide S2).2.1.trans (Mk.kp k3)⟩
    clear k3 S2 CK y0 y1 y2 y3 y4 y5 y6
    go_wp2
    go_ret
    exact ⟨rfl, (unhide S3).1, (unhide S3).2⟩
   ·have d2 : decide (1099511627776 < ticks) = false := decide_eq_false h2
    rw [rfL_time hok ⟨by omega, by omega⟩]
    clear h1 h2 hok
    go_enter Tryz.func33, Tryz.ntmps33
    go_wp2_with fail
    generalize (w.alloc (.cells #[.int .i64 m.N, .slice m.A.ao m.A.len m.A.cap, .slice m.Q.ao m.Q.len m.Q.cap, .int .i64 m.tick, .int .i64 m.gate, .int .i64 m.rmin, .slice m.ro m.rl m.rc] 25)) = w1 at *
    refine (unhide DT).mono ?_
    rintro e w2 ⟨rfl, u2, m2⟩
    have S2 : Hid (UC U c0 n0 w2 ∧ Mk U w w2 ∧ Blk w.heap.size m.cells 25 w2) := ⟨u2, (Mk.of (Mod.of (unhide S0).1)).trans (Mk.of m2), Blk.keep (unhide S0).2 m2 (by have := unhide lU; omega)⟩
    clear u2 m2 S0 DT
    obtain ⟨y0, y1, y2, y3, y4, y5, y6⟩ := ((unhide S2).2.2).cellsM
    go_wp2_with fail
    refine (unhide CK w2 (unhide S2).2.1).mono ?_
    rintro e w3 ⟨rfl, k3⟩
    have S3 : Hid (UC U c0 n0 w3 ∧ Mk U w w3) := ⟨Blk.kp (unhide S2).1 k3, (unhide S2).2.1.trans (Mk.kp k3)⟩
    clear k3 S2 CK y0 y1 y2 y3 y4 y5 y6
    go_wp2
    go_ret
    exact ⟨rfl, (unhide S3).1, (unhide S3).2⟩
 ·have E1 : Hid (chkD m = 2) := if_neg hok
  rw [unhide E1] at CK
  rw [rfL_no hok]
  clear hok E1
  go_enter Tryz.func33, Tryz.ntmps33
  go_wp2_with fail
  generalize (w.alloc (.cells #[.int .i64 m.N, .slice m.A.ao m.A.len m.A.cap, .slice m.Q.ao m.Q.len m.Q.cap, .int .i64 m.tick, .int .i64 m.gate, .int .i64 m.rmin, .slice m.ro m.rl m.rc] 25)) = w1 at *
  refine (unhide DT).mono ?_
  rintro e w2 ⟨rfl, u2, m2⟩
  have S2 : Hid (UC U c0 n0 w2 ∧ Mk U w w2 ∧ Blk w.heap.size m.cells 25 w2) := ⟨u2, (Mk.of (Mod.of (unhide S0).1)).trans (Mk.of m2), Blk.keep (unhide S0).2 m2 (by have := unhide lU; omega)⟩
  clear u2 m2 S0 DT
  obtain ⟨y0, y1, y2, y3, y4, y5, y6⟩ := ((unhide S2).2.2).cellsM
  go_wp2_with fail
  refine (unhide CK w2 (unhide S2).2.1).mono ?_
  rintro e w3 ⟨rfl, k3⟩
  have S3 : Hid (UC U c0 n0 w3 ∧ Mk U w w3) := ⟨Blk.kp (unhide S2).1 k3, (unhide S2).2.1.trans (Mk.kp k3)⟩
  clear k3 S2 CK y0 y1 y2 y3 y4 y5 y6
  go_wp2
  go_ret
  exact ⟨rfl, (unhide S3).1, (unhide S3).2⟩
set_option maxRecDepth 20000 in
set_option maxHeartbeats 4000000 in
theorem moRefuse_none (p : Option Addr) (m : DV) (ticks least : Int) (w : World) (h : NU p w) :
  Calls Tryz.prog 33 #[.pointer p, .agg m.cells, .int .i64 ticks, .int .i64 least] w fun e w' => e = .returned (.int .i64 1) ∧ Grown w w' := by
 have S0 : Hid (Grown w (w.alloc (.cells #[.int .i64 m.N, .slice m.A.ao m.A.len m.A.cap, .slice m.Q.ao m.Q.len m.Q.cap, .int .i64 m.tick, .int .i64 m.gate, .int .i64 m.rmin, .slice m.ro m.rl m.rc] 25))) := (Grown.refl _).alloc _ _
 have DT := hide (noneDot p none none 0 0 0 0 (w.alloc (.cells #[.int .i64 m.N, .slice m.A.ao m.A.len m.A.cap, .slice m.Q.ao m.Q.len m.Q.cap, .int .i64 m.tick, .int .i64 m.gate, .int .i64 m.rmin, .slice m.ro m.rl m.rc] 25)) (h.grown (unhide S0)))
 clear h
 unfold DV.cells
 go_enter Tryz.func33, Tryz.ntmps33
 go_wp2_with fail
 generalize (w.alloc (.cells #[.int .i64 m.N, .slice m.A.ao m.A.len m.A.cap, .slice m.Q.ao m.Q.len m.Q.cap, .int .i64 m.tick, .int .i64 m.gate, .int .i64 m.rmin, .slice m.ro m.rl m.rc] 25)) = w1 at *
 refine (unhide DT).mono ?_
 rintro e w2 ⟨rfl, rfl⟩
 clear DT
 go_wp2
 go_ret
 exact ⟨rfl, unhide S0⟩
set_option maxRecDepth 20000 in
set_option maxHeartbeats 4000000 in
theorem moSpan_bad (U : Nat) (c0 : Bool) (n0 : Int) (hn0 : 0 ≤ n0 ∧ n0 < 1000000000000000000) (m : DV) (ticks : Int) (w : World) (hm : ∀ W, Mk U w W → m.good W) (e0 : rfD m ticks ≠ 0) (h : UC U c0 n0 w) :
  Calls Tryz.prog 13 #[.pointer (some ⟨U, 0, none⟩), .agg m.cells, .int .i64 ticks] w fun e w' => e = .returned (.tuple #[.int .i64 0, .int .i64 (rfD m ticks)]) ∧ UC U c0 n0 w' ∧ Mk U w w' := by
 have S0 : Hid (Grown w (w.alloc (.cells #[.int .i64 m.N, .slice m.A.ao m.A.len m.A.cap, .slice m.Q.ao m.Q.len m.Q.cap, .int .i64 m.tick, .int .i64 m.gate, .int .i64 m.rmin, .slice m.ro m.rl m.rc] 25)) ∧ Blk w.heap.size m.cells 25 (w.alloc (.cells #[.int .i64 m.N, .slice m.A.ao m.A.len m.A.cap, .slice m.Q.ao m.Q.len m.Q.cap, .int .i64 m.tick, .int .i64 m.gate, .int .i64 m.rmin, .slice m.ro m.rl m.rc] 25))) := ⟨(Grown.refl _).alloc _ _, Blk.new w _ _⟩
 have lU : Hid (U < w.heap.size) := Blk.lt h
 have RF : Hid (∀ W, Grown w W → Calls Tryz.prog 33 #[.pointer (some ⟨U, 0, none⟩), .agg #[.int .i64 m.N, .slice m.A.ao m.A.len m.A.cap, .slice m.Q.ao m.Q.len m.Q.cap, .int .i64 m.tick, .int .i64 m.gate, .int .i64 m.rmin, .slice m.ro m.rl m.rc], .int .i64 ticks, .int .i64 (-1099511627776)] W fun e w' => e = .returned (.int .i64 (rfD m ticks)) ∧ UC U c0 n0 w' ∧ Mk U W w') := fun W g => by
  have := moRefuse U c0 n0 hn0 m ticks (-1099511627776) W (fun W' k => hm W' ((Mk.kp (Kp.of g)).trans k)) (Blk.grown h g)
  rwa [rfL_D] at this
 clear hm h hn0
 have de : (rfD m ticks != 0) = true := by simpa using e0
 generalize rfD m ticks = er at *
 clear e0
 obtain ⟨y0, y1, y2, y3, y4, y5, y6⟩ := (unhide S0).2.cellsM
 unfold DV.cells
 go_enter Tryz.func13, Tryz.ntmps13
 go_wp2_with fail
 generalize (w.alloc (.cells #[.int .i64 m.N, .slice m.A.ao m.A.len m.A.cap, .slice m.Q.ao m.Q.len m.Q.cap, .int .i64 m.tick, .int .i64 m.gate, .int .i64 m.rmin, .slice m.ro m.rl m.rc] 25)) = w1 at *
 refine (unhide RF w1 (unhide S0).1).mono ?_
 rintro e w2 ⟨rfl, u2, m2⟩
 have G : Hid (UC U c0 n0 w2 ∧ Mk U w w2) := ⟨u2, (Mk.kp (Kp.of (unhide S0).1)).trans m2⟩
 clear u2 m2 S0 RF y0 y1 y2 y3 y4 y5 y6
 go_wp2
 refine bodyPost_ret (v := .tuple #[.int .i64 0, .int .i64 er]) (by simp [results, Tryz.results13, go_sem]) rfl ?_
 exact ⟨rfl, unhide G⟩
set_option maxRecDepth 20000 in
set_option maxHeartbeats 4000000 in
theorem moSpan_ok (U : Nat) (c0 : Bool) (n0 : Int) (hn0 : 0 ≤ n0 ∧ n0 < 1000000000000000000) (m : DV) (ticks : Int) (hI : I64 ticks) (hT : I64 m.tick) (w : World) (hm : ∀ W, Mk U w W → m.good W) (e0 : rfD m ticks = 0) (h : UC U c0 n0 w) :
  Calls Tryz.prog 13 #[.pointer (some ⟨U, 0, none⟩), .agg m.cells, .int .i64 ticks] w fun e w' => e = .returned (.tuple #[.int .i64 (spanZ ticks m.tick), .int .i64 0]) ∧ UC U (c0 || spanC ticks m.tick) (n0 + 3) w' ∧ Mk U w w' := by
 have S0 : Hid (Grown w (w.alloc (.cells #[.int .i64 m.N, .slice m.A.ao m.A.len m.A.cap, .slice m.Q.ao m.Q.len m.Q.cap, .int .i64 m.tick, .int .i64 m.gate, .int .i64 m.rmin, .slice m.ro m.rl m.rc] 25)) ∧ Blk w.heap.size m.cells 25 (w.alloc (.cells #[.int .i64 m.N, .slice m.A.ao m.A.len m.A.cap, .slice m.Q.ao m.Q.len m.Q.cap, .int .i64 m.tick, .int .i64 m.gate, .int .i64 m.rmin, .slice m.ro m.rl m.rc] 25))) := ⟨(Grown.refl _).alloc _ _, Blk.new w _ _⟩
 have lU : Hid (U < w.heap.size) := Blk.lt h
 have RF : Hid (∀ W, Grown w W → Calls Tryz.prog 33 #[.pointer (some ⟨U, 0, none⟩), .agg #[.int .i64 m.N, .slice m.A.ao m.A.len m.A.cap, .slice m.Q.ao m.Q.len m.Q.cap, .int .i64 m.tick, .int .i64 m.gate, .int .i64 m.rmin, .slice m.ro m.rl m.rc], .int .i64 ticks, .int .i64 (-1099511627776)] W fun e w' => e = .returned (.int .i64 0) ∧ UC U c0 n0 w' ∧ Mk U W w') := fun W g => by
  have := moRefuse U c0 n0 hn0 m ticks (-1099511627776) W (fun W' k => hm W' ((Mk.kp (Kp.of g)).trans k)) (Blk.grown h g)
  rwa [rfL_D, e0] at this
 have SP : Hid (∀ W, UC U c0 n0 W → Calls Tryz.prog 34 #[.pointer (some ⟨U, 0, none⟩), .agg #[.int .i64 m.N, .slice m.A.ao m.A.len m.A.cap, .slice m.Q.ao m.Q.len m.Q.cap, .int .i64 m.tick, .int .i64 m.gate, .int .i64 m.rmin, .slice m.ro m.rl m.rc], .int .i64 ticks] W fun e w' => e = .returned (.int .i64 (spanZ ticks m.tick)) ∧ UC U (c0 || spanC ticks m.tick) (n0 + 3) w' ∧ Mod U W w') := fun W u => moSpan U c0 n0 hn0 m ticks hI hT W u
 clear hm h hn0 e0 hI hT
 generalize spanZ ticks m.tick = sp at *
 generalize (c0 || spanC ticks m.tick) = c1 at *
 obtain ⟨y0, y1, y2, y3, y4, y5, y6⟩ := (unhide S0).2.cellsM
 unfold DV.cells
 go_enter Tryz.func13, Tryz.ntmps13
 go_wp2_with fail
 generalize (w.alloc (.cells #[.int .i64 m.N, .slice m.A.ao m.A.len m.A.cap, .slice m.Q.ao m.Q.len m.Q.cap, .int .i64 m.tick, .int .i64 m.gate, .int .i64 m.rmin, .slice m.ro m.rl m.rc] 25)) = w1 at *
 refine (unhide RF w1 (unhide S0).1).mono ?_
 rintro e w2 ⟨rfl, u2, m2⟩
 have S2 : Hid (UC U c0 n0 w2 ∧ Mk U w w2 ∧ Blk w.heap.size m.cells 25 w2) := ⟨u2, (Mk.kp (Kp.of (unhide S0).1)).trans m2, Blk.mk (unhide S0).2 m2 (by have := unhide lU; omega)⟩
 clear u2 m2 S0 RF y0 y1 y2 y3 y4 y5 y6
 obtain ⟨y0, y1, y2, y3, y4, y5, y6⟩ := ((unhide S2).2.2).cellsM
 go_wp2_with fail
 refine (unhide SP w2 (unhide S2).1).mono ?_
 rintro e w3 ⟨rfl, u3, m3⟩
 have S3 : Hid (UC U c1 (n0 + 3) w3 ∧ Mk U w w3) := ⟨u3, (unhide S2).2.1.trans (Mk.of m3)⟩
 clear u3 m3 S2 SP y0 y1 y2 y3 y4 y5 y6
 go_wp2
 refine bodyPost_ret (v := .tuple #[.int .i64 sp, .int .i64 0]) (by simp [results, Tryz.results13, go_sem]) rfl ?_
 exact ⟨rfl, unhide S3⟩
set_option maxRecDepth 20000 in
set_option maxHeartbeats 4000000 in
theorem moSpan_none (p : Option Addr) (m : DV) (ticks : Int) (w : World) (h : NU p w) :
  Calls Tryz.prog 13 #[.pointer p, .agg m.cells, .int .i64 ticks] w fun e w' => e = .returned (.tuple #[.int .i64 0, .int .i64 1]) ∧ Grown w w' := by
 have S0 : Hid (Grown w (w.alloc (.cells #[.int .i64 m.N, .slice m.A.ao m.A.len m.A.cap, .slice m.Q.ao m.Q.len m.Q.cap, .int .i64 m.tick, .int .i64 m.gate, .int .i64 m.rmin, .slice m.ro m.rl m.rc] 25)) ∧ Blk w.heap.size m.cells 25 (w.alloc (.cells #[.int .i64 m.N, .slice m.A.ao m.A.len m.A.cap, .slice m.Q.ao m.Q.len m.Q.cap, .int .i64 m.tick, .int .i64 m.gate, .int .i64 m.rmin, .slice m.ro m.rl m.rc] 25))) := ⟨(Grown.refl _).alloc _ _, Blk.new w _ _⟩
 have RF : Hid (∀ W, Grown w W → Calls Tryz.prog 33 #[.pointer p, .agg #[.int .i64 m.N, .slice m.A.ao m.A.len m.A.cap, .slice m.Q.ao m.Q.len m.Q.cap, .int .i64 m.tick, .int .i64 m.gate, .int .i64 m.rmin, .slice m.ro m.rl m.rc], .int .i64 ticks, .int .i64 (-1099511627776)] W fun e w' => e = .returned (.int .i64 1) ∧ Grown W w') := fun W g => moRefuse_none p m ticks (-1099511627776) W (h.grown g)
 clear h
 obtain ⟨y0, y1, y2, y3, y4, y5, y6⟩ := (unhide S0).2.cellsM
 unfold DV.cells
 go_enter Tryz.func13, Tryz.ntmps13
 go_wp2_with fail
 generalize (w.alloc (.cells #[.int .i64 m.N, .slice m.A.ao m.A.len m.A.cap, .slice m.Q.ao m.Q.len m.Q.cap, .int .i64 m.tick, .int .i64 m.gate, .int .i64 m.rmin, .slice m.ro m.rl m.rc] 25)) = w1 at *
 refine (unhide RF w1 (unhide S0).1).mono ?_
 rintro e w2 ⟨rfl, g2⟩
 have G := hide (gtrans (unhide S0).1 g2)
 clear g2 S0 RF y0 y1 y2 y3 y4 y5 y6
 go_wp2
 refine bodyPost_ret (v := .tuple #[.int .i64 0, .int .i64 1]) (by simp [results, Tryz.results13, go_sem]) rfl ?_
 exact ⟨rfl, unhide G⟩
def NextP (U n nn : Nat) (c : Bool) (n0 : Int) (Z : Nat → Int) (w : World) (e : Ending) (w' : World) : Prop :=
 ∃ B cp, e = .returned (.agg #[.int .i64 n, .int .i64 n, .slice (some ⟨B, 0, none⟩) nn cp]) ∧ nn ≤ cp ∧ w.heap.size ≤ B ∧ Own B nn Z w' ∧ UW U c n0 1000 w' ∧ Mk U w w'
def NxI (w : World) (U n nn Yb B cp : Nat) (c1 : Bool) (n1 : Int) (Y : Nat → Int) (K k : Nat) (wr : World) : Prop :=
 Blk Yb #[.int .i64 n, .int .i64 n, .slice (some ⟨B, 0, none⟩) nn cp] 38 wr ∧ Blk B (ints nn (mixZ Y K k)) 3 wr ∧ UC U (c1 || orC (dvG Y K) k) (n1 + 2 * k) wr ∧ Mk U w wr ∧ Blk (w.heap.size + 1 + 1) #[.int .i64 0, .int .i64 0, .slice none 0 0] 38 wr
theorem NxI.drew {w wr : World} {U n nn Yb B cp K k : Nat} {c1 : Bool} {n1 : Int} {Y : Nat → Int} (h : NxI w U n nn Yb B cp c1 n1 Y K k wr) : NxI w U n nn Yb B cp c1 n1 Y K k wr.drew := ⟨h.1, h.2.1, h.2.2.1, h.2.2.2.1.trans (Mk.kp (Kp.of ((Grown.refl _).drew))), h.2.2.2.2⟩
theorem NxI.put {w wr w7 : World} {U n nn Yb B cp K k : Nat} {c1 wc qc : Bool} {n1 q : Int} {Y : Nat → Int} (h : NxI w U n nn Yb B cp c1 n1 Y K k wr) (u : UC U (c1 || orC (dvG Y K) k || wc || qc) (n1 + 2 * k + 1 + 1) w7) (m : Mod U wr w7) (hk : k < nn) (e1 : q = dvZ Y K k) (e2 : orC (dvG Y K) (k + 1) = (orC (dvG Y K) k || (wc || qc))) (lU : U < w.heap.size) (hB : w.heap.size ≤ B) :
  NxI w U n nn Yb B cp c1 n1 Y K (k + 1) (w7.setCell ⟨B, k, none⟩ (.int .i64 q)) ∧ Blk Yb #[.int .i64 n, .int .i64 n, .slice (some ⟨B, 0, none⟩) nn cp] 38 w7 ∧ Blk B (ints nn (mixZ Y K k)) 3 w7 := by
 obtain ⟨h1, h2, h3, h4, h5⟩ := h
 have s : Mod B w7 (w7.setCell ⟨B, k, none⟩ (.int .i64 q)) := (Mod.refl _ _).setCell _ _
 have tU : Yb ≠ U := blk_ne h1 h3 (by decide +kernel)
 have bU : B ≠ U := blk_ne h2 h3 (by decide +kernel)
 have tB : Yb ≠ B := blk_ne h1 h2 (by decide +kernel)
 have rB : w.heap.size + 1 + 1 ≠ B := blk_ne h5 h2 (by decide +kernel)
 have t7 := Blk.keep h1 m tU
 have b7 := Blk.keep h2 m bU
 have r7 := Blk.keep h5 m (by omega)
 refine ⟨⟨Blk.keep t7 s tB, ?_, ?_, (h4.trans (Mk.of m)).new s hB, Blk.keep r7 s rB⟩, t7, b7⟩
 ·have := Blk.setI b7 k q
  rw [e1, mix_succ] at this
  rw [e1]
  exact this
 ·rw [e2, ← Bool.or_assoc, ← Bool.or_assoc, show n1 + 2 * ((k + 1 : Nat) : Int) = n1 + 2 * k + 1 + 1 by omega]
  exact Blk.keep u s (Ne.symm bU)
set_option maxRecDepth 50000 in
set_option maxHeartbeats 8000000 in
theorem moNext (U n nn ab ao acap hb ho hcap K : Nat) (c0 : Bool) (n0 : Int) (hn0 : 0 ≤ n0 ∧ n0 < 1000000000000000000) (A H : Nat → Int) (hn : 1 ≤ n ∧ n ≤ 6) (hnn : n * n = nn) (hK : K ≤ 1000) (hc : nn ≤ acap) (hA : ∀ j, j < nn → I64 (A j)) (hH : ∀ j, j < nn → I64 (H j)) (w : World) (h : UC U c0 n0 w)
  (za : ∀ j, j < nn → w.cell? ⟨ab, ao + j, none⟩ = some (.int .i64 (A j))) (zh : ∀ j, j < nn → w.cell? ⟨hb, ho + j, none⟩ = some (.int .i64 (H j))) (nab : ab ≠ U) (nhb : hb ≠ U) :
  Calls Tryz.prog 91 #[.pointer (some ⟨U, 0, none⟩), .agg #[.int .i64 n, .int .i64 n, .slice (some ⟨ab, ao, none⟩) nn acap], .agg #[.int .i64 n, .int .i64 n, .slice (some ⟨hb, ho, none⟩) nn hcap], .int .i64 (K : Int)] w fun e w' => NextP U n nn (c0 || orC (mulG A H n n) nn || orC (evG (mulZ A H n n) n) nn || orC (dvG (evZ (mulZ A H n n) n) K) nn) n0 (dvZ (evZ (mulZ A H n n) n) K) w e w' := by
 have hn12 : 1 ≤ n ∧ n ≤ 12 := ⟨hn.1, by omega⟩
 have k1 : 1 * 1 ≤ n * n := Nat.mul_le_mul hn.1 hn.1
 have k6 : n * n ≤ 6 * 6 := Nat.mul_le_mul hn.2 hn.2
 rw [hnn] at k1 k6
 have kb : 0 ≤ (n : Int) * (nn : Int) ∧ (n : Int) * (nn : Int) ≤ 6 * 36 := ⟨Int.mul_nonneg (by omega) (by omega), Int.mul_le_mul (by omega) (by omega) (by omega) (by omega)⟩
 have lU : Hid (U < w.heap.size ∧ (1 ≤ nn ∧ nn ≤ 36)) := ⟨Blk.lt h, by omega, by omega⟩
 have S0 : Hid (Grown w (((w.alloc (.cells #[.int .i64 n, .int .i64 n, .slice (some ⟨ab, ao, none⟩) nn acap] 38)).alloc (.cells #[.int .i64 n, .int .i64 n, .slice (some ⟨hb, ho, none⟩) nn hcap] 38)).alloc (.cells #[.int .i64 0, .int .i64 0, .slice none 0 0] 38)) ∧ Blk w.heap.size #[.int .i64 n, .int .i64 n, .slice (some ⟨ab, ao, none⟩) nn acap] 38 (((w.alloc (.cells #[.int .i64 n, .int .i64 n, .slice (some ⟨ab, ao, none⟩) nn acap] 38)).alloc (.cells #[.int .i64 n, .int .i64 n, .slice (some ⟨hb, ho, none⟩) nn hcap] 38)).alloc (.cells #[.int .i64 0, .int .i64 0, .slice none 0 0] 38)) ∧ Blk (w.heap.size + 1) #[.int .i64 n, .int .i64 n, .slice (some ⟨hb, ho, none⟩) nn hcap] 38 (((w.alloc (.cells #[.int .i64 n, .int .i64 n, .slice (some ⟨ab, ao, none⟩) nn acap] 38)).alloc (.cells #[.int .i64 n, .int .i64 n, .slice (some ⟨hb, ho, none⟩) nn hcap] 38)).alloc (.cells #[.int .i64 0, .int .i64 0, .slice none 0 0] 38)) ∧ Blk (w.heap.size + 1 + 1) #[.int .i64 0, .int .i64 0, .slice none 0 0] 38 (((w.alloc (.cells #[.int .i64 n, .int .i64 n, .slice (some ⟨ab, ao, none⟩) nn acap] 38)).alloc (.cells #[.int .i64 n, .int .i64 n, .slice (some ⟨hb, ho, none⟩) nn hcap] 38)).alloc (.cells #[.int .i64 0, .int .i64 0, .slice none 0 0] 38))) := by
  refine ⟨(((Grown.refl _).alloc _ _).alloc _ _).alloc _ _, Blk.grown (Blk.grown (Blk.new w _ _) ((Grown.refl _).alloc _ _)) ((Grown.refl _).alloc _ _), Blk.grown (blk_new2 w _ _ _) ((Grown.refl _).alloc _ _), ?_⟩
  have := Blk.new ((w.alloc (.cells #[.int .i64 n, .int .i64 n, .slice (some ⟨ab, ao, none⟩) nn acap] 38)).alloc (.cells #[.int .i64 n, .int .i64 n, .slice (some ⟨hb, ho, none⟩) nn hcap] 38)) #[.int .i64 0, .int .i64 0, .slice none 0 0] 38
  simp only [World.size_alloc] at this
  exact this
 have MU := matMul_ok U c0 n0 ⟨hn0.1, by omega⟩ n n n ab ao acap hb ho hcap A H hn12 hn12 hn12 (by rw [hnn]; exact hc) (by rw [hnn]; exact hA) (by rw [hnn]; exact hH) (((w.alloc (.cells #[.int .i64 n, .int .i64 n, .slice (some ⟨ab, ao, none⟩) nn acap] 38)).alloc (.cells #[.int .i64 n, .int .i64 n, .slice (some ⟨hb, ho, none⟩) nn hcap] 38)).alloc (.cells #[.int .i64 0, .int .i64 0, .slice none 0 0] 38)) (Blk.grown h (unhide S0).1) (by rw [hnn]; exact fun j hj => gat (unhide S0).1 (za j hj)) (by rw [hnn]; exact fun j hj => gat (unhide S0).1 (zh j hj)) nab nhb
 rw [hnn] at MU
 have XI : Hid (∀ p, I64 (mulZ A H n n p)) := fun p => mulZ_I64 _ _ _ _ _
 have HMU := hide MU
 obtain ⟨cnt, hcnt⟩ : ∃ cnt : Int, n0 + 2 * (n : Int) * (nn : Int) = cnt := ⟨_, rfl⟩
 have HC1 : Hid (n0 ≤ cnt ∧ cnt ≤ n0 + 432 ∧ 0 ≤ n0 ∧ n0 < 1000000000000000000) := by
  rw [Int.mul_assoc] at hcnt
  exact ⟨by omega, by omega, hn0⟩
 rw [hcnt] at HMU
 have HN : Hid ((1 ≤ n ∧ n ≤ 12) ∧ n * n = nn) := ⟨hn12, hnn⟩
 have KI : Hid (I64 ((K : Nat) : Int)) := by unfold Hid I64; omega
 generalize mulZ A H n n = X at *
 obtain ⟨c1, hc1⟩ : ∃ c1, (c0 || orC (mulG A H n n) nn) = c1 := ⟨_, rfl⟩
 rw [hc1]
 rw [hc1] at HMU
 obtain ⟨c2, hc2⟩ : ∃ c2, (c1 || orC (evG X n) nn) = c2 := ⟨_, rfl⟩
 obtain ⟨Y, hY⟩ : ∃ Y, evZ X n = Y := ⟨_, rfl⟩
 have YI : Hid (∀ p, I64 (Y p)) := by rw [← hY]; exact fun p => evZ_I64 _ _ _
 rw [hc2, hY]
 have EQ := hide (And.intro hc2 hY)
 have n1 : 1 ≤ nn := by omega
 obtain ⟨x0, x1, x2⟩ := (⟨Blk.cell (unhide S0).2.1 0, Blk.cell (unhide S0).2.1 1, Blk.cell (unhide S0).2.1 2⟩ : _ ∧ _ ∧ _)
 clear MU h za zh hc1 hc2 hY hcnt hn0 kb k1 k6 hA hH hK hc hn hn12 hnn nab nhb x0 x1 x2
 go_enter Tryz.func91, Tryz.ntmps91
 go_wp2_with fail
 generalize (((w.alloc (.cells #[.int .i64 n, .int .i64 n, .slice (some ⟨ab, ao, none⟩) nn acap] 38)).alloc (.cells #[.int .i64 n, .int .i64 n, .slice (some ⟨hb, ho, none⟩) nn hcap] 38)).alloc (.cells #[.int .i64 0, .int .i64 0, .slice none 0 0] 38)) = w1 at *
 refine (unhide HMU).mono ?_
 rintro e w2 ⟨_, cp2, B2, rfl, hB2, hb2, hcp2, hu2, m2⟩
 obtain ⟨rfl, hbn⟩ := hb2.resolve_left (Nat.ne_of_gt n1)
 have g3 : Grown w2 (w2.alloc (.cells #[.int .i64 n, .int .i64 n, .slice (some ⟨B2, 0, none⟩) nn cp2] 38)) := (Grown.refl _).alloc _ _
 have S3 : Hid (Mk U w (w2.alloc (.cells #[.int .i64 n, .int .i64 n, .slice (some ⟨B2, 0, none⟩) nn cp2] 38)) ∧ Blk (w.heap.size + 1 + 1) #[.int .i64 0, .int .i64 0, .slice none 0 0] 38 (w2.alloc (.cells #[.int .i64 n, .int .i64 n, .slice (some ⟨B2, 0, none⟩) nn cp2] 38)) ∧ Blk w2.heap.size #[.int .i64 n, .int .i64 n, .slice (some ⟨B2, 0, none⟩) nn cp2] 38 (w2.alloc (.cells #[.int .i64 n, .int .i64 n, .slice (some ⟨B2, 0, none⟩) nn cp2] 38)) ∧ Blk B2 (ints nn X) 3 (w2.alloc (.cells #[.int .i64 n, .int .i64 n, .slice (some ⟨B2, 0, none⟩) nn cp2] 38)) ∧ UC U c1 cnt (w2.alloc (.cells #[.int .i64 n, .int .i64 n, .slice (some ⟨B2, 0, none⟩) nn cp2] 38)) ∧ w.heap.size ≤ B2 ∧ w.heap.size + 1 + 1 < w2.heap.size) := by
  have := (unhide S0).1.2.2
  have l2 := Blk.lt (unhide S0).2.2.2
  have m22 := m2.2.2.2
  exact ⟨((Mk.kp (Kp.of (unhide S0).1)).trans m2).grown g3, Blk.grown (Blk.mk (unhide S0).2.2.2 m2 (by have := unhide lU; omega)) g3, Blk.new _ _ _, Blk.grown hbn g3, Blk.grown hu2 g3, by omega, by omega⟩
 have TU := matTurn_ok n n B2 0 cp2 X (unhide HN).1 (unhide HN).1 (w2.alloc (.cells #[.int .i64 n, .int .i64 n, .slice (some ⟨B2, 0, none⟩) nn cp2] 38)) (by rw [(unhide HN).2]; exact fun j hj => by rw [Nat.zero_add]; exact (Own.of (unhide S3).2.2.2.1).cellAt j hj)
 rw [(unhide HN).2] at TU
 have HTU := hide TU
 have y0 : (w2.alloc (.cells #[.int .i64 n, .int .i64 n, .slice (some ⟨B2, 0, none⟩) nn cp2] 38)).cell? ⟨w2.heap.size, 0, none⟩ = some (.int .i64 n) := Blk.cell (unhide S3).2.2.1 0
 have y1 : (w2.alloc (.cells #[.int .i64 n, .int .i64 n, .slice (some ⟨B2, 0, none⟩) nn cp2] 38)).cell? ⟨w2.heap.size, 1, none⟩ = some (.int .i64 n) := Blk.cell (unhide S3).2.2.1 1
 have y2 : (w2.alloc (.cells #[.int .i64 n, .int .i64 n, .slice (some ⟨B2, 0, none⟩) nn cp2] 38)).cell? ⟨w2.heap.size, 2, none⟩ = some (.slice (some ⟨B2, 0, none⟩) nn cp2) := Blk.cell (unhide S3).2.2.1 2
 clear TU hB2 hb2 hcp2 hu2 m2 hbn HMU S0 g3
 go_wp2_with fail
 generalize (w2.alloc (.cells #[.int .i64 n, .int .i64 n, .slice (some ⟨B2, 0, none⟩) nn cp2] 38)) = w3 at *
 generalize w2.heap.size = Xb at *
 clear y0 y1 y2
 refine (unhide HTU).mono ?_
 rintro e w4 ⟨_, cp4, B4, rfl, hB4, hb4, hcp4, k4⟩
 obtain ⟨rfl, hbn⟩ := hb4.resolve_left (Nat.ne_of_gt n1)
 have g5 : Grown w4 (w4.alloc (.cells #[.int .i64 n, .int .i64 n, .slice (some ⟨B4, 0, none⟩) nn cp4] 38)) := (Grown.refl _).alloc _ _
 have S5 : Hid (Mk U w (w4.alloc (.cells #[.int .i64 n, .int .i64 n, .slice (some ⟨B4, 0, none⟩) nn cp4] 38)) ∧ Blk (w.heap.size + 1 + 1) #[.int .i64 0, .int .i64 0, .slice none 0 0] 38 (w4.alloc (.cells #[.int .i64 n, .int .i64 n, .slice (some ⟨B4, 0, none⟩) nn cp4] 38)) ∧ Blk Xb #[.int .i64 n, .int .i64 n, .slice (some ⟨B2, 0, none⟩) nn cp2] 38 (w4.alloc (.cells #[.int .i64 n, .int .i64 n, .slice (some ⟨B4, 0, none⟩) nn cp4] 38)) ∧ Blk B2 (ints nn X) 3 (w4.alloc (.cells #[.int .i64 n, .int .i64 n, .slice (some ⟨B4, 0, none⟩) nn cp4] 38)) ∧ UC U c1 cnt (w4.alloc (.cells #[.int .i64 n, .int .i64 n, .slice (some ⟨B4, 0, none⟩) nn cp4] 38)) ∧ w.heap.size ≤ B2 ∧ w.heap.size + 1 + 1 < w4.heap.size ∧ Blk w4.heap.size #[.int .i64 n, .int .i64 n, .slice (some ⟨B4, 0, none⟩) nn cp4] 38 (w4.alloc (.cells #[.int .i64 n, .int .i64 n, .slice (some ⟨B4, 0, none⟩) nn cp4] 38)) ∧ Blk B4 (ints nn (turnZ X n n)) 3 (w4.alloc (.cells #[.int .i64 n, .int .i64 n, .slice (some ⟨B4, 0, none⟩) nn cp4] 38)) ∧ w.heap.size ≤ B4) := by
  obtain ⟨h1, h2, h3, h4, h5, h6, h7⟩ := unhide S3
  have l3 := Blk.lt h3
  have k44 := k4.2.2.2
  exact ⟨(h1.trans (Mk.kp k4)).grown g5, Blk.grown (Blk.kp h2 k4) g5, Blk.grown (Blk.kp h3 k4) g5, Blk.grown (Blk.kp h4 k4) g5, Blk.grown (Blk.kp h5 k4) g5, h6, by omega, Blk.new _ _ _, Blk.grown hbn g5, by omega⟩
 have lw := (unhide lU).1
 have SU := sumR U n n (unhide HN).1 (unhide HN).1 (some ⟨B2, 0, none⟩) (some ⟨B4, 0, none⟩) cp2 cp4 X (turnZ X n n) (fun _ _ => unhide XI _) (fun _ _ => unhide XI _) (w4.alloc (.cells #[.int .i64 n, .int .i64 n, .slice (some ⟨B4, 0, none⟩) nn cp4] 38)) (by rw [(unhide HN).2]; exact ⟨Blk.row (unhide S5).2.2.2.1, off_blk (by have := (unhide S5).2.2.2.2.2.1; omega)⟩) (by rw [(unhide HN).2]; exact ⟨Blk.row (unhide S5).2.2.2.2.2.2.2.2.1, off_blk (by have := (unhide S5).2.2.2.2.2.2.2.2.2; omega)⟩) c1 cnt (by have := unhide HC1; omega) (unhide S5).2.2.2.2.1
 rw [(unhide HN).2] at SU
 have HSU := hide SU
 have y0 : (w4.alloc (.cells #[.int .i64 n, .int .i64 n, .slice (some ⟨B4, 0, none⟩) nn cp4] 38)).cell? ⟨Xb, 0, none⟩ = some (.int .i64 n) := Blk.cell (unhide S5).2.2.1 0
 have y1 : (w4.alloc (.cells #[.int .i64 n, .int .i64 n, .slice (some ⟨B4, 0, none⟩) nn cp4] 38)).cell? ⟨Xb, 1, none⟩ = some (.int .i64 n) := Blk.cell (unhide S5).2.2.1 1
 have y2 : (w4.alloc (.cells #[.int .i64 n, .int .i64 n, .slice (some ⟨B4, 0, none⟩) nn cp4] 38)).cell? ⟨Xb, 2, none⟩ = some (.slice (some ⟨B2, 0, none⟩) nn cp2) := Blk.cell (unhide S5).2.2.1 2
 have z0 : (w4.alloc (.cells #[.int .i64 n, .int .i64 n, .slice (some ⟨B4, 0, none⟩) nn cp4] 38)).cell? ⟨w4.heap.size, 0, none⟩ = some (.int .i64 n) := Blk.cell (unhide S5).2.2.2.2.2.2.2.1 0
 have z1 : (w4.alloc (.cells #[.int .i64 n, .int .i64 n, .slice (some ⟨B4, 0, none⟩) nn cp4] 38)).cell? ⟨w4.heap.size, 1, none⟩ = some (.int .i64 n) := Blk.cell (unhide S5).2.2.2.2.2.2.2.1 1
 have z2 : (w4.alloc (.cells #[.int .i64 n, .int .i64 n, .slice (some ⟨B4, 0, none⟩) nn cp4] 38)).cell? ⟨w4.heap.size, 2, none⟩ = some (.slice (some ⟨B4, 0, none⟩) nn cp4) := Blk.cell (unhide S5).2.2.2.2.2.2.2.1 2
 clear SU hB4 hb4 hcp4 k4 hbn HTU S3 g5 lw
 go_wp2_with fail
 generalize (w4.alloc (.cells #[.int .i64 n, .int .i64 n, .slice (some ⟨B4, 0, none⟩) nn cp4] 38)) = w5 at *
 generalize w4.heap.size = Tb at *
 clear y0 y1 y2 z0 z1 z2
 refine (unhide HSU).mono ?_
 rintro e w6 ⟨_, cp, B, rfl, hB6, hb6, hcp6, hu6, m6⟩
 obtain ⟨rfl, hbn⟩ := hb6.resolve_left (Nat.ne_of_gt n1)
 have g7 : Grown w6 (w6.alloc (.cells #[.int .i64 n, .int .i64 n, .slice (some ⟨B, 0, none⟩) nn cp] 38)) := (Grown.refl _).alloc _ _
 have S7 : Hid (NxI w U n nn w6.heap.size B cp c2 (cnt + 2 * (nn : Int)) Y K 0 (w6.alloc (.cells #[.int .i64 n, .int .i64 n, .slice (some ⟨B, 0, none⟩) nn cp] 38)) ∧ w.heap.size ≤ B ∧ w.heap.size + 1 + 1 < w6.heap.size ∧ nn ≤ cp) := by
  obtain ⟨h1, h2, h3, h4, h5, h6, h7, _⟩ := unhide S5
  obtain ⟨hc2, hY⟩ := unhide EQ
  have lw := (unhide lU).1
  have l2 := Blk.lt h2
  have hs := h1.2.2.2
  have m66 := m6.2.2.2
  refine ⟨⟨Blk.new _ _ _, ?_, ?_, (h1.trans m6).grown g7, Blk.grown (Blk.mk h2 m6 (by omega)) g7⟩, by omega, by omega, hcp6⟩
  ·rw [← mix_zero, ← hY]
   exact Blk.grown hbn g7
  ·show UC U (c2 || false) (_ + 2 * 0) _
   rw [Bool.or_false, Int.mul_zero, Int.add_zero, ← hc2]
   exact Blk.grown hu6 g7
 have y2 : (w6.alloc (.cells #[.int .i64 n, .int .i64 n, .slice (some ⟨B, 0, none⟩) nn cp] 38)).cell? ⟨w6.heap.size, 2, none⟩ = some (.slice (some ⟨B, 0, none⟩) nn cp) := Blk.cell (unhide S7).1.1 2
 clear hB6 hb6 hcp6 hu6 m6 hbn HSU S5 g7 EQ
 go_wp2_with fail
 generalize (w6.alloc (.cells #[.int .i64 n, .int .i64 n, .slice (some ⟨B, 0, none⟩) nn cp] 38)) = w7 at *
 generalize w6.heap.size = Yb at *
 clear y2
 go_loopw [39] (fun i wq => ∃ k : Nat, k ≤ nn ∧ i = .int .i64 k ∧ Hid (NxI w U n nn Yb B cp c2 (cnt + 2 * (nn : Int)) Y K k wq)) (fun i _ => nn - (intOf i).toNat)
 case atStart => exact ⟨0, Nat.zero_le _, rfl, (unhide S7).1⟩
 case round =>
  obtain ⟨k, hk, rfl, HK⟩ := hrel
  by_cases hkn : k < nn
  ·have xk : wr.cell? ⟨B, k, none⟩ = some (.int .i64 (Y k)) := by
    rw [Blk.cell (unhide HK).2.1, ints_at nn _ k hkn]
    simp [mixZ]
   have y0 : wr.cell? ⟨Yb, 2, none⟩ = some (.slice (some ⟨B, 0, none⟩) nn cp) := Blk.cell (unhide HK).1 2
   have k36 : k ≤ 36 := by have := (unhide lU).2; omega
   have i0 : (0 : Int) ≤ (k : Int) := by omega
   have i1 : (k : Int) < (nn : Int) := by omega
   have cb : 0 ≤ cnt + 2 * (nn : Int) + 2 * (k : Int) ∧ cnt + 2 * (nn : Int) + 2 * (k : Int) + 10 < 2305843009213693952 := by
    have := unhide HC1
    have := unhide lU
    omega
   have WH := hide (fun c w h => unitWhole U c (cnt + 2 * (nn : Int) + 2 * (k : Int)) ((K : Nat) : Int) (unhide KI) ⟨cb.1, by omega⟩ w h)
   have DV := hide (fun c w h => unitDiv U c (cnt + 2 * (nn : Int) + 2 * (k : Int) + 1) (Y k) (whoN ((K : Nat) : Int)) (unhide YI _) (whoN_I64 _) ⟨by omega, by omega⟩ w h)
   have ED : Hid (divN (Y k) (whoN ((K : Nat) : Int)) = dvZ Y K k) := rfl
   have EG : Hid (orC (dvG Y K) (k + 1) = (orC (dvG Y K) k || (whoC ((K : Nat) : Int) || divC (Y k) (whoN ((K : Nat) : Int))))) := rfl
   generalize whoN ((K : Nat) : Int) = wm at *
   generalize whoC ((K : Nat) : Int) = wc at *
   generalize Y k = y at *
   generalize divN y wm = q at *
   generalize divC y wm = qc at *
   clear cb
   go_wp2_with fail
   refine region_G (fun w' => w'.cell? ⟨Yb, 2, none⟩ = some (.slice (some ⟨B, 0, none⟩) nn cp)) 10 (by kernel_rfl) y0 (fun hHeld => ?_)
   refine take_G (i := 0) (d := 44) (v := .pointer (some ⟨Yb, 2, none⟩)) rfl rfl (by kernel_rfl) (by kernel_rfl) (by kernel_rfl) (by kernel_rfl) (by kernel_rfl) (Or.inl ⟨by rfl, ?_⟩) hHeld ?_
   ·intro wS hSw
    have z0 := hSw
    clear hHeld
    go_simp
   (try simp only [Act.put, List.setIfInBounds_toArray, List.set_cons_zero, List.set_cons_succ])
   refine take_G (i := 1) (d := 45) (v := .slice (some ⟨B, 0, none⟩) nn cp) rfl rfl (by kernel_rfl) (by kernel_rfl) (by kernel_rfl) (by kernel_rfl) (by kernel_rfl) (Or.inl ⟨by rfl, ?_⟩) hHeld ?_
   ·intro wS hSw
    have z0 := hSw
    clear hHeld
    go_simp
   (try simp only [Act.put, List.setIfInBounds_toArray, List.set_cons_zero, List.set_cons_succ])
   refine take_G (i := 2) (d := 46) (v := .int .i64 (k : Int)) rfl rfl (by kernel_rfl) (by kernel_rfl) (by kernel_rfl) (by kernel_rfl) (by kernel_rfl) (Or.inl ⟨by rfl, ?_⟩) hHeld ?_
   ·intro wS hSw
    have z0 := hSw
    clear hHeld
    go_simp
   (try simp only [Act.put, List.setIfInBounds_toArray, List.set_cons_zero, List.set_cons_succ])
   refine take_G (i := 3) (d := 47) (v := .pointer (some ⟨U, 0, none⟩)) rfl rfl (by kernel_rfl) (by kernel_rfl) (by kernel_rfl) (by kernel_rfl) (by kernel_rfl) (Or.inl ⟨by rfl, ?_⟩) hHeld ?_
   ·intro wS hSw
    have z0 := hSw
    clear hHeld
    go_simp
   (try simp only [Act.put, List.setIfInBounds_toArray, List.set_cons_zero, List.set_cons_succ])
   refine take_G (i := 4) (d := 48) (v := .int .i64 y) rfl rfl (by kernel_rfl) (by kernel_rfl) (by kernel_rfl) (by kernel_rfl) (by kernel_rfl) (Or.inl ⟨by rfl, ?_⟩) hHeld ?_
   ·intro wS hSw
    have z0 := hSw
    clear hHeld
    go_simp
   (try simp only [Act.put, List.setIfInBounds_toArray, List.set_cons_zero, List.set_cons_succ])
   refine take_G (i := 5) (d := 49) (v := .pointer (some ⟨U, 0, none⟩)) rfl rfl (by kernel_rfl) (by kernel_rfl) (by kernel_rfl) (by kernel_rfl) (by kernel_rfl) (Or.inl ⟨by rfl, ?_⟩) hHeld ?_
   ·intro wS hSw
    have z0 := hSw
    clear hHeld
    go_simp
   (try simp only [Act.put, List.setIfInBounds_toArray, List.set_cons_zero, List.set_cons_succ])
   refine take_G (i := 6) (d := 50) (v := .int .i64 ((K : Nat) : Int)) rfl rfl (by kernel_rfl) (by kernel_rfl) (by kernel_rfl) (by kernel_rfl) (by kernel_rfl) (Or.inl ⟨by rfl, ?_⟩) hHeld ?_
   ·intro wS hSw
    have z0 := hSw
    clear hHeld
    go_simp
   (try simp only [Act.put, List.setIfInBounds_toArray, List.set_cons_zero, List.set_cons_succ])
   have HK2 : Hid (NxI w U n nn Yb B cp c2 (cnt + 2 * (nn : Int)) Y K k wr.drew) := (unhide HK).drew
   clear HK xk y0 hHeld
   refine step_G (i := 7) (by kernel_rfl) (fun K1 hK1 => ?_)
   refine wpOp_of rfl rfl ?_
   unfold Oper.wp
   go_simp
   refine (unhide WH _ _ (unhide HK2).2.2.1).mono ?_
   rintro e w6 ⟨rfl, u6, m6⟩
   have b6 := Blk.keep (unhide HK2).1 m6 (blk_ne (unhide HK2).1 (unhide HK2).2.2.1 (by decide +kernel))
   have hHeld : w6.cell? ⟨Yb, 2, none⟩ = some (.slice (some ⟨B, 0, none⟩) nn cp) := Blk.cell b6 2
   have S6 := hide (And.intro u6 (And.intro m6 b6))
   refine hK1 _ _ (fun _ => hHeld) ?_
   clear hK1 K1 u6 m6 b6
   (try simp only [Act.put, List.setIfInBounds_toArray, List.set_cons_zero, List.set_cons_succ])
   refine step_G (i := 8) (by kernel_rfl) (fun K1 hK1 => ?_)
   refine wpOp_of rfl rfl ?_
   unfold Oper.wp
   go_simp
   refine (unhide DV _ _ (unhide S6).1).mono ?_
   rintro e w8 ⟨rfl, u8, m8⟩
   have P7 := hide ((unhide HK2).put u8 ((unhide S6).2.1.trans m8) hkn (unhide ED) (unhide EG) (unhide lU).1 (unhide S7).2.1)
   have k7 := Blk.cell (unhide P7).2.2 k
   rw [ints_at nn _ k hkn] at k7
   have f7 := Blk.free (unhide P7).2.2 k
   have hHeld : w8.cell? ⟨Yb, 2, none⟩ = some (.slice (some ⟨B, 0, none⟩) nn cp) := Blk.cell (unhide P7).2.1 2
   refine hK1 _ _ (fun _ => hHeld) ?_
   clear hK1 K1 u8 m8 S6
   (try simp only [Act.put, List.setIfInBounds_toArray, List.set_cons_zero, List.set_cons_succ])
   refine take_G (i := 9) (d := 53) (v := .pointer (some ⟨B, k, none⟩)) rfl rfl (by kernel_rfl) (by kernel_rfl) (by kernel_rfl) (by kernel_rfl) (by kernel_rfl) (Or.inl ⟨by rfl, ?_⟩) hHeld ?_
   ·intro wS hSw
    have z0 := hSw
    clear hHeld
    go_simp
   (try simp only [Act.put, List.setIfInBounds_toArray, List.set_cons_zero, List.set_cons_succ])
   clear hHeld
   generalize mixZ Y K k k = old at *
   refine step_G (i := 10) (by kernel_rfl) (fun K1 hK1 => ?_)
   refine wpOp_of rfl rfl ?_
   unfold Oper.wp
   go_simp
   refine hK1 _ _ (fun h => absurd rfl h) ?_
   clear hK1 K1
   (try simp only [Act.put, List.setIfInBounds_toArray, List.set_cons_zero, List.set_cons_succ])
   refine done_G (by kernel_rfl) ?_
   refine noPanic_normalE ?_
   have R : Hid (NxI w U n nn Yb B cp c2 (cnt + 2 * (nn : Int)) Y K (k + 1) (w8.setCell ⟨B, k, none⟩ (.int .i64 q))) := (unhide P7).1
   clear P7 k7 f7 WH DV ED EG HK2
   go_wp2
   go_roundw
   case rel => exact ⟨k + 1, by omega, by go_num, R⟩
   case measure => simp [intOf]; omega
  ·obtain rfl : k = nn := by omega
   obtain ⟨h1, h2, h3, h4, h5⟩ := unhide HK
   have y0 : wr.cell? ⟨Yb, 0, none⟩ = some (.int .i64 n) := Blk.cell h1 0
   have y1 : wr.cell? ⟨Yb, 1, none⟩ = some (.int .i64 n) := Blk.cell h1 1
   have y2 : wr.cell? ⟨Yb, 2, none⟩ = some (.slice (some ⟨B, 0, none⟩) k cp) := Blk.cell h1 2
   have e0 : wr.cell? ⟨w.heap.size + 1 + 1, 0, none⟩ = some (.int .i64 0) := Blk.cell h5 0
   have e1 : wr.cell? ⟨w.heap.size + 1 + 1, 1, none⟩ = some (.int .i64 0) := Blk.cell h5 1
   have e2 : wr.cell? ⟨w.heap.size + 1 + 1, 2, none⟩ = some (.slice none 0 0) := Blk.cell h5 2
   have f := Blk.free h5
   clear h1 h2 h3 h4 h5
   go_wp2
   obtain ⟨h1, h2, h3, h4, h5⟩ := unhide HK
   have P := putM h5 (.int .i64 n) (.int .i64 n) (.slice (some ⟨B, 0, none⟩) k cp)
   have rB : w.heap.size + 1 + 1 ≠ B := blk_ne h5 h2 (by decide +kernel)
   have lw := (unhide lU).1
   generalize (((wr.setCell ⟨w.heap.size + 1 + 1, 0, none⟩ (.int .i64 n)).setCell ⟨w.heap.size + 1 + 1, 1, none⟩ (.int .i64 n)).setCell ⟨w.heap.size + 1 + 1, 2, none⟩ (.slice (some ⟨B, 0, none⟩) k cp)) = wE at *
   have c0' : wE.cell? ⟨w.heap.size + 1 + 1, 0, none⟩ = some (.int .i64 n) := Blk.cell P.1 0
   have c1' : wE.cell? ⟨w.heap.size + 1 + 1, 1, none⟩ = some (.int .i64 n) := Blk.cell P.1 1
   have c2' : wE.cell? ⟨w.heap.size + 1 + 1, 2, none⟩ = some (.slice (some ⟨B, 0, none⟩) k cp) := Blk.cell P.1 2
   refine bodyPost_ret (v := .agg #[.int .i64 n, .int .i64 n, .slice (some ⟨B, 0, none⟩) k cp]) (by simp [results, Tryz.results91, go_sem, c0', c1', c2']) rfl ?_
   have hc1 := unhide HC1
   have hl := unhide lU
   rw [mix_all] at h2
   exact ⟨B, cp, rfl, (unhide S7).2.2.2, (unhide S7).2.1, Own.of (Blk.keep h2 P.2 (Ne.symm rB)), ⟨cnt + 2 * (k : Int) + 2 * (k : Int), by omega, by omega, Blk.keep h3 P.2 (by omega)⟩, h4.new P.2 (by omega)⟩
end Go.Proofs.YtjobgjcfkomhpaaGreat
namespace Go.Proofs.YtjobgjcfkomhpaaGreat
open Go.RowKit Go.Shelf Go.Proofs.Wd
set_option maxRecDepth 10000
theorem slice_fromO (b o len cap k : Nat) (h : k < cap) (hl : k ≤ len) (w : World) : (Instr.sliceAt 22 (.slice (some ⟨b, o, none⟩) len cap) (some (.int .i64 k)) none none).run Tryz.prog w = .ok (.slice (some ⟨b, o + k, none⟩) (len - k) (cap - k)) w := by
 have e : Tryz.prog.underlying 22 = some (.slice (Tryz.prog.elem 22)) := by kernel_rfl
 have s1 : (sizeOf (Tryz.prog.elem 22)).run Tryz.prog w = .ok 1 w := by kernel_rfl
 rw [run_sliceAt_slice w 22 _ _ _ _ e, run_slice_l w 22 _ len cap e .i64 k (by omega) (by omega), s1]
 show Result.ok (sliced _ (k : Int).toNat len cap 1) w = _
 unfold sliced
 rw [Int.toNat_natCast, if_neg (by omega)]
 show Result.ok (Value.slice (some ((⟨b, o, none⟩ : Addr).add (k * 1))) _ _) w = _
 rw [Go.WideShapes.add_plain, Nat.mul_one]
set_option maxHeartbeats 1000000 in
theorem chunkMk (ao : Option Addr) (len cap n : Nat) (hn : 1 ≤ n) (w : World) : Calls Tryz.prog 83 #[.slice ao len cap, .int .i64 n] w fun e w' => e = .returned (.func (.func 120) #[] #[.pointer (some ⟨w.heap.size, 0, none⟩), .pointer (some ⟨w.heap.size + 1, 0, none⟩)]) ∧ w' = (w.alloc (.cells #[.slice ao len cap] 22)).alloc (.cells #[.int .i64 n] 3) := by
 have d0 : decide ((n : Int) < 1) = false := decide_eq_false (by omega)
 go_enter Tryz.func83, Tryz.ntmps83
 go_wp2
 go_ret
 exact ⟨rfl, rfl⟩
def encC (b o n x : Nat) : Array Value := #[.slice (some ⟨b, o + x * n, none⟩) n n]
def nextC (r : Nat) (pre : List Nat) (x : Nat) : Prop := x = pre.length ∧ x < r
section
attribute [local go_sem] Oper.semAt_some
set_option maxRecDepth 100000 in
set_option maxHeartbeats 4000000 in
theorem chunk1_in (f l sb nb r n b o cap : Nat) (hf : 1 ≤ f) (hr : r ≤ 12) (hn : 1 ≤ n ∧ n ≤ 12) (hcap : r * n ≤ cap) (D : Nat → Prop) (dsb : ¬ D sb) (dnb : ¬ D nb) (J Jx : List Nat → World → Prop)
  (hJd : ∀ s A, J s A → J s A.drew) (hY : ∀ pre x W1, J pre W1 → nextC r pre x → YieldAt Fence.wide (f - 1) Tryz.prog l (encC b o n x) W1 fun e W' => KC D W1 W' ∧ ((e = .returned (.bool true) ∧ J (pre ++ [x]) W' ∧ True) ∨ (e = .returned (.bool false) ∧ Jx (pre ++ [x]) W')))
  (W : World) (hs : Blk sb #[.slice (some ⟨b, o, none⟩) (r * n) cap] 22 W) (hb : Blk nb #[.int .i64 n] 3 W) (h0 : J [] W) :
  CallsIn Fence.wide f Tryz.prog 120 #[.func (.yield l) #[] #[], .pointer (some ⟨sb, 0, none⟩), .pointer (some ⟨nb, 0, none⟩)] W fun e W' => (∃ v, e = .returned v) ∧ ((∃ xs : List Nat, xs.length = r ∧ J xs W') ∨ (∃ pre : List Nat, True ∧ Jx pre W')) := by
 have d0 : W.cell? ⟨sb, 0, none⟩ = some (.slice (some ⟨b, o, none⟩) (r * n) cap) := Blk.cell hs 0
 have HY := hide hY
 have HJd := hide hJd
 have H0 := hide (And.intro h0 (And.intro hs hb))
 have HB : Hid (r * n ≤ cap ∧ r * n ≤ 144) := ⟨hcap, Nat.mul_le_mul hr hn.2⟩
 have HPL : Hid (∀ k, k < r → k * n + n ≤ r * n) := fun k hk => place_le k r n hk
 obtain ⟨len, hlen⟩ : ∃ len, r * n = len := ⟨_, rfl⟩
 rw [hlen] at d0 H0 HB HPL
 have HLE := hide hlen
 have HN := hide hn
 clear hY hJd h0 hs hb hlen hcap hn
 refine callsIn_of_wp Tryz.func120 rfl trivial ?_ rfl
 simp only [Tryz.ntmps120, List.size_toArray, List.length_cons, List.length_nil, Nat.reduceAdd, Nat.reduceSub, Array.replicate_succ, Array.replicate_zero, List.push_toArray, List.append_toArray, List.nil_append, List.cons_append]
 gi_wp2
 gi_loopw [4] (fun i wr => ∃ k : Nat, k ≤ r ∧ i = .int .i64 ((k * n : Nat) : Int) ∧ Hid ((∃ pre : List Nat, pre.length = k ∧ J pre wr) ∧ Blk sb #[.slice (some ⟨b, o, none⟩) len cap] 22 wr ∧ Blk nb #[.int .i64 n] 3 wr)) (fun i _ => len - (intOf i).toNat)
 case atStart => exact ⟨0, Nat.zero_le _, by simp, ⟨[], rfl, (unhide H0).1⟩, (unhide H0).2⟩
 case round =>
  obtain ⟨k, hk, rfl, HI⟩ := hrel
  clear H0 d0
  by_cases hlt : k < r
  ·obtain ⟨⟨pre, hp, hJ⟩, hs, hb⟩ := unhide HI
   have c0 : wr.cell? ⟨sb, 0, none⟩ = some (.slice (some ⟨b, o, none⟩) len cap) := Blk.cell hs 0
   have c1 : wr.cell? ⟨nb, 0, none⟩ = some (.int .i64 n) := Blk.cell hb 0
   obtain ⟨fn, tmps, assign, body, hy, hR⟩ := unhide HY pre k wr.drew (unhide HJd _ _ hJ) ⟨hp.symm, hlt⟩
   dsimp only [encC] at hy
   have HS : Hid (pre.length = k ∧ Blk sb #[.slice (some ⟨b, o, none⟩) len cap] 22 wr.drew ∧ Blk nb #[.int .i64 n] 3 wr.drew) := ⟨hp, hs, hb⟩
   have pl := unhide HPL k hlt
   obtain ⟨q, hq⟩ : ∃ q, k * n = q := ⟨_, rfl⟩
   rw [hq] at pl hy
   rw [hq]
   have HQ := hide hq
   have hn1 := unhide HN
   have hb1 := unhide HB
   obtain ⟨q2, hq2⟩ : ∃ q2, q + n = q2 := ⟨_, rfl⟩
   have QE : Hid (q2 = (k + 1) * n ∧ k + 1 ≤ r ∧ q2 ≤ len ∧ q < q2) := by
    have e1 : (k + 1) * n = k * n + n := by rw [Nat.add_mul, Nat.one_mul]
    have l1 : q2 ≤ len := by omega
    have l2 : q < q2 := by omega
    exact ⟨by rw [e1, hq, hq2], hlt, l1, l2⟩
   have l3 : q < cap := by omega
   have l4 : q ≤ len := by omega
   have l5 : q < q2 := by omega
   have l6 : q2 ≤ cap := by omega
   have S1 := fun w => slice_fromO b o len cap q l3 l4 w
   have S2 := fun w => slice_part b o len cap q q2 l5 l6 w
   rw [show q2 - q = n by omega] at S2
   obtain ⟨d, hd⟩ : ∃ d : Nat, len - q = d := ⟨_, rfl⟩
   rw [hd] at S1
   have i1 : q < len := by omega
   have l7 : n ≤ d := by omega
   have l8 : q2 ≤ 1000000 := by omega
   have MN : ∀ (ts : Array TypeId) (t : TypeId) (w : World), (Builtin.min_ ts t #[.int .i64 (n : Int), .int .i64 (d : Int)]).run Tryz.prog w = .ok (.int .i64 (n : Int)) w := fun ts t w => by
    rw [Lib.run_min_ints, Int.min_eq_left (Int.ofNat_le.2 l7)]
   have hmin : min (n : Int) (d : Int) = (n : Int) := Int.min_eq_left (Int.ofNat_le.2 l7)
   have wa : wrap64 ((q : Int) + (n : Int)) = (q2 : Int) := wrapA q n q2 hq2 l8
   clear hp hs hb hJ HI hq hn1 hb1 hq2 pl hd hlt hk l3 l4 l5 l6 l7 l8
   gi_wp2
   gi_region
   have c0' : wr.drew.cell? ⟨sb, 0, none⟩ = some (.slice (some ⟨b, o, none⟩) len cap) := c0
   clear c0
   generalize wr.drew = w2 at *
   gi_wp2
   refine hR.mono ?_
   rintro e W3 ⟨hk, (⟨rfl, hJ3, _⟩ | ⟨rfl, hJx⟩)⟩
   ·have R3 : Hid ((∃ pre : List Nat, pre.length = k + 1 ∧ J pre W3) ∧ Blk sb #[.slice (some ⟨b, o, none⟩) len cap] 22 W3 ∧ Blk nb #[.int .i64 n] 3 W3) :=
     ⟨⟨_, by rw [List.length_append, (unhide HS).1]; rfl, hJ3⟩, hk.blk (unhide HS).2.1 dsb, hk.blk (unhide HS).2.2 dnb⟩
    have c3 : W3.cell? ⟨nb, 0, none⟩ = some (.int .i64 n) := Blk.cell (unhide R3).2.2 0
    clear hJ3 hk hR hy HS c1 c0'
    gi_wp2
    go_roundw
    case rel => exact ⟨k + 1, (unhide QE).2.1, by rw [← (unhide QE).1, wa], R3⟩
    case measure =>
     have h1 := (unhide QE).2.2.1
     have h2 := (unhide QE).2.2.2
     rw [wa]
     simp [intOf]
     omega
   ·have R3 : Hid (Jx (pre ++ [k]) W3) := hJx
    clear hJx hk hR hy HS c1 c0'
    gi_wp2
    refine bodyPost_ret (results_none rfl _ _ _) rfl ?_
    exact ⟨⟨_, rfl⟩, .inr ⟨_, trivial, unhide R3⟩⟩
  ·obtain rfl : k = r := by omega
   have HF : Hid (∃ xs : List Nat, xs.length = k ∧ J xs wr) := (unhide HI).1
   have c0 : wr.cell? ⟨sb, 0, none⟩ = some (.slice (some ⟨b, o, none⟩) len cap) := Blk.cell (unhide HI).2.1 0
   rw [unhide HLE]
   clear HI
   gi_wp2
   go_end0
   exact ⟨⟨_, rfl⟩, .inl (unhide HF)⟩
end
end Go.Proofs.YtjobgjcfkomhpaaGreat
namespace Go.Proofs.YtjobgjcfkomhpaaGreat
open Go.RowKit Go.Shelf Go.Proofs.Wd
set_option maxRecDepth 10000
def MovesP (n nn : Nat) (A : Nat → Int) (w : World) (e : Ending) (w' : World) : Prop := ∃ B cp, e = .returned (.agg #[.int .i64 n, .int .i64 n, .slice (some ⟨B, 0, none⟩) nn cp]) ∧ nn ≤ cp ∧ w.heap.size ≤ B ∧ Own B nn A w' ∧ Kp w w'
def lst (A : Nat → Int) (k : Nat) : List Value := (List.range k).map fun i => Value.int .i64 (A i)
def lstF (A : Nat → Int) (k n : Nat) : List Value := (List.range n).map fun i => Value.int .i64 (A (k + i))
theorem lst_add (A : Nat → Int) (k n : Nat) : lst A k ++ lstF A k n = lst A (k + n) := by
 unfold lst lstF
 rw [List.range_add, List.map_append, List.map_map]
 rfl
theorem owns_sl {w : World} {base n : Nat} {v : Value} {xs : List Value} (h : w.ownsRow base 3 1 v n xs) : ∃ ao cap, v = .slice ao n cap := by
 rcases h.2 with ⟨e, rfl⟩ | ⟨g, cap, cur, e, _⟩
 ·exact ⟨none, 0, e⟩
 ·exact ⟨_, cap, e⟩
def MvI (w : World) (n : Nat) (A : Nat → Int) (j : Nat) (W : World) : Prop :=
 ∃ v, Blk (w.heap.size + 1 + 1) #[.int .i64 (j : Int), .int .i64 n, v] 38 W ∧ W.ownsRow (w.heap.size + 1 + 1 + 1 + 1 + 1) 3 1 v (j * n) (lst A (j * n)) ∧ Blk (w.heap.size + 1) #[.int .i64 0, .int .i64 0, .slice none 0 0] 38 W ∧ Kp w W
theorem MvI.drew {w W : World} {n j : Nat} {A : Nat → Int} (h : MvI w n A j W) : MvI w n A j W.drew := by
 obtain ⟨v, h1, h2, h3, h4⟩ := h
 exact ⟨v, h1, h2, h3, h4.trans (Kp.of ((Grown.refl _).drew))⟩
theorem MvI.own {w W W' : World} {n j B : Nat} {A : Nat → Int} {row : Option Nat} (h : MvI w n A j W) (hB : w.heap.size ≤ B) (hg : W.grownBy W' row) (hr : ∀ r, row = some r → B ≤ r ∧ ∃ o : Obj, W.heap[r]? = some o ∧ o.isCells = false) : MvI w n A j W' := by
 have hr' : ∀ r, row = some r → ∃ o : Obj, W.heap[r]? = some o ∧ o.isCells = false := fun r e => (hr r e).2
 obtain ⟨v, h1, h2, h3, h4⟩ := h
 refine ⟨v, blk_own h1 hg hr', h2.kept hg ?_, blk_own h3 hg hr', h4.by hg (fun k e => Nat.le_trans hB (hr k e).1)⟩
 rcases h2.2 with ⟨rfl, _⟩ | ⟨g, cap, cur, rfl, hbg, hg0, _⟩
 ·exact Or.inl rfl
 ·refine Or.inr fun e => ?_
  obtain ⟨o, ho, hc⟩ := hr' g e.symm
  rw [hg0] at ho
  cases ho
  cases hc
theorem MvI.app {w W w5 : World} {n j k : Nat} {A : Nat → Int} {v v' : Value} (h1 : Blk (w.heap.size + 1 + 1) #[.int .i64 (j : Int), .int .i64 n, v] 38 W) (h2 : W.ownsRow (w.heap.size + 1 + 1 + 1 + 1 + 1) 3 1 v k (lst A k)) (h3 : Blk (w.heap.size + 1) #[.int .i64 0, .int .i64 0, .slice none 0 0] 38 W) (h4 : Kp w W) (hk : j * n = k)
  (hown : w5.ownsRow (w.heap.size + 1 + 1 + 1 + 1 + 1) 3 1 v' (k + n) (lst A k ++ lstF A k n)) (hg : W.grownBy w5 v.ownBlock) :
  Blk (w.heap.size + 1 + 1) #[.int .i64 (j : Int), .int .i64 n, v] 38 w5 ∧ KeepsOthers W ((w5.setCell ⟨w.heap.size + 1 + 1, 2, none⟩ v').setCell ⟨w.heap.size + 1 + 1, 0, none⟩ (.int .i64 ((j : Int) + 1))) ∧ KC (fun q => q = w.heap.size + 1 + 1 ∨ w.heap.size + 1 + 1 + 1 + 1 + 1 ≤ q) W ((w5.setCell ⟨w.heap.size + 1 + 1, 2, none⟩ v').setCell ⟨w.heap.size + 1 + 1, 0, none⟩ (.int .i64 ((j : Int) + 1))) ∧ MvI w n A (j + 1) ((w5.setCell ⟨w.heap.size + 1 + 1, 2, none⟩ v').setCell ⟨w.heap.size + 1 + 1, 0, none⟩ (.int .i64 ((j : Int) + 1))) := by
 have gv : ∀ g, v.ownBlock = some g → w.heap.size + 1 + 1 + 1 + 1 + 1 ≤ g ∧ ∃ cur, Blk g cur 3 W := fun g e => by
  rcases h2.2 with ⟨rfl, _⟩ | ⟨g', cap, cur, rfl, hbg, hg0, _⟩
  ·cases e
  ·cases e
   exact ⟨hbg, cur, hg0⟩
 have b1 : Blk (w.heap.size + 1 + 1) #[.int .i64 (j : Int), .int .i64 n, v] 38 w5 := Blk.by h1 hg (fun e => by have := (gv _ e.symm).1; omega)
 have b3 : Blk (w.heap.size + 1) #[.int .i64 0, .int .i64 0, .slice none 0 0] 38 w5 := Blk.by h3 hg (fun e => by have := (gv _ e.symm).1; omega)
 have s : Mod (w.heap.size + 1 + 1) w5 ((w5.setCell ⟨w.heap.size + 1 + 1, 2, none⟩ v').setCell ⟨w.heap.size + 1 + 1, 0, none⟩ (.int .i64 ((j : Int) + 1))) := ((Mod.refl _ _).setCell _ _).setCell _ _
 have b5 := Blk.set (Blk.set b1 2 v') 0 (.int .i64 ((j : Int) + 1))
 have ko : KeepsOthers W ((w5.setCell ⟨w.heap.size + 1 + 1, 2, none⟩ v').setCell ⟨w.heap.size + 1 + 1, 0, none⟩ (.int .i64 ((j : Int) + 1))) := ((KeepsOthers.of_grownBy hg (fun q o e ho => by
  obtain ⟨_, cur, hb⟩ := gv q e
  rw [show W.heap[q]? = _ from hb] at ho
  cases ho
  rfl)).trans (KeepsOthers.setCell _ _ _)).trans (KeepsOthers.setCell _ _ _)
 generalize ((w5.setCell ⟨w.heap.size + 1 + 1, 2, none⟩ v').setCell ⟨w.heap.size + 1 + 1, 0, none⟩ (.int .i64 ((j : Int) + 1))) = WE at *
 have hs := hg.size
 refine ⟨b1, ko, ?_, v', b5, ?_, Blk.keep b3 s (by omega), (h4.by hg (fun q e => by have := (gv q e).1; omega)).mod s (by omega)⟩
 ·refine KC.of (fun i hi hD => ?_) (Nat.le_trans hs s.2.2.2.2)
  rw [s.2.2.1 i (by omega) (fun e => hD (Or.inl e))]
  exact hg.block i hi (fun e => hD (Or.inr (gv i e.symm).1))
 ·have ek : (j + 1) * n = k + n := by rw [Nat.add_mul, Nat.one_mul, hk]
  rw [ek, ← lst_add]
  rcases hown.2 with ⟨e1, e2⟩ | ⟨g, cap, cur, e1, hbg, hg0, r⟩
  ·exact ⟨hown.1, Or.inl ⟨e1, e2⟩⟩
  ·exact ⟨hown.1, Or.inr ⟨g, cap, cur, e1, hbg, (s.2.2.1 g (Array.getElem?_eq_some_iff.1 hg0).1 (by omega)).trans hg0, r⟩⟩
section
attribute [local go_sem] Oper.semAt_some
set_option maxRecDepth 100000 in
set_option maxHeartbeats 8000000 in
theorem moMoves_raw (n nn b o cap ql qc rl rc : Nat) (qa ro : Option Addr) (tick gate rmin : Int) (A : Nat → Int) (hn : 1 ≤ n ∧ n ≤ 6) (hnn : n * n = nn) (hcap : nn ≤ cap) (w : World) (za : ∀ i, i < nn → w.cell? ⟨b, o + i, none⟩ = some (.int .i64 (A i))) :
  Calls Tryz.prog 39 #[.agg #[.int .i64 n, .slice (some ⟨b, o, none⟩) nn cap, .slice qa ql qc, .int .i64 tick, .int .i64 gate, .int .i64 rmin, .slice ro rl rc]] w fun e w' => MovesP n nn A w e w' := by
 have HN : Hid ((1 ≤ n ∧ n ≤ 6) ∧ n * n = nn ∧ nn ≤ cap) := ⟨hn, hnn, hcap⟩
 have HA := hide za
 obtain ⟨i0, hi, hz0, hz1, hz2⟩ := info_parts Tryz.infoInt
 have HI0 := hide (And.intro hi (And.intro hz0 (And.intro hz1 hz2)))
 have B2 : Hid (Grown w (((((w.alloc (.cells #[.int .i64 n, .slice (some ⟨b, o, none⟩) nn cap, .slice qa ql qc, .int .i64 tick, .int .i64 gate, .int .i64 rmin, .slice ro rl rc] 25)).alloc (.cells #[.int .i64 0, .int .i64 0, .slice none 0 0] 38)).alloc (.cells #[.int .i64 0, .int .i64 n, .slice none 0 0] 38)).alloc (.cells #[.slice (some ⟨b, o, none⟩) nn cap] 22)).alloc (.cells #[.int .i64 n] 3)) ∧ Blk (w.heap.size + 1) #[.int .i64 0, .int .i64 0, .slice none 0 0] 38 (((((w.alloc (.cells #[.int .i64 n, .slice (some ⟨b, o, none⟩) nn cap, .slice qa ql qc, .int .i64 tick, .int .i64 gate, .int .i64 rmin, .slice ro rl rc] 25)).alloc (.cells #[.int .i64 0, .int .i64 0, .slice none 0 0] 38)).alloc (.cells #[.int .i64 0, .int .i64 n, .slice none 0 0] 38)).alloc (.cells #[.slice (some ⟨b, o, none⟩) nn cap] 22)).alloc (.cells #[.int .i64 n] 3)) ∧ Blk (w.heap.size + 1 + 1) #[.int .i64 0, .int .i64 n, .slice none 0 0] 38 (((((w.alloc (.cells #[.int .i64 n, .slice (some ⟨b, o, none⟩) nn cap, .slice qa ql qc, .int .i64 tick, .int .i64 gate, .int .i64 rmin, .slice ro rl rc] 25)).alloc (.cells #[.int .i64 0, .int .i64 0, .slice none 0 0] 38)).alloc (.cells #[.int .i64 0, .int .i64 n, .slice none 0 0] 38)).alloc (.cells #[.slice (some ⟨b, o, none⟩) nn cap] 22)).alloc (.cells #[.int .i64 n] 3)) ∧ Blk (w.heap.size + 1 + 1 + 1) #[.slice (some ⟨b, o, none⟩) nn cap] 22 (((((w.alloc (.cells #[.int .i64 n, .slice (some ⟨b, o, none⟩) nn cap, .slice qa ql qc, .int .i64 tick, .int .i64 gate, .int .i64 rmin, .slice ro rl rc] 25)).alloc (.cells #[.int .i64 0, .int .i64 0, .slice none 0 0] 38)).alloc (.cells #[.int .i64 0, .int .i64 n, .slice none 0 0] 38)).alloc (.cells #[.slice (some ⟨b, o, none⟩) nn cap] 22)).alloc (.cells #[.int .i64 n] 3)) ∧ Blk (w.heap.size + 1 + 1 + 1 + 1) #[.int .i64 n] 3 (((((w.alloc (.cells #[.int .i64 n, .slice (some ⟨b, o, none⟩) nn cap, .slice qa ql qc, .int .i64 tick, .int .i64 gate, .int .i64 rmin, .slice ro rl rc] 25)).alloc (.cells #[.int .i64 0, .int .i64 0, .slice none 0 0] 38)).alloc (.cells #[.int .i64 0, .int .i64 n, .slice none 0 0] 38)).alloc (.cells #[.slice (some ⟨b, o, none⟩) nn cap] 22)).alloc (.cells #[.int .i64 n] 3)) ∧ ((((((w.alloc (.cells #[.int .i64 n, .slice (some ⟨b, o, none⟩) nn cap, .slice qa ql qc, .int .i64 tick, .int .i64 gate, .int .i64 rmin, .slice ro rl rc] 25)).alloc (.cells #[.int .i64 0, .int .i64 0, .slice none 0 0] 38)).alloc (.cells #[.int .i64 0, .int .i64 n, .slice none 0 0] 38)).alloc (.cells #[.slice (some ⟨b, o, none⟩) nn cap] 22)).alloc (.cells #[.int .i64 n] 3))).heap.size = w.heap.size + 1 + 1 + 1 + 1 + 1) := by
  obtain ⟨g, hs, _, b2, b3, b4, b5⟩ := alloc5 w #[.int .i64 n, .slice (some ⟨b, o, none⟩) nn cap, .slice qa ql qc, .int .i64 tick, .int .i64 gate, .int .i64 rmin, .slice ro rl rc] 25 #[.int .i64 0, .int .i64 0, .slice none 0 0] 38 #[.int .i64 0, .int .i64 n, .slice none 0 0] 38 #[.slice (some ⟨b, o, none⟩) nn cap] 22 #[.int .i64 n] 3
  exact ⟨g, b2, b3, b4, b5, hs⟩
 have y0 : (w.alloc (.cells #[.int .i64 n, .slice (some ⟨b, o, none⟩) nn cap, .slice qa ql qc, .int .i64 tick, .int .i64 gate, .int .i64 rmin, .slice ro rl rc] 25)).cell? ⟨w.heap.size, 0, none⟩ = some (.int .i64 n) := Blk.cell (Blk.new w _ _) 0
 have n1 := hn.1
 clear hn hnn hcap za hi hz0 hz1 hz2 y0
 refine (callsIn_wide (n := 6)).1 ?_
 refine callsIn_of_wp_marks Tryz.func39 rfl trivial ?_ rfl
 simp only [Tryz.ntmps39, List.size_toArray, List.length_cons, List.length_nil, Nat.reduceAdd, Nat.reduceSub, Array.replicate_succ, Array.replicate_zero, List.push_toArray, List.append_toArray, List.nil_append, List.cons_append]
 gi_wp2_with (refine ⟨trivial, ?_⟩; gi_at_call 83; refine (callsIn_wide.2 (chunkMk _ _ _ _ n1 _)).mono ?_; rintro e w' ⟨rfl, rfl⟩)
 obtain ⟨W0, hW0⟩ : ∃ W0, (((((w.alloc (.cells #[.int .i64 n, .slice (some ⟨b, o, none⟩) nn cap, .slice qa ql qc, .int .i64 tick, .int .i64 gate, .int .i64 rmin, .slice ro rl rc] 25)).alloc (.cells #[.int .i64 0, .int .i64 0, .slice none 0 0] 38)).alloc (.cells #[.int .i64 0, .int .i64 n, .slice none 0 0] 38)).alloc (.cells #[.slice (some ⟨b, o, none⟩) nn cap] 22)).alloc (.cells #[.int .i64 n] 3)) = W0 := ⟨_, rfl⟩
 rw [hW0]
 rw [hW0] at B2
 have ST : Hid (MvI w n A 0 W0) := by
  obtain ⟨g, b2, b3, _⟩ := unhide B2
  refine ⟨.slice none 0 0, b3, ?_, b2, Kp.of g⟩
  rw [Nat.zero_mul]
  exact World.ownsRow_nil _ _ _ _
 clear hW0
 refine range_own (P := Tryz.prog) (encs := encC b o n) (St := fun A B => B = A.drew) (D := fun q => q = w.heap.size + 1 + 1 ∨ w.heap.size + 1 + 1 + 1 + 1 + 1 ≤ q) (Px := nextC n) (Pp := fun _ => True) (S := fun xs _ => xs.length = n) (Sp := fun _ _ => True) rfl (by omega) (gf := 120) (lb := #[.pointer (some ⟨w.heap.size + 1 + 1 + 1, 0, none⟩), .pointer (some ⟨w.heap.size + 1 + 1 + 1 + 1, 0, none⟩)]) rfl trivial (enters_of Tryz.func120 (by kernel_rfl) rfl) (fun _ => rfl)
  (fun _ _ _ _ h _ hA _ => by subst h; exact hA)
  (fun l J Jx W hg hJ hY h0 => ?seq)
  (fun pre W => pre.length ≤ n ∧ W0.heap.size ≤ W.heap.size ∧ MvI w n A pre.length W)
  (fun _ _ _ => False)
  (fun pre W W' row h hg hr => let ⟨h1, hs, h2⟩ := h; ⟨h1, Nat.le_trans hs hg.size, h2.own (by have := (unhide B2).2.2.2.2.2; omega) hg hr⟩)
  (fun c pre W W' row h hg hr => h.elim)
  (fun _ _ _ _ h _ _ => h)
  (fun _ _ _ _ h _ _ => h)
  (fun pre X Y h s => by subst s; exact ⟨h.1, h.2.1, h.2.2.drew⟩)
  (fun pre W h => trivial)
  ⟨Nat.zero_le _, Nat.le_refl _, unhide ST⟩
  (fun x a' W => a' = { tmps := #[.agg #[.int .i64 n, .slice (some ⟨b, o, none⟩) nn cap, .slice qa ql qc, .int .i64 tick, .int .i64 gate, .int .i64 rmin, .slice ro rl rc], .pointer (some ⟨w.heap.size, 0, none⟩), .pointer (some ⟨w.heap.size + 1, 0, none⟩), .pointer (some ⟨w.heap.size + 1 + 1, 0, none⟩), .slice (some ⟨b, o + x * n, none⟩) n n, .pointer (some ⟨w.heap.size, 0, none⟩), .int .i64 n, .agg #[.int .i64 0, .int .i64 n, .slice none 0 0], .pointer (some ⟨w.heap.size, 1, none⟩), .slice (some ⟨b, o, none⟩) nn cap, .pointer (some ⟨w.heap.size, 0, none⟩), .int .i64 n, .func (.func 120) #[] #[.pointer (some ⟨w.heap.size + 1 + 1 + 1, 0, none⟩), .pointer (some ⟨w.heap.size + 1 + 1 + 1 + 1, 0, none⟩)], .slice (some ⟨b, o + x * n, none⟩) n n, undef, undef, undef, undef, undef, undef, undef, undef, undef, undef], defers := [] })
  (fun x a' _ W W' row h hg hr => h)
  ?assign ?body ?done ?stop
 case seq =>
  obtain ⟨g, b2, b3, b4, b5, hs⟩ := unhide B2
  obtain ⟨hn, hnn, hcap⟩ := unhide HN
  have gk : ∀ c cs T, Blk c cs T W0 → Blk c cs T W := fun c cs T h => (hg.block c (Blk.lt h) (by simp)).trans h
  refine chunk1_in _ l (w.heap.size + 1 + 1 + 1) (w.heap.size + 1 + 1 + 1 + 1) n n b o cap (by omega) (by omega) ⟨by omega, by omega⟩ (by omega) _ (by omega) (by omega) J Jx (fun s A h => hJ s A _ h rfl) hY W ?_ (gk _ _ _ b5) h0
  rw [hnn]
  exact gk _ _ _ b4
 case assign =>
  intro l pre x W K hI2 hK
  dsimp only [encC]
  gi_wp2
  exact hK _ _ (KeepsFrom.refl _ _) (KC.refl _ _) hI2 rfl
 case body =>
  rintro l pre x a' W ⟨hle, hs, v, h1, h2, h3, h4⟩ rfl ⟨hx, hxn⟩
  obtain ⟨j, hj⟩ : ∃ j, pre.length = j := ⟨_, rfl⟩
  rw [hj] at hx hle h1 h2
  subst hx
  obtain ⟨k, hk⟩ : ∃ k, x * n = k := ⟨_, rfl⟩
  rw [hk] at h2
  obtain ⟨⟨m1, m2⟩, hnn, hcap⟩ := unhide HN
  obtain ⟨hi, hz0, hz1, hz2⟩ := unhide HI0
  have kb : k + n ≤ 36 := by
   have q1 := place_le x n n hxn
   have q2 : n * n ≤ 6 * 6 := Nat.mul_le_mul m2 m2
   rw [hk] at q1
   omega
  have knn : k + n ≤ nn := by
   have q1 := place_le x n n hxn
   rw [hk] at q1
   omega
  have NW : Hid (∀ q u, (lstF A k n)[q]? = some u → W.cell? ((⟨b, o + k, none⟩ : Addr).add q) = some u) := by
   intro q u hu
   unfold lstF at hu
   rw [List.getElem?_map] at hu
   by_cases hq : q < n
   ·rw [List.getElem?_range hq] at hu
    simp at hu
    subst hu
    rw [Go.WideShapes.add_plain, Nat.add_assoc]
    exact h4.cell (unhide HA (k + q) (by omega))
   ·rw [List.getElem?_eq_none (by simpa using hq)] at hu
    simp at hu
  have y0 : W.cell? ⟨w.heap.size + 1 + 1, 0, none⟩ = some (.int .i64 (x : Int)) := Blk.cell h1 0
  have y2 : W.cell? ⟨w.heap.size + 1 + 1, 2, none⟩ = some v := Blk.cell h1 2
  have OW := hide h2
  have C1 : Hid (∀ u ∈ lstF A k n, u.oneCell' = true) := cells_one n (fun i => A (k + i))
  have HS := hide (And.intro h1 (And.intro h2 (And.intro h3 (And.intro h4 hs))))
  have LB : Hid (w.heap.size + 1 + 1 + 1 + 1 + 1 ≤ W.heap.size) := by have := (unhide B2).2.2.2.2.2; unfold Hid; omega
  have x6 : x ≤ 6 := by omega
  have XN : Hid (x + 1 ≤ n) := hxn
  rw [hk]
  have HK := hide hk
  have HJ := hide hj
  clear h1 h2 h3 h4 hs hcap hnn hxn hle hj knn n1 m1 m2 HA ST B2 hk
  gi_wp2_with (gi_at_builtin; refine wpListIn_append_own _ rfl _ _ 22 rfl (w.heap.size + 1 + 1 + 1 + 1 + 1) 3 i0 (.int .i64 0) 1 8 Tryz.underlying22 hi hz0 hz1 hz2 rfl (by decide) _ _ _ rfl (unhide OW) ⟨b, o + k, none⟩ n n (lstF A k n) rfl (by simp [lstF]) (unhide NW) (unhide C1) (by unfold maxLen; omega) (by omega) (unhide LB) ?_; intro v' w5 hown' hgrow _; obtain ⟨ao2, cap2, rfl⟩ := (owns_sl hown'); have P := hide (MvI.app (unhide HS).1 (unhide HS).2.1 (unhide HS).2.2.1 (unhide HS).2.2.2.1 (unhide HK) hown' hgrow); have z0 : w5.cell? ⟨w.heap.size + 1 + 1, 0, none⟩ = some (.int .i64 (x : Int)) := Blk.cell (unhide P).1 0; have z2 : w5.cell? ⟨w.heap.size + 1 + 1, 2, none⟩ = some v := Blk.cell (unhide P).1 2; have ff := Blk.free (unhide P).1; clear hown' hgrow)
  have e1 : (pre ++ [x]).length = x + 1 := by rw [List.length_append, unhide HJ]; rfl
  refine ⟨(unhide P).2.1.from _, (unhide P).2.2.1, ?_, ?_, ?_⟩
  ·rw [e1]; exact unhide XN
  ·exact Nat.le_trans (unhide HS).2.2.2.2 (unhide P).2.1.size
  ·rw [e1]; exact (unhide P).2.2.2
 case done =>
  rintro d xs W hd hl ⟨h1, hs, v, h2, h3, h4, h5⟩ hDf
  rw [hl, (unhide HN).2.1] at h3
  rw [hl] at h2
  obtain ⟨B, cp, rfl, hc2, hB, own2⟩ := owns_ownC (by have := (unhide HN).1; have := (unhide HN).2.1; rw [← (unhide HN).2.1]; exact Nat.mul_pos n1 n1) h3
  have z0 : W.cell? ⟨w.heap.size + 1 + 1, 0, none⟩ = some (.int .i64 n) := Blk.cell h2 0
  have z1 : W.cell? ⟨w.heap.size + 1 + 1, 1, none⟩ = some (.int .i64 n) := Blk.cell h2 1
  have z2 : W.cell? ⟨w.heap.size + 1 + 1, 2, none⟩ = some (.slice (some ⟨B, 0, none⟩) nn cp) := Blk.cell h2 2
  have y0 : W.cell? ⟨w.heap.size + 1, 0, none⟩ = some (.int .i64 0) := Blk.cell h4 0
  have y1 : W.cell? ⟨w.heap.size + 1, 1, none⟩ = some (.int .i64 0) := Blk.cell h4 1
  have y2 : W.cell? ⟨w.heap.size + 1, 2, none⟩ = some (.slice none 0 0) := Blk.cell h4 2
  have ff := Blk.free h4
  have hz := (unhide B2).2.2.2.2.2
  have HS := hide (And.intro h4 (And.intro h5 (And.intro hc2 (And.intro hB (And.intro own2 (show w.heap.size + 5 ≤ d by omega))))))
  clear h1 hs h2 h3 h4 h5 hc2 hB own2 hz B2 ST HA n1
  gi_wp2
  obtain ⟨h4, h5, hc2, hB, own2, hd2⟩ := unhide HS
  have P := putM h4 (.int .i64 n) (.int .i64 n) (.slice (some ⟨B, 0, none⟩) nn cp)
  have oB : B ≠ w.heap.size + 1 := by omega
  have kD := (((KeepsOthers.setCell W ⟨w.heap.size + 1, 0, none⟩ (.int .i64 n)).trans (KeepsOthers.setCell _ ⟨w.heap.size + 1, 1, none⟩ (.int .i64 n))).trans (KeepsOthers.setCell _ ⟨w.heap.size + 1, 2, none⟩ (.slice (some ⟨B, 0, none⟩) nn cp))).same d _ hDf rfl
  generalize (((W.setCell ⟨w.heap.size + 1, 0, none⟩ (.int .i64 n)).setCell ⟨w.heap.size + 1, 1, none⟩ (.int .i64 n)).setCell ⟨w.heap.size + 1, 2, none⟩ (.slice (some ⟨B, 0, none⟩) nn cp)) = WW at *
  have gD := grownBy_putObj' WW d (.deferred none)
  have b2 := Blk.by P.1 gD (fun e => by cases e; omega)
  have ow := own2.mk (Mk.of P.2) oB
  have oD : B ≠ d := by
   intro e
   obtain ⟨cur, c1, _⟩ := ow
   rw [← e] at kD
   rw [show WW.heap[B]? = _ from c1] at kD
   cases kD
  have o2 := ow.by gD (fun e => oD (by simpa using e))
  have m2 := (h5.mod P.2 (by omega)).by gD (fun k e => by cases e; omega)
  refine ⟨by simp, .inl ⟨_, _, rfl, run_takeDeferred kD, ?_⟩⟩
  have c0' : (WW.putObj d (.deferred none)).cell? ⟨w.heap.size + 1, 0, none⟩ = some (.int .i64 n) := Blk.cell b2 0
  have c1' : (WW.putObj d (.deferred none)).cell? ⟨w.heap.size + 1, 1, none⟩ = some (.int .i64 n) := Blk.cell b2 1
  have c2' : (WW.putObj d (.deferred none)).cell? ⟨w.heap.size + 1, 2, none⟩ = some (.slice (some ⟨B, 0, none⟩) nn cp) := Blk.cell b2 2
  generalize WW.putObj d (.deferred none) = WP at *
  refine ⟨.agg #[.int .i64 n, .int .i64 n, .slice (some ⟨B, 0, none⟩) nn cp], by simp [results, Tryz.results39, go_sem, c0', c1', c2'], ?_⟩
  exact ⟨B, cp, rfl, hc2, by omega, o2, m2⟩
 case stop =>
  rintro d c pre W hd _ h
  exact h.elim
end
end Go.Proofs.YtjobgjcfkomhpaaGreat
namespace Go.Proofs.YtjobgjcfkomhpaaGreat
open Go.RowKit Go.Shelf Go.Proofs.Wd
set_option maxRecDepth 10000
section
variable {base n nn : Nat} {A : Nat → Int} {v v' : Value} {l : List MV} {W W' : World}
end
theorem MLs.openL {base n : Nat} {v : Value} {l : List MV} {W : World} (h : MLs W base v l) (hl : l.length = n) (hn : 1 ≤ n) : ∃ g c, v = .slice (some ⟨g, 0, none⟩) n c ∧ n ≤ c ∧ base ≤ g ∧ ∀ i x, l[i]? = some x → W.cell? ⟨g, i * 3, none⟩ = some (.int .i64 x.R) ∧ W.cell? ⟨g, i * 3 + 1, none⟩ = some (.int .i64 x.C) ∧ W.cell? ⟨g, i * 3 + 2, none⟩ = some (.slice x.ao x.len x.cap) := by
 obtain ⟨ao, cap, e, hM, hc, _⟩ := h.mats
 rcases h.2 with ⟨e2, e3⟩ | ⟨g', cap', cur, e2, hb, hg, r⟩
 ·have : l.length = 0 := by simpa using e3
  omega
 ·rw [e2] at e
  cases e
  refine ⟨g', cap, by rw [e2, hl], by omega, hb, fun i x hx => ?_⟩
  obtain ⟨b, o, e, c0, c1, c2⟩ := hM.at (k := i) (List.getElem?_eq_some_iff.1 hx).1
  cases e
  rw [ixM_at hx, Nat.zero_add] at c0 c1 c2
  exact ⟨c0, c1, c2⟩
theorem mls_one {w : World} {b base : Nat} (x : MV) (h : Blk b x.cells 38 w) (hb : base ≤ b) : MLs w base (.slice (some ⟨b, 0, none⟩) 1 1) [x] := by
 unfold MLs
 refine ⟨?_, Or.inr ⟨b, 1, x.cells, rfl, hb, h, Nat.le_refl _, by decide, rfl, ?_⟩⟩
 ·rw [flat_len]
 ·show List.take (1 * 3) x.cells.toList = flat [x]
  simp [flat, MV.cells]
theorem two_G {P : Program} {ops : Array Oper} {Q : Exit → Act → World → Prop} {md : Region.Mode} {S : World → Prop} {g i j fuel : Nat} {listed : Array Bool} {a : Act} {w : World} (hr : Region.ready md ops listed = [i, j])
  (hi : ∀ K : Act → World → Prop, (∀ a' w', (i ≠ g → S w') → wpAnyG P md ops (NoPanic Q) S g fuel (listed.setIfInBounds i true) a' w' → K a' w') → wpOp P ops (NoPanic Q) i K a w)
  (hj : ∀ K : Act → World → Prop, (∀ a' w', (j ≠ g → S w') → wpAnyG P md ops (NoPanic Q) S g fuel (listed.setIfInBounds j true) a' w' → K a' w') → wpOp P ops (NoPanic Q) j K a w) : wpAnyG P md ops (NoPanic Q) S g (fuel + 1) listed a w :=
 ⟨fun h0 => by (rw [hr] at h0; cases h0), fun m hm => by
  rw [hr] at hm
  rcases List.mem_cons.1 hm with rfl | hm
  ·exact hi _ (fun a' w' h1 h2 => ⟨h1, h2⟩)
  ·cases List.mem_singleton.1 hm
   exact hj _ (fun a' w' h1 h2 => ⟨h1, h2⟩)⟩
theorem Own.ltA {B len : Nat} {Z : Nat → Int} {w : World} (h : Own B len Z w) : B < w.heap.size := let ⟨_, h1, _⟩ := h; Blk.lt h1
end Go.Proofs.YtjobgjcfkomhpaaGreat
namespace Go.Proofs.YtjobgjcfkomhpaaGreat
open Go.RowKit Go.Shelf Go.Proofs.Wd
set_option maxRecDepth 10000
def GTx (n nn : Nat) (T : Nat → Nat → Int) (i B cp : Nat) : MV := ⟨n, n, some ⟨B, 0, none⟩, nn, cp, T i⟩
def GTl (base n nn : Nat) (T : Nat → Nat → Int) (v : Value) (l : List MV) (W : World) : Prop :=
 MLs W base v l ∧ ∀ i x, l[i]? = some x → ∃ B cp, x = GTx n nn T i B cp ∧ nn ≤ cp ∧ base ≤ B ∧ Own B nn (T i) W
section
variable {base n nn : Nat} {T : Nat → Nat → Int} {v v' : Value} {l : List MV} {W W' : World}
theorem GTl.kp (h : GTl base n nn T v l W) (k : Kp W W') : GTl base n nn T v l W' :=
 ⟨h.1.kp k, fun i x hx => let ⟨B, cp, e, h1, h2, cur, h3, h4⟩ := h.2 i x hx; ⟨B, cp, e, h1, h2, cur, Blk.kp h3 k, h4⟩⟩
theorem GTl.own_ge (h : GTl base n nn T v l W) : ∀ g, v.ownBlock = some g → base ≤ g ∧ ∃ cur, Blk g cur 38 W := fun g e => by
 rcases h.1.2 with ⟨e2, _⟩ | ⟨g', cap, cur, rfl, hb, hg, r⟩
 ·rw [e2] at e
  cases e
 ·cases e
  exact ⟨hb, cur, hg⟩
theorem GTl.mk {b : Nat} (h : GTl base n nn T v l W) (m : Mk b W W') (hb : b < base) : GTl base n nn T v l W' :=
 ⟨h.1.blk fun g cs e hge hbk => Blk.mk hbk m (by omega), fun i x hx => by
  obtain ⟨B, cp, rfl, h1, h2, cur, h3, h4⟩ := h.2 i x hx
  exact ⟨B, cp, rfl, h1, h2, cur, Blk.mk h3 m (by omega), h4⟩⟩
theorem GTl.app {wa w4 : World} {B cp k : Nat} (h : GTl base n nn T v l wa) (hk : l.length = k) (hB : base ≤ B) (hcp : nn ≤ cp) (ho : Own B nn (T k) wa)
  (hown : w4.ownsRow base 38 3 v' (k + 1) (flat l ++ (GTx n nn T k B cp).cells.toList)) (hg : wa.grownBy w4 v.ownBlock) : GTl base n nn T v' (l ++ [GTx n nn T k B cp]) w4 := by
 have keep : ∀ b Z, Own b nn Z wa → Own b nn Z w4 := fun b Z ⟨cur, h1, h2⟩ => ⟨cur, Blk.by h1 hg (fun e => by
  obtain ⟨_, cur2, hb⟩ := h.own_ge b e.symm
  exact blk_ne h1 hb (by decide +kernel) rfl), h2⟩
 refine ⟨?_, fun i x hx => ?_⟩
 ·unfold MLs
  rw [flat_snoc, List.length_append, hk]
  exact hown
 ·rw [List.getElem?_append] at hx
  split at hx
  ·obtain ⟨B', cp', e, a1, a2, a3⟩ := h.2 i x hx
   exact ⟨B', cp', e, a1, a2, keep _ _ a3⟩
  ·rename_i hi
   have : i = l.length := by
    rcases Nat.lt_or_ge (i - l.length) 1 with h1 | h1
    ·omega
    ·rw [List.getElem?_eq_none (by simpa using h1)] at hx; cases hx
   subst this
   rw [Nat.sub_self] at hx
   cases hx
   rw [hk]
   exact ⟨B, cp, rfl, hcp, hB, keep _ _ ho⟩
end
end Go.Proofs.YtjobgjcfkomhpaaGreat
namespace Go.Proofs.YtjobgjcfkomhpaaGreat
open Go.RowKit Go.Proofs.Wd
set_option maxRecDepth 10000
theorem run_append_keepM (w : World) (ty : TypeId) (base n : Nat) (v : Value) (xs : List Value) (hown : w.ownsRow base 38 3 v n xs) (a : Addr) (m c : Nat) (news : List Value) (hl : news.length = m * 3) (hnews : ∀ j u, news[j]? = some u → w.cell? (a.add j) = some u) (h1 : ∀ u ∈ news, u.oneCell' = true)
  (hm : 1 ≤ m ∧ m ≤ 1000000) (hn : n ≤ 1000000) (hb : base ≤ w.heap.size) :
  ∃ v' w', (Builtin.append_ #[73, 73] ty #[v, .slice (some a) m c]).run Tryz.prog w = .ok v' w' ∧ w'.ownsRow base 38 3 v' (n + m) (xs ++ news) ∧ w.grownBy w' v.ownBlock ∧ (∀ g, v.ownBlock = some g → ∀ j u, xs[j]? = some u → w'.cell? ⟨g, j, none⟩ = some u) := by
 obtain ⟨i0, hi, hz0, hz1, hz2⟩ := info_parts Tryz.infoMat
 have h63 : n + m ≤ maxLen := by unfold maxLen; omega
 have hby : (n + m) * 40 ≤ 140737488355328 := by omega
 obtain ⟨v', w', hr, r1, r2, _⟩ := run_append_own (P := Tryz.prog) w base 73 ty 38 i0 (.agg #[.int .i64 0, .int .i64 0, .slice none 0 0]) 3 40 Tryz.underlying73 hi hz0 hz1 hz2 rfl (by decide) v n xs hown a m c news hl hnews h1 h63 hby hb
 refine ⟨v', w', hr, r1, r2, ?_⟩
 rcases hown.2 with ⟨rfl, rfl⟩ | ⟨g, cap, cur, rfl, hbg, hg, hnc, hcm, hcs, htake⟩
 ·intro g e
  cases e
 ·have holds : ∀ j u, xs[j]? = some u → w.cell? ((⟨g, 0, none⟩ : Addr).add j) = some u := hown.cells (g := g) rfl
  intro g' e j u hj
  cases e
  by_cases hroom : n + m ≤ cap
  ·have hfit : n * i0.size + news.length ≤ cur.size := by rw [hl, hcs, hz1, ← Nat.add_mul]; exact Nat.mul_le_mul_right _ hroom
   have hr2 := run_append_room (P := Tryz.prog) w 73 ty 38 i0 Tryz.underlying73 hi g n cap cur hg a m c news (by rw [hz1]; exact hl) hnews h1 hroom hfit
   rw [hr] at hr2
   cases hr2
   have := r1.cells (g := g) rfl j u (by rw [List.getElem?_append_left (List.getElem?_eq_some_iff.1 hj).1]; exact hj)
   rwa [Go.WideShapes.add_plain, Nat.zero_add] at this
  ·have hr2 := run_append_grow (P := Tryz.prog) w 73 ty 38 i0 (.agg #[.int .i64 0, .int .i64 0, .slice none 0 0]) Tryz.underlying73 hi hz0 ⟨g, 0, none⟩ n cap xs (by rw [hz1]; exact hown.1) holds a m c news (by rw [hz1]; exact hl) hnews (by omega) (by omega) (growslice_fits (by omega) (by rw [hz2]; exact hby))
   rw [hr] at hr2
   cases hr2
   have h0 := holds j u hj
   rw [Go.WideShapes.add_plain, Nat.zero_add] at h0
   exact gat (((Grown.refl w).drew).alloc _ _) h0
theorem wp_append_keepM {o : Oper} {a : Act} {w : World} {K : Act → World → Prop} {Q : Exit → Act → World → Prop} (s x : Operand) (ho : o.op = .call { callee := .builtin .append, args := #[s, x], argTypes := #[73, 73] })
  (base : Nat) (v : Value) (n : Nat) (xs : List Value) (hs : a.eval s = v) (hown : w.ownsRow base 38 3 v n xs)
  (ad : Addr) (m c : Nat) (news : List Value) (hx : a.eval x = .slice (some ad) m c) (hl : news.length = m * 3) (hnews : ∀ j u, news[j]? = some u → w.cell? (ad.add j) = some u) (h1 : ∀ u ∈ news, u.oneCell' = true)
  (hm : 1 ≤ m ∧ m ≤ 1000000) (hn : n ≤ 1000000) (hb : base ≤ w.heap.size)
  (h : ∀ v' w', w'.ownsRow base 38 3 v' (n + m) (xs ++ news) → w.grownBy w' v.ownBlock → (∀ g, v.ownBlock = some g → ∀ j u, xs[j]? = some u → w'.cell? ⟨g, j, none⟩ = some u) → K (a.put o.dst v') w') : Oper.wp Tryz.prog o a w K Q := by
 obtain ⟨v', w', hr, h2, h3, h4⟩ := run_append_keepM w o.type base n v xs hown ad m c news hl hnews h1 hm hn hb
 unfold Oper.wp execOp
 simp only [ho, resolve, invoke, builtin, Sem.run_bind, Sem.run_pure, Result.andThen_ok, List.map_toArray, List.map_cons, List.map_nil, hs, hx, hr]
 exact h v' w' h2 h3 h4
end Go.Proofs.YtjobgjcfkomhpaaGreat
namespace Go.Proofs.YtjobgjcfkomhpaaGreat
open Go.RowKit Go.Shelf Go.Proofs.Wd
set_option maxRecDepth 10000
def UpC (U n nn mb fb ub ab Ba ca : Nat) (T : TypeId) (cs : Array Value) (qa : Option Addr) (A Q : Nat → Int) (W : World) : Prop :=
 Blk mb cs 25 W ∧ Blk fb #[.func (.func 90) #[] #[.pointer (some ⟨mb, 0, none⟩), .pointer (some ⟨fb, 0, none⟩), .pointer (some ⟨ub, 0, none⟩), .pointer (some ⟨ab, 0, none⟩)]] T W ∧ Blk ub #[.pointer (some ⟨U, 0, none⟩)] 26 W ∧ Blk ab #[.int .i64 n, .int .i64 n, .slice (some ⟨Ba, 0, none⟩) nn ca] 38 W ∧ Own Ba nn A W ∧ Row W qa n Q ∧ (mb ≠ U ∧ fb ≠ U ∧ ub ≠ U ∧ ab ≠ U ∧ Ba ≠ U ∧ Off U n qa)
theorem UpC.mk {U n nn mb fb ub ab Ba ca : Nat} {T : TypeId} {cs : Array Value} {qa : Option Addr} {A Q : Nat → Int} {W W' : World} (h : UpC U n nn mb fb ub ab Ba ca T cs qa A Q W) (m : Mk U W W') : UpC U n nn mb fb ub ab Ba ca T cs qa A Q W' := by
 obtain ⟨h1, h2, h3, h4, h5, h6, n1, n2, n3, n4, n5, n6⟩ := h
 exact ⟨Blk.mk h1 m n1, Blk.mk h2 m n2, Blk.mk h3 m n3, Blk.mk h4 m n4, h5.mk m n5, h6.mk m n6, n1, n2, n3, n4, n5, n6⟩
def UpP (U n nn : Nat) (c0 : Bool) (n0 : Int) (T : Nat → Nat → Int) (C : Nat → Bool) (k : Nat) (w : World) (e : Ending) (w' : World) : Prop :=
 ∃ (v : Value) (l : List MV), e = .returned v ∧ l.length = k + 1 ∧ GTl w.heap.size n nn T v l w' ∧ UW U (c0 || C k) n0 ((k : Int) * 1000) w' ∧ Mk U w w'
theorem gtl_one {w : World} {base n nn b B cp : Nat} {T : Nat → Nat → Int} (h : Blk b (GTx n nn T 0 B cp).cells 38 w) (hb : base ≤ b) (hB : base ≤ B) (hc : nn ≤ cp) (ho : Own B nn (T 0) w) : GTl base n nn T (.slice (some ⟨b, 0, none⟩) 1 1) [GTx n nn T 0 B cp] w :=
 ⟨mls_one _ h hb, fun i x hx => by
  cases i with
  | zero =>
   cases hx
   exact ⟨B, cp, rfl, hc, hB, ho⟩
  | succ i => cases hx⟩
set_option maxRecDepth 50000 in
set_option maxHeartbeats 8000000 in
theorem upTo_zero (U n nn mb fb ub ab Ba ca : Nat) (T : TypeId) (aa qa ro : Option Addr) (ac qc rl rc : Nat) (tick gate rmin : Int) (A Q : Nat → Int) (c0 : Bool) (n0 : Int) (hn : 1 ≤ n ∧ n ≤ 6) (hnn : n * n = nn) (w : World) (h : UC U c0 n0 w) (hC : UpC U n nn mb fb ub ab Ba ca T #[.int .i64 n, .slice aa nn ac, .slice qa n qc, .int .i64 tick, .int .i64 gate, .int .i64 rmin, .slice ro rl rc] qa A Q w) :
  Calls Tryz.prog 90 (#[.int .i64 ((1 : Nat) : Int)] ++ #[.pointer (some ⟨mb, 0, none⟩), .pointer (some ⟨fb, 0, none⟩), .pointer (some ⟨ub, 0, none⟩), .pointer (some ⟨ab, 0, none⟩)]) w fun e w' => UpP U n nn c0 n0 (gainZ A Q n) (gainC A Q n) 0 w e w' := by
 have DG := matDiag_ok n qc qa Q ⟨hn.1, by omega⟩ w hC.2.2.2.2.2.1
 rw [hnn] at DG
 have HD := hide DG
 have HH := hide (And.intro h hC)
 have n1 : Hid (1 ≤ nn) := by
  have := Nat.mul_le_mul hn.1 hn.1
  rw [hnn] at this
  exact this
 have y2 : w.cell? ⟨mb, 2, none⟩ = some (.slice qa n qc) := Blk.cell hC.1 2
 have lU : Hid (U < w.heap.size) := Blk.lt h
 show Calls Tryz.prog 90 #[.int .i64 1, .pointer (some ⟨mb, 0, none⟩), .pointer (some ⟨fb, 0, none⟩), .pointer (some ⟨ub, 0, none⟩), .pointer (some ⟨ab, 0, none⟩)] w _
 clear DG h hC hn hnn
 go_enter Tryz.func90, Tryz.ntmps90
 go_wp2_with fail
 refine (unhide HD).mono ?_
 rintro e w2 ⟨_, cp, B, rfl, hB, hb, hcp, k2⟩
 obtain ⟨rfl, hbn⟩ := hb.resolve_left (Nat.ne_of_gt (unhide n1))
 have g1 : Grown w2 (w2.alloc (.cells #[.int .i64 n, .int .i64 n, .slice (some ⟨B, 0, none⟩) nn cp] 38)) := (Grown.refl _).alloc _ _
 have b1 : Blk w2.heap.size #[.int .i64 n, .int .i64 n, .slice (some ⟨B, 0, none⟩) nn cp] 38 (w2.alloc (.cells #[.int .i64 n, .int .i64 n, .slice (some ⟨B, 0, none⟩) nn cp] 38)) := Blk.new _ _ _
 have x0 : (w2.alloc (.cells #[.int .i64 n, .int .i64 n, .slice (some ⟨B, 0, none⟩) nn cp] 38)).cell? ⟨w2.heap.size, 0, none⟩ = some (.int .i64 n) := Blk.cell b1 0
 have x1 : (w2.alloc (.cells #[.int .i64 n, .int .i64 n, .slice (some ⟨B, 0, none⟩) nn cp] 38)).cell? ⟨w2.heap.size, 1, none⟩ = some (.int .i64 n) := Blk.cell b1 1
 have x2 : (w2.alloc (.cells #[.int .i64 n, .int .i64 n, .slice (some ⟨B, 0, none⟩) nn cp] 38)).cell? ⟨w2.heap.size, 2, none⟩ = some (.slice (some ⟨B, 0, none⟩) nn cp) := Blk.cell b1 2
 have g2 : Grown w2 ((w2.alloc (.cells #[.int .i64 n, .int .i64 n, .slice (some ⟨B, 0, none⟩) nn cp] 38)).alloc (.cells #[.int .i64 n, .int .i64 n, .slice (some ⟨B, 0, none⟩) nn cp] 38)) := g1.alloc _ _
 have b2 : Blk (w2.heap.size + 1) (GTx n nn (gainZ A Q n) 0 B cp).cells 38 ((w2.alloc (.cells #[.int .i64 n, .int .i64 n, .slice (some ⟨B, 0, none⟩) nn cp] 38)).alloc (.cells #[.int .i64 n, .int .i64 n, .slice (some ⟨B, 0, none⟩) nn cp] 38)) := by
  have := Blk.new (w2.alloc (.cells #[.int .i64 n, .int .i64 n, .slice (some ⟨B, 0, none⟩) nn cp] 38)) #[.int .i64 n, .int .i64 n, .slice (some ⟨B, 0, none⟩) nn cp] 38
  rw [World.size_alloc] at this
  exact this
 have R := hide (And.intro hB (And.intro hbn (And.intro hcp (And.intro k2 (And.intro g2 b2)))))
 clear hB hb hbn hcp k2 g1 b1 g2 b2 HD y2
 go_wp2
 go_ret
 obtain ⟨hB, hbn, hcp, k2, g2, b2⟩ := unhide R
 obtain ⟨hu, hC⟩ := unhide HH
 have s2 := k2.2.2.2
 refine ⟨_, _, rfl, rfl, gtl_one b2 (by omega) hB hcp (Own.of (Blk.grown hbn g2)), ⟨n0, by omega, by omega, ?_⟩, (Mk.kp k2).grown g2⟩
 show UC U (c0 || false) _ _
 rw [Bool.or_false]
 exact Blk.grown (Blk.kp hu k2) g2
set_option maxRecDepth 50000 in
set_option maxHeartbeats 16000000 in
theorem upTo_succ (U n nn mb fb ub ab Ba ca : Nat) (T : TypeId) (aa qa ro : Option Addr) (ac qc rl rc : Nat) (tick gate rmin : Int) (A Q : Nat → Int) (c0 : Bool) (n0 : Int) (hn0 : 0 ≤ n0 ∧ n0 < 100000000000000000) (hn : 1 ≤ n ∧ n ≤ 6) (hnn : n * n = nn) (hca : nn ≤ ca) (hA : ∀ j, j < nn → I64 (A j)) (hQ : ∀ i, i < n → I64 (Q i)) (k : Nat) (hk : k ≤ 22) (w : World) (h : UC U c0 n0 w) (hC : UpC U n nn mb fb ub ab Ba ca T #[.int .i64 n, .slice aa nn ac, .slice qa n qc, .int .i64 tick, .int .i64 gate, .int .i64 rmin, .slice ro rl rc] qa A Q w)
  (IH : Calls Tryz.prog 90 (#[.int .i64 ((k + 1 : Nat) : Int)] ++ #[.pointer (some ⟨mb, 0, none⟩), .pointer (some ⟨fb, 0, none⟩), .pointer (some ⟨ub, 0, none⟩), .pointer (some ⟨ab, 0, none⟩)]) w fun e w' => UpP U n nn c0 n0 (gainZ A Q n) (gainC A Q n) k w e w') :
  Calls Tryz.prog 90 (#[.int .i64 ((k + 2 : Nat) : Int)] ++ #[.pointer (some ⟨mb, 0, none⟩), .pointer (some ⟨fb, 0, none⟩), .pointer (some ⟨ub, 0, none⟩), .pointer (some ⟨ab, 0, none⟩)]) w fun e w' => UpP U n nn c0 n0 (gainZ A Q n) (gainC A Q n) (k + 1) w e w' := by
 obtain ⟨K1, hK1⟩ : ∃ K1, k + 1 = K1 := ⟨_, rfl⟩
 obtain ⟨K, hK⟩ : ∃ K, k + 2 = K := ⟨_, rfl⟩
 rw [hK1] at IH
 rw [hK]
 have IHH : Hid (Calls Tryz.prog 90 #[.int .i64 (K1 : Int), .pointer (some ⟨mb, 0, none⟩), .pointer (some ⟨fb, 0, none⟩), .pointer (some ⟨ub, 0, none⟩), .pointer (some ⟨ab, 0, none⟩)] w fun e w' => UpP U n nn c0 n0 (gainZ A Q n) (gainC A Q n) k w e w') := IH
 have wn1 : wrap64 ((K : Int) - 1) = (K1 : Int) := by unfold wrap64; omega
 have wn2 : wrap64 ((K : Int) - 2) = (k : Int) := by unfold wrap64; omega
 have wn3 : IntKind.i64.wrap ((K : Int) - 2) = (k : Int) := by
  rw [IntKind.wrap_i64]
  omega
 have kk : k < K1 := by omega
 have b1 : ((K : Int) == 1) = false := beq_eq_false_iff_ne.2 (by omega)
 have HK : Hid (K = k + 2 ∧ K1 = k + 1 ∧ k ≤ 22) := ⟨hK.symm, hK1.symm, hk⟩
 have HH := hide (And.intro h hC)
 have lU : Hid (U < w.heap.size ∧ 0 ≤ n0 ∧ n0 < 100000000000000000) := ⟨Blk.lt h, hn0⟩
 have HN : Hid ((1 ≤ n ∧ n ≤ 6) ∧ n * n = nn ∧ nn ≤ ca) := ⟨hn, hnn, hca⟩
 have HA := hide hA
 have HI : Hid (∀ i p, p < nn → I64 (gainZ A Q n i p)) := fun i p hp => gainZ_I64 A Q n hQ i p (by rw [hnn]; exact hp)
 have y0 : w.cell? ⟨fb, 0, none⟩ = some (.func (.func 90) #[] #[.pointer (some ⟨mb, 0, none⟩), .pointer (some ⟨fb, 0, none⟩), .pointer (some ⟨ub, 0, none⟩), .pointer (some ⟨ab, 0, none⟩)]) := Blk.cell hC.2.1 0
 show Calls Tryz.prog 90 #[.int .i64 (K : Int), .pointer (some ⟨mb, 0, none⟩), .pointer (some ⟨fb, 0, none⟩), .pointer (some ⟨ub, 0, none⟩), .pointer (some ⟨ab, 0, none⟩)] w _
 clear IH h hC hn hnn hca hA hQ hK hK1 hk hn0
 go_enter Tryz.func90, Tryz.ntmps90
 go_wp2_with fail
 refine (unhide IHH).mono ?_
 rintro e w2 ⟨v, l, rfl, hl, hD, ⟨cnt, q1, q2, hu⟩, hm⟩
 rw [← (unhide HK).2.1] at hl
 obtain ⟨g, cg, rfl, hcg, hgb, hcells⟩ := hD.1.openL hl (by omega)
 have hkl : k < l.length := by omega
 obtain ⟨By, cy, hx, hcy, hBy, hoy⟩ := hD.2 k _ (List.getElem?_eq_getElem hkl)
 obtain ⟨p0, p1, p2⟩ := hcells k _ (List.getElem?_eq_getElem hkl)
 rw [hx] at p0 p1 p2
 have HX : Hid (l[k]? = some (GTx n nn (gainZ A Q n) k By cy)) := by rw [← hx]; exact List.getElem?_eq_getElem hkl
 have p0 : w2.cell? ⟨g, k * 3, none⟩ = some (.int .i64 n) := p0
 have p1 : w2.cell? ⟨g, k * 3 + 1, none⟩ = some (.int .i64 n) := p1
 have p2 : w2.cell? ⟨g, k * 3 + 2, none⟩ = some (.slice (some ⟨By, 0, none⟩) nn cy) := p2
 have hC2 := (unhide HH).2.mk hm
 have u0 : w2.cell? ⟨ub, 0, none⟩ = some (.pointer (some ⟨U, 0, none⟩)) := Blk.cell hC2.2.2.1 0
 have a0 : w2.cell? ⟨ab, 0, none⟩ = some (.int .i64 n) := Blk.cell hC2.2.2.2.1 0
 have a1 : w2.cell? ⟨ab, 1, none⟩ = some (.int .i64 n) := Blk.cell hC2.2.2.2.1 1
 have a2 : w2.cell? ⟨ab, 2, none⟩ = some (.slice (some ⟨Ba, 0, none⟩) nn ca) := Blk.cell hC2.2.2.2.1 2
 have lw := unhide lU
 have hk2 := unhide HK
 have hsz := hm.2.2.2
 have g2d : Kp w2 w2.drew := Kp.of ((Grown.refl _).drew)
 have NX := hide (moNext U n nn Ba 0 ca By 0 cy K (c0 || gainC A Q n k) cnt ⟨by omega, by omega⟩ A (gainZ A Q n k) (unhide HN).1 (unhide HN).2.1 (by omega) (unhide HN).2.2 (unhide HA) (fun p hp => unhide HI k p hp) w2.drew hu (fun j hj => by rw [Nat.zero_add]; exact hC2.2.2.2.2.1.cellAt j hj) (fun j hj => by rw [Nat.zero_add]; exact hoy.cellAt j hj) hC2.2.2.2.2.2.2.2.2.2.2.1 (by omega))
 have S2 : Hid (GTl w.heap.size n nn (gainZ A Q n) (.slice (some ⟨g, 0, none⟩) K1 cg) l w2.drew ∧ Mk U w w2.drew ∧ l.length = K1 ∧ UpC U n nn mb fb ub ab Ba ca T #[.int .i64 n, .slice aa nn ac, .slice qa n qc, .int .i64 tick, .int .i64 gate, .int .i64 rmin, .slice ro rl rc] qa A Q w2.drew ∧ n0 ≤ cnt ∧ cnt ≤ n0 + (k : Int) * 1000 ∧ w.heap.size ≤ g) := ⟨hD.kp g2d, hm.trans (Mk.kp g2d), hl, hC2.mk (Mk.kp g2d), q1, q2, hgb⟩
 have hHeld0 : w2.drew.cell? ⟨ub, 0, none⟩ = some (.pointer (some ⟨U, 0, none⟩)) ∧ w2.drew.cell? ⟨ab, 0, none⟩ = some (.int .i64 n) ∧ w2.drew.cell? ⟨ab, 1, none⟩ = some (.int .i64 n) ∧ w2.drew.cell? ⟨ab, 2, none⟩ = some (.slice (some ⟨Ba, 0, none⟩) nn ca) ∧ w2.drew.cell? ⟨g, k * 3, none⟩ = some (.int .i64 n) ∧ w2.drew.cell? ⟨g, k * 3 + 1, none⟩ = some (.int .i64 n) ∧ w2.drew.cell? ⟨g, k * 3 + 2, none⟩ = some (.slice (some ⟨By, 0, none⟩) nn cy) := ⟨u0, a0, a1, a2, p0, p1, p2⟩
 clear hl hD q1 q2 hu hm hcg hgb hcells hkl hx hcy hBy hoy p0 p1 p2 hC2 u0 a0 a1 a2 lw hk2 hsz g2d IHH y0
 go_wp2_with fail
 refine region_G (fun w' => w'.cell? ⟨ub, 0, none⟩ = some (.pointer (some ⟨U, 0, none⟩)) ∧ w'.cell? ⟨ab, 0, none⟩ = some (.int .i64 n) ∧ w'.cell? ⟨ab, 1, none⟩ = some (.int .i64 n) ∧ w'.cell? ⟨ab, 2, none⟩ = some (.slice (some ⟨Ba, 0, none⟩) nn ca) ∧ w'.cell? ⟨g, k * 3, none⟩ = some (.int .i64 n) ∧ w'.cell? ⟨g, k * 3 + 1, none⟩ = some (.int .i64 n) ∧ w'.cell? ⟨g, k * 3 + 2, none⟩ = some (.slice (some ⟨By, 0, none⟩) nn cy)) 12 (by kernel_rfl) hHeld0 (fun hHeld => ?_)
 clear hHeld0
 refine take_G (i := 0) (d := 24) (v := .slice (some ⟨g, 0, none⟩) K1 cg) rfl rfl (by kernel_rfl) (by kernel_rfl) (by kernel_rfl) (by kernel_rfl) (by kernel_rfl) (Or.inl ⟨by rfl, ?_⟩) hHeld ?_
 ·intro wS hSw
  obtain ⟨z0, z1, z2, z3, z4, z5, z6⟩ := hSw
  clear hHeld
  go_simp
 (try simp only [Act.put, List.setIfInBounds_toArray, List.set_cons_zero, List.set_cons_succ])
 refine take_G (i := 1) (d := 25) (v := .pointer (some ⟨U, 0, none⟩)) rfl rfl (by kernel_rfl) (by kernel_rfl) (by kernel_rfl) (by kernel_rfl) (by kernel_rfl) (Or.inl ⟨by rfl, ?_⟩) hHeld ?_
 ·intro wS hSw
  obtain ⟨z0, z1, z2, z3, z4, z5, z6⟩ := hSw
  clear hHeld
  go_simp
 (try simp only [Act.put, List.setIfInBounds_toArray, List.set_cons_zero, List.set_cons_succ])
 refine take_G (i := 2) (d := 26) (v := .agg #[.int .i64 n, .int .i64 n, .slice (some ⟨Ba, 0, none⟩) nn ca]) rfl rfl (by kernel_rfl) (by kernel_rfl) (by kernel_rfl) (by kernel_rfl) (by kernel_rfl) (Or.inl ⟨by rfl, ?_⟩) hHeld ?_
 ·intro wS hSw
  obtain ⟨z0, z1, z2, z3, z4, z5, z6⟩ := hSw
  clear hHeld
  go_simp
 (try simp only [Act.put, List.setIfInBounds_toArray, List.set_cons_zero, List.set_cons_succ])
 refine take_G (i := 3) (d := 27) (v := .slice (some ⟨g, 0, none⟩) K1 cg) rfl rfl (by kernel_rfl) (by kernel_rfl) (by kernel_rfl) (by kernel_rfl) (by kernel_rfl) (Or.inl ⟨by rfl, ?_⟩) hHeld ?_
 ·intro wS hSw
  obtain ⟨z0, z1, z2, z3, z4, z5, z6⟩ := hSw
  clear hHeld
  go_simp
 (try simp only [Act.put, List.setIfInBounds_toArray, List.set_cons_zero, List.set_cons_succ])
 refine take_G (i := 4) (d := 28) (v := .int .i64 (K : Int)) rfl rfl (by kernel_rfl) (by kernel_rfl) (by kernel_rfl) (by kernel_rfl) (by kernel_rfl) (Or.inl ⟨by rfl, ?_⟩) hHeld ?_
 ·intro wS hSw
  obtain ⟨z0, z1, z2, z3, z4, z5, z6⟩ := hSw
  clear hHeld
  go_simp
 (try simp only [Act.put, List.setIfInBounds_toArray, List.set_cons_zero, List.set_cons_succ])
 refine take_G (i := 5) (d := 29) (v := .int .i64 (k : Int)) rfl rfl (by kernel_rfl) (by kernel_rfl) (by kernel_rfl) (by kernel_rfl) (by kernel_rfl) (Or.inl ⟨by rfl, ?_⟩) hHeld ?_
 ·intro wS hSw
  obtain ⟨z0, z1, z2, z3, z4, z5, z6⟩ := hSw
  clear hHeld
  go_simp
 (try simp only [Act.put, List.setIfInBounds_toArray, List.set_cons_zero, List.set_cons_succ])
 refine take_G (i := 6) (d := 30) (v := .pointer (some ⟨g, k * 3, none⟩)) rfl rfl (by kernel_rfl) (by kernel_rfl) (by kernel_rfl) (by kernel_rfl) (by kernel_rfl) (Or.inl ⟨by rfl, ?_⟩) hHeld ?_
 ·intro wS hSw
  obtain ⟨z0, z1, z2, z3, z4, z5, z6⟩ := hSw
  clear hHeld
  go_simp
 (try simp only [Act.put, List.setIfInBounds_toArray, List.set_cons_zero, List.set_cons_succ])
 refine take_G (i := 7) (d := 31) (v := .agg #[.int .i64 n, .int .i64 n, .slice (some ⟨By, 0, none⟩) nn cy]) rfl rfl (by kernel_rfl) (by kernel_rfl) (by kernel_rfl) (by kernel_rfl) (by kernel_rfl) (Or.inl ⟨by rfl, ?_⟩) hHeld ?_
 ·intro wS hSw
  obtain ⟨z0, z1, z2, z3, z4, z5, z6⟩ := hSw
  clear hHeld
  go_simp
 (try simp only [Act.put, List.setIfInBounds_toArray, List.set_cons_zero, List.set_cons_succ])
 refine take_G (i := 8) (d := 32) (v := .int .i64 (K : Int)) rfl rfl (by kernel_rfl) (by kernel_rfl) (by kernel_rfl) (by kernel_rfl) (by kernel_rfl) (Or.inl ⟨by rfl, ?_⟩) hHeld ?_
 ·intro wS hSw
  obtain ⟨z0, z1, z2, z3, z4, z5, z6⟩ := hSw
  clear hHeld
  go_simp
 (try simp only [Act.put, List.setIfInBounds_toArray, List.set_cons_zero, List.set_cons_succ])
 refine step_G (i := 9) (by kernel_rfl) (fun K' hK' => ?_)
 refine wpOp_of rfl rfl ?_
 unfold Oper.wp
 go_simp
 refine (unhide NX).mono ?_
 rintro e w3 ⟨B, cp, rfl, hcp, hB, hown, ⟨cnt3, q1, q2, hu⟩, hm⟩
 have lw := unhide lU
 have hgw := (unhide S2).2.2.2.2.2.2
 have kc : ∀ o v, w2.drew.cell? ⟨g, o, none⟩ = some v → w3.cell? ⟨g, o, none⟩ = some v := fun o v hv => hm.cell hv (by omega)
 have hC3 := (unhide S2).2.2.2.1.mk hm
 have hHeld3 : w3.cell? ⟨ub, 0, none⟩ = some (.pointer (some ⟨U, 0, none⟩)) ∧ w3.cell? ⟨ab, 0, none⟩ = some (.int .i64 n) ∧ w3.cell? ⟨ab, 1, none⟩ = some (.int .i64 n) ∧ w3.cell? ⟨ab, 2, none⟩ = some (.slice (some ⟨Ba, 0, none⟩) nn ca) ∧ w3.cell? ⟨g, k * 3, none⟩ = some (.int .i64 n) ∧ w3.cell? ⟨g, k * 3 + 1, none⟩ = some (.int .i64 n) ∧ w3.cell? ⟨g, k * 3 + 2, none⟩ = some (.slice (some ⟨By, 0, none⟩) nn cy) := ⟨Blk.cell hC3.2.2.1 0, Blk.cell hC3.2.2.2.1 0, Blk.cell hC3.2.2.2.1 1, Blk.cell hC3.2.2.2.1 2, kc _ _ hHeld.2.2.2.2.1, kc _ _ hHeld.2.2.2.2.2.1, kc _ _ hHeld.2.2.2.2.2.2⟩
 have S3 : Hid (GTl w.heap.size n nn (gainZ A Q n) (.slice (some ⟨g, 0, none⟩) K1 cg) l w3 ∧ Mk U w w3 ∧ l.length = K1 ∧ UpC U n nn mb fb ub ab Ba ca T #[.int .i64 n, .slice aa nn ac, .slice qa n qc, .int .i64 tick, .int .i64 gate, .int .i64 rmin, .slice ro rl rc] qa A Q w3 ∧ (nn ≤ cp ∧ w.heap.size ≤ B ∧ Own B nn (gainZ A Q n K1) w3) ∧ n0 ≤ cnt3 ∧ cnt3 ≤ n0 + (K1 : Int) * 1000 ∧ UC U (c0 || gainC A Q n K1) cnt3 w3 ∧ w.heap.size ≤ g) := by
  obtain ⟨s1, s2, s3, s4, s5, s6, s7⟩ := unhide S2
  obtain ⟨e1, e2, e3⟩ := unhide HK
  have sz := s2.2.2.2
  refine ⟨s1.mk hm (by omega), s2.trans hm, s3, hC3, ⟨hcp, by omega, ?_⟩, by omega, ?_, ?_, s7⟩
  ·rw [e2]
   rw [e1] at hown
   exact hown
  ·rw [e2, Int.natCast_add, Int.add_mul]
   omega
  ·rw [e2]
   show UC U (c0 || (gainC A Q n k || orC (mulG A (gainZ A Q n k) n n) (n * n) || orC (evG (mulZ A (gainZ A Q n k) n n) n) (n * n) || orC (dvG (evZ (mulZ A (gainZ A Q n k) n n) n) (k + 2)) (n * n))) _ _
   rw [(unhide HN).2.1, ← e1, ← Bool.or_assoc, ← Bool.or_assoc, ← Bool.or_assoc]
   exact hu
 refine hK' _ _ (fun _ => hHeld3) ?_
 clear hK' K' hcp hB hown q1 q2 hu hm hC3 kc lw hgw hHeld S2 NX
 (try simp only [Act.put, List.setIfInBounds_toArray, List.set_cons_zero, List.set_cons_succ])
 refine step_G (i := 10) (by kernel_rfl) (fun K' hK' => ?_)
 refine wpOp_of rfl rfl ?_
 unfold Oper.wp
 go_simp
 have g4 : Grown w3 (w3.alloc (.cells #[.int .i64 n, .int .i64 n, .slice (some ⟨B, 0, none⟩) nn cp] 38)) := (Grown.refl _).alloc _ _
 have b4 : Blk w3.heap.size (GTx n nn (gainZ A Q n) K1 B cp).cells 38 (w3.alloc (.cells #[.int .i64 n, .int .i64 n, .slice (some ⟨B, 0, none⟩) nn cp] 38)) := Blk.new _ _ _
 have S4 : Hid (GTl w.heap.size n nn (gainZ A Q n) (.slice (some ⟨g, 0, none⟩) K1 cg) l (w3.alloc (.cells #[.int .i64 n, .int .i64 n, .slice (some ⟨B, 0, none⟩) nn cp] 38)) ∧ Mk U w (w3.alloc (.cells #[.int .i64 n, .int .i64 n, .slice (some ⟨B, 0, none⟩) nn cp] 38)) ∧ l.length = K1 ∧ UpC U n nn mb fb ub ab Ba ca T #[.int .i64 n, .slice aa nn ac, .slice qa n qc, .int .i64 tick, .int .i64 gate, .int .i64 rmin, .slice ro rl rc] qa A Q (w3.alloc (.cells #[.int .i64 n, .int .i64 n, .slice (some ⟨B, 0, none⟩) nn cp] 38)) ∧ (nn ≤ cp ∧ w.heap.size ≤ B ∧ Own B nn (gainZ A Q n K1) (w3.alloc (.cells #[.int .i64 n, .int .i64 n, .slice (some ⟨B, 0, none⟩) nn cp] 38))) ∧ n0 ≤ cnt3 ∧ cnt3 ≤ n0 + (K1 : Int) * 1000 ∧ UC U (c0 || gainC A Q n K1) cnt3 (w3.alloc (.cells #[.int .i64 n, .int .i64 n, .slice (some ⟨B, 0, none⟩) nn cp] 38)) ∧ w.heap.size ≤ g) := by
  obtain ⟨s1, s2, s3, s4, ⟨s5, s6, s7⟩, s8, s9, s10, s11⟩ := unhide S3
  exact ⟨s1.kp (Kp.of g4), s2.grown g4, s3, s4.mk (Mk.kp (Kp.of g4)), ⟨s5, s6, s7.kp (Kp.of g4)⟩, s8, s9, Blk.grown s10 g4, s11⟩
 have hHeld4 : (w3.alloc (.cells #[.int .i64 n, .int .i64 n, .slice (some ⟨B, 0, none⟩) nn cp] 38)).cell? ⟨ub, 0, none⟩ = some (.pointer (some ⟨U, 0, none⟩)) ∧ (w3.alloc (.cells #[.int .i64 n, .int .i64 n, .slice (some ⟨B, 0, none⟩) nn cp] 38)).cell? ⟨ab, 0, none⟩ = some (.int .i64 n) ∧ (w3.alloc (.cells #[.int .i64 n, .int .i64 n, .slice (some ⟨B, 0, none⟩) nn cp] 38)).cell? ⟨ab, 1, none⟩ = some (.int .i64 n) ∧ (w3.alloc (.cells #[.int .i64 n, .int .i64 n, .slice (some ⟨B, 0, none⟩) nn cp] 38)).cell? ⟨ab, 2, none⟩ = some (.slice (some ⟨Ba, 0, none⟩) nn ca) ∧ (w3.alloc (.cells #[.int .i64 n, .int .i64 n, .slice (some ⟨B, 0, none⟩) nn cp] 38)).cell? ⟨g, k * 3, none⟩ = some (.int .i64 n) ∧ (w3.alloc (.cells #[.int .i64 n, .int .i64 n, .slice (some ⟨B, 0, none⟩) nn cp] 38)).cell? ⟨g, k * 3 + 1, none⟩ = some (.int .i64 n) ∧ (w3.alloc (.cells #[.int .i64 n, .int .i64 n, .slice (some ⟨B, 0, none⟩) nn cp] 38)).cell? ⟨g, k * 3 + 2, none⟩ = some (.slice (some ⟨By, 0, none⟩) nn cy) := ⟨gat g4 hHeld3.1, gat g4 hHeld3.2.1, gat g4 hHeld3.2.2.1, gat g4 hHeld3.2.2.2.1, gat g4 hHeld3.2.2.2.2.1, gat g4 hHeld3.2.2.2.2.2.1, gat g4 hHeld3.2.2.2.2.2.2⟩
 have N4 := hide (news_mat (x := GTx n nn (gainZ A Q n) K1 B cp) b4)
 have ls4 : Hid (w.heap.size ≤ (w3.alloc (.cells #[.int .i64 n, .int .i64 n, .slice (some ⟨B, 0, none⟩) nn cp] 38)).heap.size) := (unhide S4).2.1.2.2.2
 clear g4 b4 S3 hHeld3
 generalize (w3.alloc (.cells #[.int .i64 n, .int .i64 n, .slice (some ⟨B, 0, none⟩) nn cp] 38)) = w4 at *
 generalize w3.heap.size = Lb at *
 refine hK' _ _ (fun _ => hHeld4) ?_
 clear hK' K'
 (try simp only [Act.put, List.setIfInBounds_toArray, List.set_cons_zero, List.set_cons_succ])
 refine step_G (i := 11) (by kernel_rfl) (fun K' hK' => ?_)
 refine wpOp_of rfl rfl ?_
 have OW : Hid (w4.ownsRow w.heap.size 38 3 (.slice (some ⟨g, 0, none⟩) K1 cg) K1 (flat l)) := by
  have := (unhide S4).1.1
  unfold MLs at this
  rwa [(unhide S4).2.2.1] at this
 refine wp_append_keepM (.tmp 24) (.tmp 34) rfl w.heap.size (.slice (some ⟨g, 0, none⟩) K1 cg) K1 (flat l) (by first | rfl | simp [Act.eval, Act.put]) (unhide OW) ⟨Lb, 0, none⟩ 1 1 (GTx n nn (gainZ A Q n) K1 B cp).cells.toList (by first | rfl | simp [Act.eval, Act.put]) rfl (unhide N4) (cells_oneMV _) (by omega) (by have := unhide HK; omega) (unhide ls4) ?_
 intro v' w5 hown' hgrow hkeep
 have S5 : Hid (UpP U n nn c0 n0 (gainZ A Q n) (gainC A Q n) (k + 1) w (.returned v') w5) := by
  obtain ⟨s1, s2, s3, s4, ⟨s5, s6, s7⟩, s8, s9, s10, s11⟩ := unhide S4
  obtain ⟨e1, e2, e3⟩ := unhide HK
  have gb : ∀ i, (Value.slice (some (⟨g, 0, none⟩ : Addr)) K1 cg).ownBlock = some i → w.heap.size ≤ i := fun i e => by cases e; exact s11
  have lw := (unhide lU).1
  refine ⟨v', _, rfl, ?_, s1.app s3 s6 s5 s7 hown' hgrow, ⟨cnt3, s8, by rw [← e2]; exact s9, ?_⟩, s2.by hgrow gb⟩
  ·rw [List.length_append, s3, e2]
   rfl
  ·rw [← e2]
   exact Blk.by s10 hgrow (fun e => by have := gb _ e.symm; omega)
 have hHeld5 : w5.cell? ⟨ub, 0, none⟩ = some (.pointer (some ⟨U, 0, none⟩)) ∧ w5.cell? ⟨ab, 0, none⟩ = some (.int .i64 n) ∧ w5.cell? ⟨ab, 1, none⟩ = some (.int .i64 n) ∧ w5.cell? ⟨ab, 2, none⟩ = some (.slice (some ⟨Ba, 0, none⟩) nn ca) ∧ w5.cell? ⟨g, k * 3, none⟩ = some (.int .i64 n) ∧ w5.cell? ⟨g, k * 3 + 1, none⟩ = some (.int .i64 n) ∧ w5.cell? ⟨g, k * 3 + 2, none⟩ = some (.slice (some ⟨By, 0, none⟩) nn cy) := by
  obtain ⟨s1, s2, s3, s4, _, _, _, s10, s11⟩ := unhide S4
  obtain ⟨z0, z1, z2, z3, z4, z5, z6⟩ := hHeld4
  have nb : ∀ c cs (T' : TypeId), Blk c cs T' w4 → c ≠ g → Blk c cs T' w5 := fun c cs T' hb ne => Blk.by hb hgrow (fun e => by cases e; exact ne rfl)
  have lub := Blk.lt (unhide HH).2.2.2.1
  have lab := Blk.lt (unhide HH).2.2.2.2.1
  have b5u := nb _ _ _ s4.2.2.1 (by omega)
  have b5a := nb _ _ _ s4.2.2.2.1 (by omega)
  have fl : ∀ j, j < 3 → (flat l)[k * 3 + j]? = (GTx n nn (gainZ A Q n) k By cy).cells[j]? := fun j hj => flat_at l k j _ (unhide HX) hj
  exact ⟨Blk.cell b5u 0, Blk.cell b5a 0, Blk.cell b5a 1, Blk.cell b5a 2, hkeep g rfl (k * 3) _ (fl 0 (by omega)), hkeep g rfl (k * 3 + 1) _ (fl 1 (by omega)), hkeep g rfl (k * 3 + 2) _ (fl 2 (by omega))⟩
 refine hK' _ _ (fun _ => hHeld5) ?_
 clear hK' K' hHeld4 hHeld5 S4 OW N4 ls4 hown' hgrow hkeep
 (try simp only [Act.put, List.setIfInBounds_toArray, List.set_cons_zero, List.set_cons_succ])
 refine step_G (i := 12) (by kernel_rfl) (fun K' hK' => ?_)
 refine wpOp_of rfl rfl ?_
 unfold Oper.wp
 go_simp
 refine hK' _ _ (fun h => absurd rfl h) ?_
 clear hK' K'
 (try simp only [Act.put, List.setIfInBounds_toArray, List.set_cons_zero, List.set_cons_succ])
 refine done_G (by kernel_rfl) ?_
 refine noPanic_normalE ?_
 go_wp2
 go_ret
 exact unhide S5
theorem upTo_ok (U n nn mb fb ub ab Ba ca : Nat) (T : TypeId) (aa qa ro : Option Addr) (ac qc rl rc : Nat) (tick gate rmin : Int) (A Q : Nat → Int) (c0 : Bool) (n0 : Int) (hn0 : 0 ≤ n0 ∧ n0 < 100000000000000000) (hn : 1 ≤ n ∧ n ≤ 6) (hnn : n * n = nn) (hca : nn ≤ ca) (hA : ∀ j, j < nn → I64 (A j)) (hQ : ∀ i, i < n → I64 (Q i)) : ∀ (k : Nat), k ≤ 23 → ∀ (w : World), UC U c0 n0 w → UpC U n nn mb fb ub ab Ba ca T #[.int .i64 n, .slice aa nn ac, .slice qa n qc, .int .i64 tick, .int .i64 gate, .int .i64 rmin, .slice ro rl rc] qa A Q w →
  Calls Tryz.prog 90 (#[.int .i64 ((k + 1 : Nat) : Int)] ++ #[.pointer (some ⟨mb, 0, none⟩), .pointer (some ⟨fb, 0, none⟩), .pointer (some ⟨ub, 0, none⟩), .pointer (some ⟨ab, 0, none⟩)]) w fun e w' => UpP U n nn c0 n0 (gainZ A Q n) (gainC A Q n) k w e w'
 | 0, _, w, h, hC => upTo_zero U n nn mb fb ub ab Ba ca T aa qa ro ac qc rl rc tick gate rmin A Q c0 n0 hn hnn w h hC
 | k + 1, hk, w, h, hC => upTo_succ U n nn mb fb ub ab Ba ca T aa qa ro ac qc rl rc tick gate rmin A Q c0 n0 hn0 hn hnn hca hA hQ k (by omega) w h hC (upTo_ok U n nn mb fb ub ab Ba ca T aa qa ro ac qc rl rc tick gate rmin A Q c0 n0 hn0 hn hnn hca hA hQ k (by omega) w h hC)
set_option maxRecDepth 50000 in
set_option maxHeartbeats 8000000 in
theorem moCoef (U n nn k b o : Nat) (qa ro : Option Addr) (ac qc rl rc : Nat) (tick gate rmin : Int) (A Q : Nat → Int) (c0 : Bool) (n0 : Int) (hn0 : 0 ≤ n0 ∧ n0 < 100000000000000000) (hn : 1 ≤ n ∧ n ≤ 6) (hnn : n * n = nn) (hk : 2 * n - 2 = k) (hac : nn ≤ ac) (hA : ∀ j, j < nn → I64 (A j)) (hQ : ∀ i, i < n → I64 (Q i)) (w : World) (h : UC U c0 n0 w) (za : ∀ j, j < nn → w.cell? ⟨b, o + j, none⟩ = some (.int .i64 (A j))) (hq : Row w qa n Q) (oq : Off U n qa) :
  Calls Tryz.prog 43 #[.pointer (some ⟨U, 0, none⟩), .agg #[.int .i64 n, .slice (some ⟨b, o, none⟩) nn ac, .slice qa n qc, .int .i64 tick, .int .i64 gate, .int .i64 rmin, .slice ro rl rc]] w fun e w' => UpP U n nn c0 n0 (gainZ A Q n) (gainC A Q n) k w e w' := by
 have HN : Hid ((1 ≤ n ∧ n ≤ 6) ∧ n * n = nn ∧ nn ≤ ac ∧ 2 * n - 2 = k) := ⟨hn, hnn, hac, hk⟩
 have lU : Hid (U < w.heap.size ∧ 0 ≤ n0 ∧ n0 < 100000000000000000) := ⟨Blk.lt h, hn0⟩
 have HA := hide hA
 have HQ := hide hQ
 have OQ := hide oq
 have S0 : Hid (Grown w ((w.alloc (.cells #[.pointer (some ⟨U, 0, none⟩)] 26)).alloc (.cells #[.int .i64 n, .slice (some ⟨b, o, none⟩) nn ac, .slice qa n qc, .int .i64 tick, .int .i64 gate, .int .i64 rmin, .slice ro rl rc] 25)) ∧ Blk w.heap.size #[.pointer (some ⟨U, 0, none⟩)] 26 ((w.alloc (.cells #[.pointer (some ⟨U, 0, none⟩)] 26)).alloc (.cells #[.int .i64 n, .slice (some ⟨b, o, none⟩) nn ac, .slice qa n qc, .int .i64 tick, .int .i64 gate, .int .i64 rmin, .slice ro rl rc] 25)) ∧ Blk (w.heap.size + 1) #[.int .i64 n, .slice (some ⟨b, o, none⟩) nn ac, .slice qa n qc, .int .i64 tick, .int .i64 gate, .int .i64 rmin, .slice ro rl rc] 25 ((w.alloc (.cells #[.pointer (some ⟨U, 0, none⟩)] 26)).alloc (.cells #[.int .i64 n, .slice (some ⟨b, o, none⟩) nn ac, .slice qa n qc, .int .i64 tick, .int .i64 gate, .int .i64 rmin, .slice ro rl rc] 25))) := ⟨((Grown.refl _).alloc _ _).alloc _ _, Blk.grown (Blk.new w _ _) ((Grown.refl _).alloc _ _), blk_new2 w _ _ _⟩
 have MV : Hid (Calls Tryz.prog 39 #[.agg #[.int .i64 n, .slice (some ⟨b, o, none⟩) nn ac, .slice qa n qc, .int .i64 tick, .int .i64 gate, .int .i64 rmin, .slice ro rl rc]] ((w.alloc (.cells #[.pointer (some ⟨U, 0, none⟩)] 26)).alloc (.cells #[.int .i64 n, .slice (some ⟨b, o, none⟩) nn ac, .slice qa n qc, .int .i64 tick, .int .i64 gate, .int .i64 rmin, .slice ro rl rc] 25)) fun e w' => MovesP n nn A ((w.alloc (.cells #[.pointer (some ⟨U, 0, none⟩)] 26)).alloc (.cells #[.int .i64 n, .slice (some ⟨b, o, none⟩) nn ac, .slice qa n qc, .int .i64 tick, .int .i64 gate, .int .i64 rmin, .slice ro rl rc] 25)) e w') := moMoves_raw n nn b o ac n qc rl rc qa ro tick gate rmin A hn hnn hac ((w.alloc (.cells #[.pointer (some ⟨U, 0, none⟩)] 26)).alloc (.cells #[.int .i64 n, .slice (some ⟨b, o, none⟩) nn ac, .slice qa n qc, .int .i64 tick, .int .i64 gate, .int .i64 rmin, .slice ro rl rc] 25)) (fun i hi => gat (unhide S0).1 (za i hi))
 have HU := hide (And.intro h hq)
 obtain ⟨K1, hK1⟩ : ∃ K1, k + 1 = K1 := ⟨_, rfl⟩
 obtain ⟨n2, hn2⟩ : ∃ n2, 2 * n = n2 := ⟨_, rfl⟩
 have wm : wrap64 (2 * (n : Int)) = (n2 : Int) := by unfold wrap64; omega
 have wk : wrap64 ((n2 : Int) - 1) = (K1 : Int) := by unfold wrap64; omega
 have HK : Hid (K1 = k + 1 ∧ k ≤ 10) := ⟨hK1.symm, by omega⟩
 have m0 : (((w.alloc (.cells #[.pointer (some ⟨U, 0, none⟩)] 26)).alloc (.cells #[.int .i64 n, .slice (some ⟨b, o, none⟩) nn ac, .slice qa n qc, .int .i64 tick, .int .i64 gate, .int .i64 rmin, .slice ro rl rc] 25))).cell? ⟨w.heap.size + 1, 0, none⟩ = some (.int .i64 n) := Blk.cell (unhide S0).2.2 0
 have m1 : (((w.alloc (.cells #[.pointer (some ⟨U, 0, none⟩)] 26)).alloc (.cells #[.int .i64 n, .slice (some ⟨b, o, none⟩) nn ac, .slice qa n qc, .int .i64 tick, .int .i64 gate, .int .i64 rmin, .slice ro rl rc] 25))).cell? ⟨w.heap.size + 1, 1, none⟩ = some (.slice (some ⟨b, o, none⟩) nn ac) := Blk.cell (unhide S0).2.2 1
 have m2 : (((w.alloc (.cells #[.pointer (some ⟨U, 0, none⟩)] 26)).alloc (.cells #[.int .i64 n, .slice (some ⟨b, o, none⟩) nn ac, .slice qa n qc, .int .i64 tick, .int .i64 gate, .int .i64 rmin, .slice ro rl rc] 25))).cell? ⟨w.heap.size + 1, 2, none⟩ = some (.slice qa n qc) := Blk.cell (unhide S0).2.2 2
 have m3 : (((w.alloc (.cells #[.pointer (some ⟨U, 0, none⟩)] 26)).alloc (.cells #[.int .i64 n, .slice (some ⟨b, o, none⟩) nn ac, .slice qa n qc, .int .i64 tick, .int .i64 gate, .int .i64 rmin, .slice ro rl rc] 25))).cell? ⟨w.heap.size + 1, 3, none⟩ = some (.int .i64 tick) := Blk.cell (unhide S0).2.2 3
 have m4 : (((w.alloc (.cells #[.pointer (some ⟨U, 0, none⟩)] 26)).alloc (.cells #[.int .i64 n, .slice (some ⟨b, o, none⟩) nn ac, .slice qa n qc, .int .i64 tick, .int .i64 gate, .int .i64 rmin, .slice ro rl rc] 25))).cell? ⟨w.heap.size + 1, 4, none⟩ = some (.int .i64 gate) := Blk.cell (unhide S0).2.2 4
 have m5 : (((w.alloc (.cells #[.pointer (some ⟨U, 0, none⟩)] 26)).alloc (.cells #[.int .i64 n, .slice (some ⟨b, o, none⟩) nn ac, .slice qa n qc, .int .i64 tick, .int .i64 gate, .int .i64 rmin, .slice ro rl rc] 25))).cell? ⟨w.heap.size + 1, 5, none⟩ = some (.int .i64 rmin) := Blk.cell (unhide S0).2.2 5
 have m6 : (((w.alloc (.cells #[.pointer (some ⟨U, 0, none⟩)] 26)).alloc (.cells #[.int .i64 n, .slice (some ⟨b, o, none⟩) nn ac, .slice qa n qc, .int .i64 tick, .int .i64 gate, .int .i64 rmin, .slice ro rl rc] 25))).cell? ⟨w.heap.size + 1, 6, none⟩ = some (.slice ro rl rc) := Blk.cell (unhide S0).2.2 6
 clear h hn0 hn hnn hk hac hA hQ za hq oq hK1 hn2
 go_enter Tryz.func43, Tryz.ntmps43
 go_wp2_with fail
 generalize ((w.alloc (.cells #[.pointer (some ⟨U, 0, none⟩)] 26)).alloc (.cells #[.int .i64 n, .slice (some ⟨b, o, none⟩) nn ac, .slice qa n qc, .int .i64 tick, .int .i64 gate, .int .i64 rmin, .slice ro rl rc] 25)) = w1 at *
 clear m0 m1 m2 m3 m4 m5 m6
 refine (unhide MV).mono ?_
 rintro e w2 ⟨Ba, ca, rfl, hca, hBa, hoa, k2⟩
 have S3 : Hid (Mk U w ((w2.alloc (.cells #[.int .i64 n, .int .i64 n, .slice (some ⟨Ba, 0, none⟩) nn ca] 38)).alloc (.cells #[.func (.func 90) #[] #[.pointer (some ⟨w.heap.size + 1, 0, none⟩), .pointer (some ⟨w2.heap.size + 1, 0, none⟩), .pointer (some ⟨w.heap.size, 0, none⟩), .pointer (some ⟨w2.heap.size, 0, none⟩)]] 110)) ∧ UC U c0 n0 ((w2.alloc (.cells #[.int .i64 n, .int .i64 n, .slice (some ⟨Ba, 0, none⟩) nn ca] 38)).alloc (.cells #[.func (.func 90) #[] #[.pointer (some ⟨w.heap.size + 1, 0, none⟩), .pointer (some ⟨w2.heap.size + 1, 0, none⟩), .pointer (some ⟨w.heap.size, 0, none⟩), .pointer (some ⟨w2.heap.size, 0, none⟩)]] 110)) ∧ UpC U n nn (w.heap.size + 1) (w2.heap.size + 1) w.heap.size w2.heap.size Ba ca 110 #[.int .i64 n, .slice (some ⟨b, o, none⟩) nn ac, .slice qa n qc, .int .i64 tick, .int .i64 gate, .int .i64 rmin, .slice ro rl rc] qa A Q ((w2.alloc (.cells #[.int .i64 n, .int .i64 n, .slice (some ⟨Ba, 0, none⟩) nn ca] 38)).alloc (.cells #[.func (.func 90) #[] #[.pointer (some ⟨w.heap.size + 1, 0, none⟩), .pointer (some ⟨w2.heap.size + 1, 0, none⟩), .pointer (some ⟨w.heap.size, 0, none⟩), .pointer (some ⟨w2.heap.size, 0, none⟩)]] 110)) ∧ nn ≤ ca) := by
  obtain ⟨g1, b1, b2⟩ := unhide S0
  obtain ⟨h, hq⟩ := unhide HU
  have lw := (unhide lU).1
  have s1 := g1.2.2
  have s2 := k2.2.2.2
  have lb2 := Blk.lt b2
  have lBa := hoa.ltA
  have g3 : Grown w2 ((w2.alloc (.cells #[.int .i64 n, .int .i64 n, .slice (some ⟨Ba, 0, none⟩) nn ca] 38)).alloc (.cells #[.func (.func 90) #[] #[.pointer (some ⟨w.heap.size + 1, 0, none⟩), .pointer (some ⟨w2.heap.size + 1, 0, none⟩), .pointer (some ⟨w.heap.size, 0, none⟩), .pointer (some ⟨w2.heap.size, 0, none⟩)]] 110)) := ((Grown.refl _).alloc _ _).alloc _ _
  have k3 : Kp w2 ((w2.alloc (.cells #[.int .i64 n, .int .i64 n, .slice (some ⟨Ba, 0, none⟩) nn ca] 38)).alloc (.cells #[.func (.func 90) #[] #[.pointer (some ⟨w.heap.size + 1, 0, none⟩), .pointer (some ⟨w2.heap.size + 1, 0, none⟩), .pointer (some ⟨w.heap.size, 0, none⟩), .pointer (some ⟨w2.heap.size, 0, none⟩)]] 110)) := Kp.of g3
  have kW : Kp w ((w2.alloc (.cells #[.int .i64 n, .int .i64 n, .slice (some ⟨Ba, 0, none⟩) nn ca] 38)).alloc (.cells #[.func (.func 90) #[] #[.pointer (some ⟨w.heap.size + 1, 0, none⟩), .pointer (some ⟨w2.heap.size + 1, 0, none⟩), .pointer (some ⟨w.heap.size, 0, none⟩), .pointer (some ⟨w2.heap.size, 0, none⟩)]] 110)) := ((Kp.of g1).trans k2).trans k3
  have ba : Blk w2.heap.size #[.int .i64 n, .int .i64 n, .slice (some ⟨Ba, 0, none⟩) nn ca] 38 ((w2.alloc (.cells #[.int .i64 n, .int .i64 n, .slice (some ⟨Ba, 0, none⟩) nn ca] 38)).alloc (.cells #[.func (.func 90) #[] #[.pointer (some ⟨w.heap.size + 1, 0, none⟩), .pointer (some ⟨w2.heap.size + 1, 0, none⟩), .pointer (some ⟨w.heap.size, 0, none⟩), .pointer (some ⟨w2.heap.size, 0, none⟩)]] 110)) := Blk.grown (Blk.new w2 _ _) ((Grown.refl _).alloc _ _)
  have bf := blk_new2 w2 (.cells #[.int .i64 n, .int .i64 n, .slice (some ⟨Ba, 0, none⟩) nn ca] 38) #[.func (.func 90) #[] #[.pointer (some ⟨w.heap.size + 1, 0, none⟩), .pointer (some ⟨w2.heap.size + 1, 0, none⟩), .pointer (some ⟨w.heap.size, 0, none⟩), .pointer (some ⟨w2.heap.size, 0, none⟩)]] 110
  exact ⟨Mk.kp kW, Blk.kp h kW, ⟨Blk.kp (Blk.kp b2 k2) k3, bf, Blk.kp (Blk.kp b1 k2) k3, ba, hoa.kp k3, hq.kp kW, by omega, by omega, by omega, by omega, by omega, unhide OQ⟩, hca⟩
 have f0 : (((w2.alloc (.cells #[.int .i64 n, .int .i64 n, .slice (some ⟨Ba, 0, none⟩) nn ca] 38)).alloc (.cells #[.func (.func 90) #[] #[.pointer (some ⟨w.heap.size + 1, 0, none⟩), .pointer (some ⟨w2.heap.size + 1, 0, none⟩), .pointer (some ⟨w.heap.size, 0, none⟩), .pointer (some ⟨w2.heap.size, 0, none⟩)]] 110))).cell? ⟨w2.heap.size + 1, 0, none⟩ = some (.func (.func 90) #[] #[.pointer (some ⟨w.heap.size + 1, 0, none⟩), .pointer (some ⟨w2.heap.size + 1, 0, none⟩), .pointer (some ⟨w.heap.size, 0, none⟩), .pointer (some ⟨w2.heap.size, 0, none⟩)]) := Blk.cell (unhide S3).2.2.1.2.1 0
 have n0' : (((w2.alloc (.cells #[.int .i64 n, .int .i64 n, .slice (some ⟨Ba, 0, none⟩) nn ca] 38)).alloc (.cells #[.func (.func 90) #[] #[.pointer (some ⟨w.heap.size + 1, 0, none⟩), .pointer (some ⟨w2.heap.size + 1, 0, none⟩), .pointer (some ⟨w.heap.size, 0, none⟩), .pointer (some ⟨w2.heap.size, 0, none⟩)]] 110))).cell? ⟨w.heap.size + 1, 0, none⟩ = some (.int .i64 n) := Blk.cell (unhide S3).2.2.1.1 0
 have ne1 : w.heap.size ≠ w2.heap.size := by have := (unhide S0).1.2.2; have := Blk.lt (unhide S0).2.2; have := k2.2.2.2; omega
 have ne2 : w2.heap.size ≠ w.heap.size := Ne.symm ne1
 clear hca hBa hoa k2 MV S0 HU
 go_wp2_with fail
 have UPH : Hid (Calls Tryz.prog 90 #[.int .i64 (K1 : Int), .pointer (some ⟨w.heap.size + 1, 0, none⟩), .pointer (some ⟨w2.heap.size + 1, 0, none⟩), .pointer (some ⟨w.heap.size, 0, none⟩), .pointer (some ⟨w2.heap.size, 0, none⟩)] ((w2.alloc (.cells #[.int .i64 n, .int .i64 n, .slice (some ⟨Ba, 0, none⟩) nn ca] 38)).alloc (.cells #[.func (.func 90) #[] #[.pointer (some ⟨w.heap.size + 1, 0, none⟩), .pointer (some ⟨w2.heap.size + 1, 0, none⟩), .pointer (some ⟨w.heap.size, 0, none⟩), .pointer (some ⟨w2.heap.size, 0, none⟩)]] 110)) fun e w' => UpP U n nn c0 n0 (gainZ A Q n) (gainC A Q n) k ((w2.alloc (.cells #[.int .i64 n, .int .i64 n, .slice (some ⟨Ba, 0, none⟩) nn ca] 38)).alloc (.cells #[.func (.func 90) #[] #[.pointer (some ⟨w.heap.size + 1, 0, none⟩), .pointer (some ⟨w2.heap.size + 1, 0, none⟩), .pointer (some ⟨w.heap.size, 0, none⟩), .pointer (some ⟨w2.heap.size, 0, none⟩)]] 110)) e w') := by
  have hk := unhide HK
  have := upTo_ok U n nn (w.heap.size + 1) (w2.heap.size + 1) w.heap.size w2.heap.size Ba ca 110 (some ⟨b, o, none⟩) qa ro ac qc rl rc tick gate rmin A Q c0 n0 (unhide lU).2 (unhide HN).1 (unhide HN).2.1 (unhide S3).2.2.2 (unhide HA) (unhide HQ) k (by omega) ((w2.alloc (.cells #[.int .i64 n, .int .i64 n, .slice (some ⟨Ba, 0, none⟩) nn ca] 38)).alloc (.cells #[.func (.func 90) #[] #[.pointer (some ⟨w.heap.size + 1, 0, none⟩), .pointer (some ⟨w2.heap.size + 1, 0, none⟩), .pointer (some ⟨w.heap.size, 0, none⟩), .pointer (some ⟨w2.heap.size, 0, none⟩)]] 110)) (unhide S3).2.1 (unhide S3).2.2.1
  rw [← hk.1] at this
  exact this
 clear f0 n0' ne1 ne2
 generalize ((w2.alloc (.cells #[.int .i64 n, .int .i64 n, .slice (some ⟨Ba, 0, none⟩) nn ca] 38)).alloc (.cells #[.func (.func 90) #[] #[.pointer (some ⟨w.heap.size + 1, 0, none⟩), .pointer (some ⟨w2.heap.size + 1, 0, none⟩), .pointer (some ⟨w.heap.size, 0, none⟩), .pointer (some ⟨w2.heap.size, 0, none⟩)]] 110)) = w3 at *
 generalize w2.heap.size = Lb at *
 refine (unhide UPH).mono ?_
 rintro e w4 ⟨v, l, rfl, hl, hD, hu, hm⟩
 obtain ⟨ao, cap, rfl, _⟩ := hD.1.mats
 have R : Hid (UpP U n nn c0 n0 (gainZ A Q n) (gainC A Q n) k w (.returned (.slice ao l.length cap)) w4) := ⟨_, l, rfl, hl, ⟨hD.1.mono (unhide S3).1.2.2.2, fun i x hx => let ⟨B, cp, e, h1, h2, h3⟩ := hD.2 i x hx; ⟨B, cp, e, h1, Nat.le_trans (unhide S3).1.2.2.2 h2, h3⟩⟩, hu, (unhide S3).1.trans hm⟩
 clear hl hD hu hm UPH S3
 go_wp2
 go_ret
 exact unhide R
end Go.Proofs.YtjobgjcfkomhpaaGreat
namespace Go.Proofs.YtjobgjcfkomhpaaGreat
open Go.RowKit Go.Shelf Go.Proofs.Wd
set_option maxRecDepth 10000
section
variable {w wx w' : World} {es pre post fs : List Ob} {D E : List Nat} {p p' q : World → Prop}
theorem ST.tellU (pre : List Ob) (h : ST w (pre ++ (D, p) :: post) fs wx) (m : MkL D wx w') (hp : p' w') (hd : DepL D p') (hn : D.Nodup) (hq : q w') (hqd : DepL E q) (hE : ∀ k ∈ E, wx.heap.size ≤ k ∧ k < w'.heap.size) : ST w (pre ++ (D, p') :: post) ((E, q) :: fs) w' := by
 refine (h.mk pre m hp hd hn (fun k hk => Or.inl hk)).fact hq hqd (fun k hk => ⟨(hE k hk).2, fun hb => ?_⟩)
 rw [blks_mid] at hb
 have := (h.2.2.2.1 k (by rw [blks_mid]; exact hb)).2
 have := (hE k hk).1
 omega
theorem ST.upd (pre : List Ob) (h : ST w (pre ++ (D, p) :: post) fs wx) (m : MkL D wx w') (hp : p' w') (hd : DepL D p') (hn : D.Nodup) : ST w (pre ++ (D, p') :: post) fs w' := h.mk pre m hp hd hn (fun k hk => Or.inl hk)
end
def UO (U : Nat) (P : Bool → Prop) (d : Int) (wx : World) : Prop := ∃ c n, P c ∧ 0 ≤ n ∧ n ≤ d ∧ UC U c n wx
theorem uo_dep (U : Nat) (P : Bool → Prop) (d : Int) : DepL [U] (UO U P d) := fun w w' h ⟨c, n, h1, h2, h3, h4⟩ => ⟨c, n, h1, h2, h3, (h U (by simp)).trans h4⟩
theorem own_depL (B len : Nat) (Z : Nat → Int) : DepL [B] (Own B len Z) := fun w w' h ⟨cur, h1, h2⟩ => ⟨cur, (h B (by simp)).trans h1, h2⟩
theorem Own.lt {B len : Nat} {Z : Nat → Int} {w : World} (h : Own B len Z w) : B < w.heap.size := let ⟨_, h1, _⟩ := h; Blk.lt h1
def OwnM (r : Int) (n : Nat) (Z : Nat → Int) (w : World) (e : Ending) (w' : World) : Prop := ∃ B cap, e = .returned (.agg #[.int .i64 r, .int .i64 r, .slice (some ⟨B, 0, none⟩) n cap]) ∧ n ≤ cap ∧ w.heap.size ≤ B ∧ Own B n Z w' ∧ Kp w w'
end Go.Proofs.YtjobgjcfkomhpaaGreat
namespace Go.Proofs.YtjobgjcfkomhpaaGreat
open Go.RowKit Go.Shelf Go.Proofs.Wd
set_option maxRecDepth 10000
theorem okD_nat {m : DV} (h : okD m) : ∃ n : Nat, m.N = n ∧ (1 ≤ n ∧ n ≤ 6) ∧ m.A.len = n * n ∧ m.Q.len = n ∧ (1 ≤ n * n ∧ n * n ≤ 36) ∧ upTo m.A.Z n n = true := by
 obtain ⟨⟨h1, h2⟩, ⟨h3, h4, h5⟩, _⟩ := h
 obtain ⟨n, hn⟩ : ∃ n : Nat, m.N = n := ⟨m.N.toNat, (Int.toNat_of_nonneg (by omega)).symm⟩
 rw [hn] at h1 h2 h3 h4 h5
 rw [Int.toNat_natCast] at h3 h4 h5
 have n1 : 1 ≤ n := by omega
 have n6 : n ≤ 6 := by omega
 have q1 : 1 * 1 ≤ n * n := Nat.mul_le_mul n1 n1
 have q2 : n * n ≤ 6 * 6 := Nat.mul_le_mul n6 n6
 exact ⟨n, hn, ⟨n1, n6⟩, h3, h4, ⟨by omega, by omega⟩, (upTo_true _ _ _).2 fun i hi j hj => ((h5 i hi).2 j (by omega)).2 hj⟩
theorem gtl_at {base n nn : Nat} {T : Nat → Nat → Int} {v : Value} {l : List MV} {W : World} (h : GTl base n nn T v l W) {i : Nat} (hi : i < l.length) : ∃ B cp, ixM l i = GTx n nn T i B cp ∧ nn ≤ cp ∧ base ≤ B ∧ Own B nn (T i) W := by
 obtain ⟨B, cp, e, h1, h2, h3⟩ := h.2 i _ (List.getElem?_eq_getElem hi)
 exact ⟨B, cp, by rw [ixM_at (List.getElem?_eq_getElem hi), e], h1, h2, h3⟩
set_option maxRecDepth 20000 in
set_option maxHeartbeats 4000000 in
theorem moFlow_bad (U : Nat) (c0 : Bool) (n0 : Int) (hn0 : 0 ≤ n0 ∧ n0 < 1000000000000000000) (m : DV) (ticks : Int) (Z : Nat → Int) (w : World) (hm : ∀ W, Mk U w W → m.good W) (e0 : rfL m ticks (-1099511627776) ≠ 0) (h : UC U c0 n0 w) :
  Calls Tryz.prog 15 #[.pointer (some ⟨U, 0, none⟩), .agg m.cells, .int .i64 ticks] w fun e w' => ValP 0 0 0 Z (rfL m ticks (-1099511627776)) (fun w' => UC U c0 n0 w' ∧ Mk U w w') w e w' := by
 have S0 : Hid (Grown w ((w.alloc (.cells #[.int .i64 m.N, .slice m.A.ao m.A.len m.A.cap, .slice m.Q.ao m.Q.len m.Q.cap, .int .i64 m.tick, .int .i64 m.gate, .int .i64 m.rmin, .slice m.ro m.rl m.rc] 25)).alloc (.cells #[.int .i64 0, .int .i64 0, .slice none 0 0] 38)) ∧ Blk w.heap.size m.cells 25 ((w.alloc (.cells #[.int .i64 m.N, .slice m.A.ao m.A.len m.A.cap, .slice m.Q.ao m.Q.len m.Q.cap, .int .i64 m.tick, .int .i64 m.gate, .int .i64 m.rmin, .slice m.ro m.rl m.rc] 25)).alloc (.cells #[.int .i64 0, .int .i64 0, .slice none 0 0] 38)) ∧ Blk (w.heap.size + 1) #[.int .i64 0, .int .i64 0, .slice none 0 0] 38 ((w.alloc (.cells #[.int .i64 m.N, .slice m.A.ao m.A.len m.A.cap, .slice m.Q.ao m.Q.len m.Q.cap, .int .i64 m.tick, .int .i64 m.gate, .int .i64 m.rmin, .slice m.ro m.rl m.rc] 25)).alloc (.cells #[.int .i64 0, .int .i64 0, .slice none 0 0] 38))) := ⟨((Grown.refl _).alloc _ _).alloc _ _, Blk.grown (Blk.new w _ _) ((Grown.refl _).alloc _ _), blk_new2 w _ _ _⟩
 have lU : Hid (U < w.heap.size) := Blk.lt h
 have RF : Hid (∀ W, Grown w W → Calls Tryz.prog 33 #[.pointer (some ⟨U, 0, none⟩), .agg #[.int .i64 m.N, .slice m.A.ao m.A.len m.A.cap, .slice m.Q.ao m.Q.len m.Q.cap, .int .i64 m.tick, .int .i64 m.gate, .int .i64 m.rmin, .slice m.ro m.rl m.rc], .int .i64 ticks, .int .i64 (-1099511627776)] W fun e w' => e = .returned (.int .i64 (rfL m ticks (-1099511627776))) ∧ UC U c0 n0 w' ∧ Mk U W w') := fun W g => moRefuse U c0 n0 hn0 m ticks (-1099511627776) W (fun W' k => hm W' ((Mk.kp (Kp.of g)).trans k)) (Blk.grown h g)
 have de : (rfL m ticks (-1099511627776) != 0) = true := by simpa using e0
 clear hm h hn0 e0
 generalize rfL m ticks (-1099511627776) = er at *
 obtain ⟨y0, y1, y2, y3, y4, y5, y6⟩ := (unhide S0).2.1.cellsM
 unfold DV.cells
 go_enter Tryz.func15, Tryz.ntmps15
 go_wp2_with fail
 generalize ((w.alloc (.cells #[.int .i64 m.N, .slice m.A.ao m.A.len m.A.cap, .slice m.Q.ao m.Q.len m.Q.cap, .int .i64 m.tick, .int .i64 m.gate, .int .i64 m.rmin, .slice m.ro m.rl m.rc] 25)).alloc (.cells #[.int .i64 0, .int .i64 0, .slice none 0 0] 38)) = w1 at *
 refine (unhide RF w1 (unhide S0).1).mono ?_
 rintro e w2 ⟨rfl, u2, m2⟩
 have K2 : Hid (UC U c0 n0 w2 ∧ Mk U w w2 ∧ Blk (w.heap.size + 1) #[.int .i64 0, .int .i64 0, .slice none 0 0] 38 w2) := ⟨u2, (Mk.kp (Kp.of (unhide S0).1)).trans m2, Blk.mk (unhide S0).2.2 m2 (by have := unhide lU; omega)⟩
 clear u2 m2 S0 RF y0 y1 y2 y3 y4 y5 y6
 have e0 : w2.cell? ⟨w.heap.size + 1, 0, none⟩ = some (.int .i64 0) := Blk.cell (unhide K2).2.2 0
 have e1 : w2.cell? ⟨w.heap.size + 1, 1, none⟩ = some (.int .i64 0) := Blk.cell (unhide K2).2.2 1
 have e2 : w2.cell? ⟨w.heap.size + 1, 2, none⟩ = some (.slice none 0 0) := Blk.cell (unhide K2).2.2 2
 have f := Blk.free (unhide K2).2.2
 go_wp2
 have P := putM (unhide K2).2.2 (.int .i64 0) (.int .i64 0) (.slice none 0 0)
 generalize (((w2.setCell ⟨w.heap.size + 1, 0, none⟩ (.int .i64 0)).setCell ⟨w.heap.size + 1, 1, none⟩ (.int .i64 0)).setCell ⟨w.heap.size + 1, 2, none⟩ (.slice none 0 0)) = wE at *
 have c0' : wE.cell? ⟨w.heap.size + 1, 0, none⟩ = some (.int .i64 0) := Blk.cell P.1 0
 have c1' : wE.cell? ⟨w.heap.size + 1, 1, none⟩ = some (.int .i64 0) := Blk.cell P.1 1
 have c2' : wE.cell? ⟨w.heap.size + 1, 2, none⟩ = some (.slice none 0 0) := Blk.cell P.1 2
 refine bodyPost_ret (v := .tuple #[.agg #[.int .i64 0, .int .i64 0, .slice none 0 0], .int .i64 er]) (by simp [results, Tryz.results15, go_sem, c0', c1', c2']) rfl ?_
 exact ⟨none, 0, w.heap.size, rfl, Nat.le_refl _, Nat.le_refl _, Or.inl rfl, Blk.keep (unhide K2).1 P.2 (by have := unhide lU; omega), (unhide K2).2.1.new P.2 (by omega)⟩
set_option maxRecDepth 20000 in
set_option maxHeartbeats 4000000 in
theorem moFlow_none (p : Option Addr) (m : DV) (ticks : Int) (Z : Nat → Int) (w : World) (h : NU p w) :
  Calls Tryz.prog 15 #[.pointer p, .agg m.cells, .int .i64 ticks] w fun e w' => ValP 0 0 0 Z 1 (Kp w) w e w' := by
 have S0 : Hid (Grown w ((w.alloc (.cells #[.int .i64 m.N, .slice m.A.ao m.A.len m.A.cap, .slice m.Q.ao m.Q.len m.Q.cap, .int .i64 m.tick, .int .i64 m.gate, .int .i64 m.rmin, .slice m.ro m.rl m.rc] 25)).alloc (.cells #[.int .i64 0, .int .i64 0, .slice none 0 0] 38)) ∧ Blk w.heap.size m.cells 25 ((w.alloc (.cells #[.int .i64 m.N, .slice m.A.ao m.A.len m.A.cap, .slice m.Q.ao m.Q.len m.Q.cap, .int .i64 m.tick, .int .i64 m.gate, .int .i64 m.rmin, .slice m.ro m.rl m.rc] 25)).alloc (.cells #[.int .i64 0, .int .i64 0, .slice none 0 0] 38)) ∧ Blk (w.heap.size + 1) #[.int .i64 0, .int .i64 0, .slice none 0 0] 38 ((w.alloc (.cells #[.int .i64 m.N, .slice m.A.ao m.A.len m.A.cap, .slice m.Q.ao m.Q.len m.Q.cap, .int .i64 m.tick, .int .i64 m.gate, .int .i64 m.rmin, .slice m.ro m.rl m.rc] 25)).alloc (.cells #[.int .i64 0, .int .i64 0, .slice none 0 0] 38))) := ⟨((Grown.refl _).alloc _ _).alloc _ _, Blk.grown (Blk.new w _ _) ((Grown.refl _).alloc _ _), blk_new2 w _ _ _⟩
 have RF : Hid (∀ W, Grown w W → Calls Tryz.prog 33 #[.pointer p, .agg #[.int .i64 m.N, .slice m.A.ao m.A.len m.A.cap, .slice m.Q.ao m.Q.len m.Q.cap, .int .i64 m.tick, .int .i64 m.gate, .int .i64 m.rmin, .slice m.ro m.rl m.rc], .int .i64 ticks, .int .i64 (-1099511627776)] W fun e w' => e = .returned (.int .i64 1) ∧ Grown W w') := fun W g => moRefuse_none p m ticks (-1099511627776) W (h.grown g)
 clear h
 obtain ⟨y0, y1, y2, y3, y4, y5, y6⟩ := (unhide S0).2.1.cellsM
 unfold DV.cells
 go_enter Tryz.func15, Tryz.ntmps15
 go_wp2_with fail
 generalize ((w.alloc (.cells #[.int .i64 m.N, .slice m.A.ao m.A.len m.A.cap, .slice m.Q.ao m.Q.len m.Q.cap, .int .i64 m.tick, .int .i64 m.gate, .int .i64 m.rmin, .slice m.ro m.rl m.rc] 25)).alloc (.cells #[.int .i64 0, .int .i64 0, .slice none 0 0] 38)) = w1 at *
 refine (unhide RF w1 (unhide S0).1).mono ?_
 rintro e w2 ⟨rfl, g2⟩
 have K2 : Hid (Kp w w2 ∧ Blk (w.heap.size + 1) #[.int .i64 0, .int .i64 0, .slice none 0 0] 38 w2) := ⟨Kp.of (gtrans (unhide S0).1 g2), Blk.grown (unhide S0).2.2 g2⟩
 clear g2 S0 RF y0 y1 y2 y3 y4 y5 y6
 have e0 : w2.cell? ⟨w.heap.size + 1, 0, none⟩ = some (.int .i64 0) := Blk.cell (unhide K2).2 0
 have e1 : w2.cell? ⟨w.heap.size + 1, 1, none⟩ = some (.int .i64 0) := Blk.cell (unhide K2).2 1
 have e2 : w2.cell? ⟨w.heap.size + 1, 2, none⟩ = some (.slice none 0 0) := Blk.cell (unhide K2).2 2
 have f := Blk.free (unhide K2).2
 go_wp2
 have P := putM (unhide K2).2 (.int .i64 0) (.int .i64 0) (.slice none 0 0)
 generalize (((w2.setCell ⟨w.heap.size + 1, 0, none⟩ (.int .i64 0)).setCell ⟨w.heap.size + 1, 1, none⟩ (.int .i64 0)).setCell ⟨w.heap.size + 1, 2, none⟩ (.slice none 0 0)) = wE at *
 have c0' : wE.cell? ⟨w.heap.size + 1, 0, none⟩ = some (.int .i64 0) := Blk.cell P.1 0
 have c1' : wE.cell? ⟨w.heap.size + 1, 1, none⟩ = some (.int .i64 0) := Blk.cell P.1 1
 have c2' : wE.cell? ⟨w.heap.size + 1, 2, none⟩ = some (.slice none 0 0) := Blk.cell P.1 2
 refine bodyPost_ret (v := .tuple #[.agg #[.int .i64 0, .int .i64 0, .slice none 0 0], .int .i64 1]) (by simp [results, Tryz.results15, go_sem, c0', c1', c2']) rfl ?_
 exact ⟨none, 0, w.heap.size, rfl, Nat.le_refl _, Nat.le_refl _, Or.inl rfl, (unhide K2).1.mod P.2 (by omega)⟩
set_option maxRecDepth 20000 in
set_option maxHeartbeats 4000000 in
theorem moNoise_bad (U : Nat) (c0 : Bool) (n0 : Int) (hn0 : 0 ≤ n0 ∧ n0 < 1000000000000000000) (m : DV) (ticks : Int) (Z : Nat → Int) (w : World) (hm : ∀ W, Mk U w W → m.good W) (e0 : rfL m ticks 0 ≠ 0) (h : UC U c0 n0 w) :
  Calls Tryz.prog 17 #[.pointer (some ⟨U, 0, none⟩), .agg m.cells, .int .i64 ticks] w fun e w' => ValP 0 0 0 Z (rfL m ticks 0) (fun w' => UC U c0 n0 w' ∧ Mk U w w') w e w' := by
 have S0 : Hid (Grown w ((w.alloc (.cells #[.int .i64 m.N, .slice m.A.ao m.A.len m.A.cap, .slice m.Q.ao m.Q.len m.Q.cap, .int .i64 m.tick, .int .i64 m.gate, .int .i64 m.rmin, .slice m.ro m.rl m.rc] 25)).alloc (.cells #[.int .i64 0, .int .i64 0, .slice none 0 0] 38)) ∧ Blk w.heap.size m.cells 25 ((w.alloc (.cells #[.int .i64 m.N, .slice m.A.ao m.A.len m.A.cap, .slice m.Q.ao m.Q.len m.Q.cap, .int .i64 m.tick, .int .i64 m.gate, .int .i64 m.rmin, .slice m.ro m.rl m.rc] 25)).alloc (.cells #[.int .i64 0, .int .i64 0, .slice none 0 0] 38)) ∧ Blk (w.heap.size + 1) #[.int .i64 0, .int .i64 0, .slice none 0 0] 38 ((w.alloc (.cells #[.int .i64 m.N, .slice m.A.ao m.A.len m.A.cap, .slice m.Q.ao m.Q.len m.Q.cap, .int .i64 m.tick, .int .i64 m.gate, .int .i64 m.rmin, .slice m.ro m.rl m.rc] 25)).alloc (.cells #[.int .i64 0, .int .i64 0, .slice none 0 0] 38))) := ⟨((Grown.refl _).alloc _ _).alloc _ _, Blk.grown (Blk.new w _ _) ((Grown.refl _).alloc _ _), blk_new2 w _ _ _⟩
 have lU : Hid (U < w.heap.size) := Blk.lt h
 have RF : Hid (∀ W, Grown w W → Calls Tryz.prog 33 #[.pointer (some ⟨U, 0, none⟩), .agg #[.int .i64 m.N, .slice m.A.ao m.A.len m.A.cap, .slice m.Q.ao m.Q.len m.Q.cap, .int .i64 m.tick, .int .i64 m.gate, .int .i64 m.rmin, .slice m.ro m.rl m.rc], .int .i64 ticks, .int .i64 0] W fun e w' => e = .returned (.int .i64 (rfL m ticks 0)) ∧ UC U c0 n0 w' ∧ Mk U W w') := fun W g => moRefuse U c0 n0 hn0 m ticks 0 W (fun W' k => hm W' ((Mk.kp (Kp.of g)).trans k)) (Blk.grown h g)
 have de : (rfL m ticks 0 != 0) = true := by simpa using e0
 clear hm h hn0 e0
 generalize rfL m ticks 0 = er at *
 obtain ⟨y0, y1, y2, y3, y4, y5, y6⟩ := (unhide S0).2.1.cellsM
 unfold DV.cells
 go_enter Tryz.func17, Tryz.ntmps17
 go_wp2_with fail
 generalize ((w.alloc (.cells #[.int .i64 m.N, .slice m.A.ao m.A.len m.A.cap, .slice m.Q.ao m.Q.len m.Q.cap, .int .i64 m.tick, .int .i64 m.gate, .int .i64 m.rmin, .slice m.ro m.rl m.rc] 25)).alloc (.cells #[.int .i64 0, .int .i64 0, .slice none 0 0] 38)) = w1 at *
 refine (unhide RF w1 (unhide S0).1).mono ?_
 rintro e w2 ⟨rfl, u2, m2⟩
 have K2 : Hid (UC U c0 n0 w2 ∧ Mk U w w2 ∧ Blk (w.heap.size + 1) #[.int .i64 0, .int .i64 0, .slice none 0 0] 38 w2) := ⟨u2, (Mk.kp (Kp.of (unhide S0).1)).trans m2, Blk.mk (unhide S0).2.2 m2 (by have := unhide lU; omega)⟩
 clear u2 m2 S0 RF y0 y1 y2 y3 y4 y5 y6
 have e0 : w2.cell? ⟨w.heap.size + 1, 0, none⟩ = some (.int .i64 0) := Blk.cell (unhide K2).2.2 0
 have e1 : w2.cell? ⟨w.heap.size + 1, 1, none⟩ = some (.int .i64 0) := Blk.cell (unhide K2).2.2 1
 have e2 : w2.cell? ⟨w.heap.size + 1, 2, none⟩ = some (.slice none 0 0) := Blk.cell (unhide K2).2.2 2
 have f := Blk.free (unhide K2).2.2
 go_wp2
 have P := putM (unhide K2).2.2 (.int .i64 0) (.int .i64 0) (.slice none 0 0)
 generalize (((w2.setCell ⟨w.heap.size + 1, 0, none⟩ (.int .i64 0)).setCell ⟨w.heap.size + 1, 1, none⟩ (.int .i64 0)).setCell ⟨w.heap.size + 1, 2, none⟩ (.slice none 0 0)) = wE at *
 have c0' : wE.cell? ⟨w.heap.size + 1, 0, none⟩ = some (.int .i64 0) := Blk.cell P.1 0
 have c1' : wE.cell? ⟨w.heap.size + 1, 1, none⟩ = some (.int .i64 0) := Blk.cell P.1 1
 have c2' : wE.cell? ⟨w.heap.size + 1, 2, none⟩ = some (.slice none 0 0) := Blk.cell P.1 2
 refine bodyPost_ret (v := .tuple #[.agg #[.int .i64 0, .int .i64 0, .slice none 0 0], .int .i64 er]) (by simp [results, Tryz.results17, go_sem, c0', c1', c2']) rfl ?_
 exact ⟨none, 0, w.heap.size, rfl, Nat.le_refl _, Nat.le_refl _, Or.inl rfl, Blk.keep (unhide K2).1 P.2 (by have := unhide lU; omega), (unhide K2).2.1.new P.2 (by omega)⟩
set_option maxRecDepth 20000 in
set_option maxHeartbeats 4000000 in
theorem moNoise_none (p : Option Addr) (m : DV) (ticks : Int) (Z : Nat → Int) (w : World) (h : NU p w) :
  Calls Tryz.prog 17 #[.pointer p, .agg m.cells, .int .i64 ticks] w fun e w' => ValP 0 0 0 Z 1 (Kp w) w e w' := by
 have S0 : Hid (Grown w ((w.alloc (.cells #[.int .i64 m.N, .slice m.A.ao m.A.len m.A.cap, .slice m.Q.ao m.Q.len m.Q.cap, .int .i64 m.tick, .int .i64 m.gate, .int .i64 m.rmin, .slice m.ro m.rl m.rc] 25)).alloc (.cells #[.int .i64 0, .int .i64 0, .slice none 0 0] 38)) ∧ Blk w.heap.size m.cells 25 ((w.alloc (.cells #[.int .i64 m.N, .slice m.A.ao m.A.len m.A.cap, .slice m.Q.ao m.Q.len m.Q.cap, .int .i64 m.tick, .int .i64 m.gate, .int .i64 m.rmin, .slice m.ro m.rl m.rc] 25)).alloc (.cells #[.int .i64 0, .int .i64 0, .slice none 0 0] 38)) ∧ Blk (w.heap.size + 1) #[.int .i64 0, .int .i64 0, .slice none 0 0] 38 ((w.alloc (.cells #[.int .i64 m.N, .slice m.A.ao m.A.len m.A.cap, .slice m.Q.ao m.Q.len m.Q.cap, .int .i64 m.tick, .int .i64 m.gate, .int .i64 m.rmin, .slice m.ro m.rl m.rc] 25)).alloc (.cells #[.int .i64 0, .int .i64 0, .slice none 0 0] 38))) := ⟨((Grown.refl _).alloc _ _).alloc _ _, Blk.grown (Blk.new w _ _) ((Grown.refl _).alloc _ _), blk_new2 w _ _ _⟩
 have RF : Hid (∀ W, Grown w W → Calls Tryz.prog 33 #[.pointer p, .agg #[.int .i64 m.N, .slice m.A.ao m.A.len m.A.cap, .slice m.Q.ao m.Q.len m.Q.cap, .int .i64 m.tick, .int .i64 m.gate, .int .i64 m.rmin, .slice m.ro m.rl m.rc], .int .i64 ticks, .int .i64 0] W fun e w' => e = .returned (.int .i64 1) ∧ Grown W w') := fun W g => moRefuse_none p m ticks 0 W (h.grown g)
 clear h
 obtain ⟨y0, y1, y2, y3, y4, y5, y6⟩ := (unhide S0).2.1.cellsM
 unfold DV.cells
 go_enter Tryz.func17, Tryz.ntmps17
 go_wp2_with fail
 generalize ((w.alloc (.cells #[.int .i64 m.N, .slice m.A.ao m.A.len m.A.cap, .slice m.Q.ao m.Q.len m.Q.cap, .int .i64 m.tick, .int .i64 m.gate, .int .i64 m.rmin, .slice m.ro m.rl m.rc] 25)).alloc (.cells #[.int .i64 0, .int .i64 0, .slice none 0 0] 38)) = w1 at *
 refine (unhide RF w1 (unhide S0).1).mono ?_
 rintro e w2 ⟨rfl, g2⟩
 have K2 : Hid (Kp w w2 ∧ Blk (w.heap.size + 1) #[.int .i64 0, .int .i64 0, .slice none 0 0] 38 w2) := ⟨Kp.of (gtrans (unhide S0).1 g2), Blk.grown (unhide S0).2.2 g2⟩
 clear g2 S0 RF y0 y1 y2 y3 y4 y5 y6
 have e0 : w2.cell? ⟨w.heap.size + 1, 0, none⟩ = some (.int .i64 0) := Blk.cell (unhide K2).2 0
 have e1 : w2.cell? ⟨w.heap.size + 1, 1, none⟩ = some (.int .i64 0) := Blk.cell (unhide K2).2 1
 have e2 : w2.cell? ⟨w.heap.size + 1, 2, none⟩ = some (.slice none 0 0) := Blk.cell (unhide K2).2 2
 have f := Blk.free (unhide K2).2
 go_wp2
 have P := putM (unhide K2).2 (.int .i64 0) (.int .i64 0) (.slice none 0 0)
 generalize (((w2.setCell ⟨w.heap.size + 1, 0, none⟩ (.int .i64 0)).setCell ⟨w.heap.size + 1, 1, none⟩ (.int .i64 0)).setCell ⟨w.heap.size + 1, 2, none⟩ (.slice none 0 0)) = wE at *
 have c0' : wE.cell? ⟨w.heap.size + 1, 0, none⟩ = some (.int .i64 0) := Blk.cell P.1 0
 have c1' : wE.cell? ⟨w.heap.size + 1, 1, none⟩ = some (.int .i64 0) := Blk.cell P.1 1
 have c2' : wE.cell? ⟨w.heap.size + 1, 2, none⟩ = some (.slice none 0 0) := Blk.cell P.1 2
 refine bodyPost_ret (v := .tuple #[.agg #[.int .i64 0, .int .i64 0, .slice none 0 0], .int .i64 1]) (by simp [results, Tryz.results17, go_sem, c0', c1', c2']) rfl ?_
 exact ⟨none, 0, w.heap.size, rfl, Nat.le_refl _, Nat.le_refl _, Or.inl rfl, (unhide K2).1.mod P.2 (by omega)⟩
set_option maxRecDepth 20000 in
set_option maxHeartbeats 8000000 in
theorem moFlow_ok (U : Nat) (c0 : Bool) (n0 : Int) (hn0 : 0 ≤ n0 ∧ n0 < 10000000000000000) (m : DV) (n : Nat) (eN : m.N = n) (ticks : Int) (hI : I64 ticks) (w : World) (hm : ∀ W, Mk U w W → m.good W) (oa : Off U m.A.len m.A.ao) (e0 : rfL m ticks (-1099511627776) = 0) (h : UC U c0 n0 w) :
  Calls Tryz.prog 15 #[.pointer (some ⟨U, 0, none⟩), .agg m.cells, .int .i64 ticks] w fun e w' => ValP n n (n * n) (flowZ m.A.Z n (spanZ ticks m.tick)) 0 (fun w' => UW U (c0 || spanC ticks m.tick || flowC m.A.Z n (spanZ ticks m.tick)) n0 300000 w' ∧ Mk U w w') w e w' := by
 obtain ⟨nn, hnn⟩ : ∃ nn, n * n = nn := ⟨_, rfl⟩
 have hok := (rfL_ok e0).1
 have hg := hm w (Mk.refl _ _)
 obtain ⟨n', e', hn, hal, hql, hnn2, hup⟩ := okD_nat hok
 obtain rfl : n' = n := Int.ofNat.inj (e'.symm.trans eN)
 rw [hnn] at hal hnn2
 obtain ⟨ab, ao, ea, za⟩ := hg.1.1.some (by omega)
 have hcap : nn ≤ m.A.cap := by have := hg.1.2.1.1; omega
 have IA : ∀ j, j < nn → I64 (m.A.Z j) := fun j hj => hg.1.2.2 j (by omega)
 have hT : I64 m.tick := hg.2.2.2.2.2.1.2.1
 have abU : ab ≠ U := oa (by omega) _ ea
 have HN : Hid ((1 ≤ n' ∧ n' ≤ 6) ∧ n' * n' = nn ∧ (1 ≤ nn ∧ nn ≤ 36)) := ⟨hn, hnn, hnn2⟩
 have S0 : Hid (Grown w ((w.alloc (.cells #[.int .i64 m.N, .slice m.A.ao m.A.len m.A.cap, .slice m.Q.ao m.Q.len m.Q.cap, .int .i64 m.tick, .int .i64 m.gate, .int .i64 m.rmin, .slice m.ro m.rl m.rc] 25)).alloc (.cells #[.int .i64 0, .int .i64 0, .slice none 0 0] 38)) ∧ Blk w.heap.size m.cells 25 ((w.alloc (.cells #[.int .i64 m.N, .slice m.A.ao m.A.len m.A.cap, .slice m.Q.ao m.Q.len m.Q.cap, .int .i64 m.tick, .int .i64 m.gate, .int .i64 m.rmin, .slice m.ro m.rl m.rc] 25)).alloc (.cells #[.int .i64 0, .int .i64 0, .slice none 0 0] 38)) ∧ Blk (w.heap.size + 1) #[.int .i64 0, .int .i64 0, .slice none 0 0] 38 ((w.alloc (.cells #[.int .i64 m.N, .slice m.A.ao m.A.len m.A.cap, .slice m.Q.ao m.Q.len m.Q.cap, .int .i64 m.tick, .int .i64 m.gate, .int .i64 m.rmin, .slice m.ro m.rl m.rc] 25)).alloc (.cells #[.int .i64 0, .int .i64 0, .slice none 0 0] 38))) := ⟨((Grown.refl _).alloc _ _).alloc _ _, Blk.grown (Blk.new w _ _) ((Grown.refl _).alloc _ _), blk_new2 w _ _ _⟩
 have lU : Hid (U < w.heap.size ∧ 0 ≤ n0 ∧ n0 < 10000000000000000) := ⟨Blk.lt h, hn0⟩
 have RF : Hid (∀ W, Grown w W → Calls Tryz.prog 33 #[.pointer (some ⟨U, 0, none⟩), .agg #[.int .i64 m.N, .slice m.A.ao m.A.len m.A.cap, .slice m.Q.ao m.Q.len m.Q.cap, .int .i64 m.tick, .int .i64 m.gate, .int .i64 m.rmin, .slice m.ro m.rl m.rc], .int .i64 ticks, .int .i64 (-1099511627776)] W fun e w' => e = .returned (.int .i64 0) ∧ UC U c0 n0 w' ∧ Mk U W w') := fun W g => by
  have := moRefuse U c0 n0 ⟨by omega, by omega⟩ m ticks (-1099511627776) W (fun W' k => hm W' ((Mk.kp (Kp.of g)).trans k)) (Blk.grown h g)
  rwa [e0] at this
 have eM : (#[.int .i64 m.N, .slice m.A.ao m.A.len m.A.cap, .slice m.Q.ao m.Q.len m.Q.cap, .int .i64 m.tick, .int .i64 m.gate, .int .i64 m.rmin, .slice m.ro m.rl m.rc] : Array Value) = #[.int .i64 n', .slice (some ⟨ab, ao, none⟩) nn m.A.cap, .slice m.Q.ao m.Q.len m.Q.cap, .int .i64 m.tick, .int .i64 m.gate, .int .i64 m.rmin, .slice m.ro m.rl m.rc] := by rw [eN, ea, hal]
 have MV : Hid (∀ W, Mk U w W → Calls Tryz.prog 39 #[.agg #[.int .i64 m.N, .slice m.A.ao m.A.len m.A.cap, .slice m.Q.ao m.Q.len m.Q.cap, .int .i64 m.tick, .int .i64 m.gate, .int .i64 m.rmin, .slice m.ro m.rl m.rc]] W fun e w' => MovesP n' nn m.A.Z W e w') := fun W k => by
  rw [eM]
  exact moMoves_raw n' nn ab ao m.A.cap m.Q.len m.Q.cap m.rl m.rc m.Q.ao m.ro m.tick m.gate m.rmin m.A.Z hn hnn hcap W (fun i hi => k.cell (za i (by omega)) abU)
 have SP : Hid (∀ W, UC U c0 n0 W → Calls Tryz.prog 34 #[.pointer (some ⟨U, 0, none⟩), .agg #[.int .i64 m.N, .slice m.A.ao m.A.len m.A.cap, .slice m.Q.ao m.Q.len m.Q.cap, .int .i64 m.tick, .int .i64 m.gate, .int .i64 m.rmin, .slice m.ro m.rl m.rc], .int .i64 ticks] W fun e w' => e = .returned (.int .i64 (spanZ ticks m.tick)) ∧ UC U (c0 || spanC ticks m.tick) (n0 + 3) w' ∧ Mod U W w') := fun W u => moSpan U c0 n0 ⟨by omega, by omega⟩ m ticks hI hT W u
 have FL : Hid (∀ W B cp, UC U (c0 || spanC ticks m.tick) (n0 + 3) W → nn ≤ cp → Own B nn m.A.Z W → B ≠ U → Calls Tryz.prog 38 #[.pointer (some ⟨U, 0, none⟩), .agg #[.int .i64 n', .int .i64 n', .slice (some ⟨B, 0, none⟩) nn cp], .int .i64 (spanZ ticks m.tick)] W fun e w' => ValP n' n' nn (flowZ m.A.Z n' (spanZ ticks m.tick)) 0 (fun w' => UW U (c0 || spanC ticks m.tick || flowC m.A.Z n' (spanZ ticks m.tick)) (n0 + 3) 200000 w' ∧ Mk U W w') W e w') := fun W B cp u hcp own hB => by
  have := polyFlow_ok U n' B 0 cp (c0 || spanC ticks m.tick) (n0 + 3) (spanZ ticks m.tick) (spanZ_I64 _ _) ⟨by omega, by omega⟩ m.A.Z ⟨hn.1, by omega⟩ (by rw [hnn]; exact hcp) (by rw [hnn]; exact IA) hup W u (by rw [hnn]; exact fun j hj => by rw [Nat.zero_add]; exact own.cellAt j hj) hB
  rwa [hnn] at this
 rw [hnn]
 clear hm oa e0 h hn0 hI hok hg e' hn hal hql hnn2 hup za ea hcap IA hT abU eM eN hnn
 generalize n' = n at *
 generalize spanZ ticks m.tick = sp at *
 generalize (c0 || spanC ticks m.tick) = c1 at *
 generalize flowZ m.A.Z n sp = FZ at *
 generalize flowC m.A.Z n sp = FC at *
 generalize hAZ : m.A.Z = AZ at *
 clear hAZ
 obtain ⟨y0, y1, y2, y3, y4, y5, y6⟩ := (unhide S0).2.1.cellsM
 unfold DV.cells
 go_enter Tryz.func15, Tryz.ntmps15
 go_wp2_with fail
 generalize ((w.alloc (.cells #[.int .i64 m.N, .slice m.A.ao m.A.len m.A.cap, .slice m.Q.ao m.Q.len m.Q.cap, .int .i64 m.tick, .int .i64 m.gate, .int .i64 m.rmin, .slice m.ro m.rl m.rc] 25)).alloc (.cells #[.int .i64 0, .int .i64 0, .slice none 0 0] 38)) = w1 at *
 refine (unhide RF w1 (unhide S0).1).mono ?_
 rintro e w2 ⟨rfl, u2, m2⟩
 have lw := (unhide lU).1
 have S2 : Hid (UC U c0 n0 w2.drew ∧ Mk U w w2.drew ∧ Blk w.heap.size m.cells 25 w2.drew ∧ Blk (w.heap.size + 1) #[.int .i64 0, .int .i64 0, .slice none 0 0] 38 w2.drew) := ⟨u2, ((Mk.kp (Kp.of (unhide S0).1)).trans m2).trans (Mk.kp (Kp.of ((Grown.refl _).drew))), Blk.mk (unhide S0).2.1 m2 (by omega), Blk.mk (unhide S0).2.2 m2 (by omega)⟩
 clear u2 m2 S0 RF y0 y1 y2 y3 y4 y5 y6 lw
 have hHeld0 : w2.drew.cell? ⟨w.heap.size, 0, none⟩ = some (.int .i64 m.N) ∧ w2.drew.cell? ⟨w.heap.size, 1, none⟩ = some (.slice m.A.ao m.A.len m.A.cap) ∧ w2.drew.cell? ⟨w.heap.size, 2, none⟩ = some (.slice m.Q.ao m.Q.len m.Q.cap) ∧ w2.drew.cell? ⟨w.heap.size, 3, none⟩ = some (.int .i64 m.tick) ∧ w2.drew.cell? ⟨w.heap.size, 4, none⟩ = some (.int .i64 m.gate) ∧ w2.drew.cell? ⟨w.heap.size, 5, none⟩ = some (.int .i64 m.rmin) ∧ w2.drew.cell? ⟨w.heap.size, 6, none⟩ = some (.slice m.ro m.rl m.rc) := (unhide S2).2.2.1.cellsM
 go_wp2_with fail
 refine region_G (fun w' => w'.cell? ⟨w.heap.size, 0, none⟩ = some (.int .i64 m.N) ∧ w'.cell? ⟨w.heap.size, 1, none⟩ = some (.slice m.A.ao m.A.len m.A.cap) ∧ w'.cell? ⟨w.heap.size, 2, none⟩ = some (.slice m.Q.ao m.Q.len m.Q.cap) ∧ w'.cell? ⟨w.heap.size, 3, none⟩ = some (.int .i64 m.tick) ∧ w'.cell? ⟨w.heap.size, 4, none⟩ = some (.int .i64 m.gate) ∧ w'.cell? ⟨w.heap.size, 5, none⟩ = some (.int .i64 m.rmin) ∧ w'.cell? ⟨w.heap.size, 6, none⟩ = some (.slice m.ro m.rl m.rc)) 11 (by kernel_rfl) hHeld0 (fun hHeld => ?_)
 clear hHeld0
 refine take_G (i := 0) (d := 17) (v := .pointer (some ⟨U, 0, none⟩)) rfl rfl (by kernel_rfl) (by kernel_rfl) (by kernel_rfl) (by kernel_rfl) (by kernel_rfl) (Or.inl ⟨by rfl, ?_⟩) hHeld ?_
 ·intro wS hSw
  obtain ⟨z0, z1, z2, z3, z4, z5, z6⟩ := hSw
  clear hHeld
  go_simp
 (try simp only [Act.put, List.setIfInBounds_toArray, List.set_cons_zero, List.set_cons_succ])
 refine take_G (i := 1) (d := 18) (v := .agg #[.int .i64 m.N, .slice m.A.ao m.A.len m.A.cap, .slice m.Q.ao m.Q.len m.Q.cap, .int .i64 m.tick, .int .i64 m.gate, .int .i64 m.rmin, .slice m.ro m.rl m.rc]) rfl rfl (by kernel_rfl) (by kernel_rfl) (by kernel_rfl) (by kernel_rfl) (by kernel_rfl) (Or.inl ⟨by rfl, ?_⟩) hHeld ?_
 ·intro wS hSw
  obtain ⟨z0, z1, z2, z3, z4, z5, z6⟩ := hSw
  clear hHeld
  go_simp
 (try simp only [Act.put, List.setIfInBounds_toArray, List.set_cons_zero, List.set_cons_succ])
 refine take_G (i := 3) (d := 20) (v := .pointer (some ⟨U, 0, none⟩)) rfl rfl (by kernel_rfl) (by kernel_rfl) (by kernel_rfl) (by kernel_rfl) (by kernel_rfl) (Or.inl ⟨by rfl, ?_⟩) hHeld ?_
 ·intro wS hSw
  obtain ⟨z0, z1, z2, z3, z4, z5, z6⟩ := hSw
  clear hHeld
  go_simp
 (try simp only [Act.put, List.setIfInBounds_toArray, List.set_cons_zero, List.set_cons_succ])
 refine take_G (i := 4) (d := 21) (v := .agg #[.int .i64 m.N, .slice m.A.ao m.A.len m.A.cap, .slice m.Q.ao m.Q.len m.Q.cap, .int .i64 m.tick, .int .i64 m.gate, .int .i64 m.rmin, .slice m.ro m.rl m.rc]) rfl rfl (by kernel_rfl) (by kernel_rfl) (by kernel_rfl) (by kernel_rfl) (by kernel_rfl) (Or.inl ⟨by rfl, ?_⟩) hHeld ?_
 ·intro wS hSw
  obtain ⟨z0, z1, z2, z3, z4, z5, z6⟩ := hSw
  clear hHeld
  go_simp
 (try simp only [Act.put, List.setIfInBounds_toArray, List.set_cons_zero, List.set_cons_succ])
 refine take_G (i := 5) (d := 22) (v := .int .i64 ticks) rfl rfl (by kernel_rfl) (by kernel_rfl) (by kernel_rfl) (by kernel_rfl) (by kernel_rfl) (Or.inl ⟨by rfl, ?_⟩) hHeld ?_
 ·intro wS hSw
  obtain ⟨z0, z1, z2, z3, z4, z5, z6⟩ := hSw
  clear hHeld
  go_simp
 (try simp only [Act.put, List.setIfInBounds_toArray, List.set_cons_zero, List.set_cons_succ])
 refine step_G (i := 2) (by kernel_rfl) (fun K hK => ?_)
 refine wpOp_of rfl rfl ?_
 unfold Oper.wp
 go_simp
 refine (unhide MV w2.drew (unhide S2).2.1).mono ?_
 rintro e w3 ⟨B, cp, rfl, hcp, hB, own, k3⟩
 have S3 : Hid (UC U c0 n0 w3 ∧ Mk U w w3 ∧ Blk w.heap.size m.cells 25 w3 ∧ Blk (w.heap.size + 1) #[.int .i64 0, .int .i64 0, .slice none 0 0] 38 w3 ∧ nn ≤ cp ∧ Own B nn AZ w3 ∧ w.heap.size ≤ B) := ⟨Blk.kp (unhide S2).1 k3, (unhide S2).2.1.trans (Mk.kp k3), Blk.kp (unhide S2).2.2.1 k3, Blk.kp (unhide S2).2.2.2 k3, hcp, own, Nat.le_trans (unhide S2).2.1.2.2.2 hB⟩
 have hHeld3 : w3.cell? ⟨w.heap.size, 0, none⟩ = some (.int .i64 m.N) ∧ w3.cell? ⟨w.heap.size, 1, none⟩ = some (.slice m.A.ao m.A.len m.A.cap) ∧ w3.cell? ⟨w.heap.size, 2, none⟩ = some (.slice m.Q.ao m.Q.len m.Q.cap) ∧ w3.cell? ⟨w.heap.size, 3, none⟩ = some (.int .i64 m.tick) ∧ w3.cell? ⟨w.heap.size, 4, none⟩ = some (.int .i64 m.gate) ∧ w3.cell? ⟨w.heap.size, 5, none⟩ = some (.int .i64 m.rmin) ∧ w3.cell? ⟨w.heap.size, 6, none⟩ = some (.slice m.ro m.rl m.rc) := (unhide S3).2.2.1.cellsM
 refine hK _ _ (fun _ => hHeld3) ?_
 clear hK K hcp hB own k3 S2 MV hHeld
 (try simp only [Act.put, List.setIfInBounds_toArray, List.set_cons_zero, List.set_cons_succ])
 refine step_G (i := 6) (by kernel_rfl) (fun K hK => ?_)
 refine wpOp_of rfl rfl ?_
 unfold Oper.wp
 go_simp
 refine (unhide SP w3 (unhide S3).1).mono ?_
 rintro e w4 ⟨rfl, u4, m4⟩
 have lw := (unhide lU).1
 have S4 : Hid (UC U c1 (n0 + 3) w4 ∧ Mk U w w4 ∧ Blk w.heap.size m.cells 25 w4 ∧ Blk (w.heap.size + 1) #[.int .i64 0, .int .i64 0, .slice none 0 0] 38 w4 ∧ nn ≤ cp ∧ Own B nn AZ w4 ∧ w.heap.size ≤ B) := by
  obtain ⟨s1, s2, s3, s4, s5, s6, s7⟩ := unhide S3
  exact ⟨u4, s2.trans (Mk.of m4), Blk.keep s3 m4 (by omega), Blk.keep s4 m4 (by omega), s5, s6.mk (Mk.of m4) (by omega), s7⟩
 have hHeld4 : w4.cell? ⟨w.heap.size, 0, none⟩ = some (.int .i64 m.N) ∧ w4.cell? ⟨w.heap.size, 1, none⟩ = some (.slice m.A.ao m.A.len m.A.cap) ∧ w4.cell? ⟨w.heap.size, 2, none⟩ = some (.slice m.Q.ao m.Q.len m.Q.cap) ∧ w4.cell? ⟨w.heap.size, 3, none⟩ = some (.int .i64 m.tick) ∧ w4.cell? ⟨w.heap.size, 4, none⟩ = some (.int .i64 m.gate) ∧ w4.cell? ⟨w.heap.size, 5, none⟩ = some (.int .i64 m.rmin) ∧ w4.cell? ⟨w.heap.size, 6, none⟩ = some (.slice m.ro m.rl m.rc) := (unhide S4).2.2.1.cellsM
 refine hK _ _ (fun _ => hHeld4) ?_
 clear hK K u4 m4 S3 SP hHeld3
 (try simp only [Act.put, List.setIfInBounds_toArray, List.set_cons_zero, List.set_cons_succ])
 refine step_G (i := 7) (by kernel_rfl) (fun K hK => ?_)
 refine wpOp_of rfl rfl ?_
 unfold Oper.wp
 go_simp
 refine (unhide FL w4 B cp (unhide S4).1 (unhide S4).2.2.2.2.1 (unhide S4).2.2.2.2.2.1 (by have := (unhide S4).2.2.2.2.2.2; omega)).mono ?_
 rintro e w6 ⟨a6, c6, B6, rfl, h2, h3, h4, hu6, m6⟩
 have S6 : Hid (UW U (c1 || FC) (n0 + 3) 200000 w6 ∧ Mk U w w6 ∧ Blk w.heap.size m.cells 25 w6 ∧ Blk (w.heap.size + 1) #[.int .i64 0, .int .i64 0, .slice none 0 0] 38 w6 ∧ nn ≤ c6 ∧ w.heap.size + 1 < B6 ∧ (nn = 0 ∨ (a6 = some ⟨B6, 0, none⟩ ∧ Own B6 nn FZ w6))) := by
  obtain ⟨s1, s2, s3, s4, s5, s6, s7⟩ := unhide S4
  have l4 := Blk.lt s4
  exact ⟨hu6, s2.trans m6, Blk.mk s3 m6 (by omega), Blk.mk s4 m6 (by omega), h2, by omega, h4⟩
 have hHeld : w6.cell? ⟨w.heap.size, 0, none⟩ = some (.int .i64 m.N) ∧ w6.cell? ⟨w.heap.size, 1, none⟩ = some (.slice m.A.ao m.A.len m.A.cap) ∧ w6.cell? ⟨w.heap.size, 2, none⟩ = some (.slice m.Q.ao m.Q.len m.Q.cap) ∧ w6.cell? ⟨w.heap.size, 3, none⟩ = some (.int .i64 m.tick) ∧ w6.cell? ⟨w.heap.size, 4, none⟩ = some (.int .i64 m.gate) ∧ w6.cell? ⟨w.heap.size, 5, none⟩ = some (.int .i64 m.rmin) ∧ w6.cell? ⟨w.heap.size, 6, none⟩ = some (.slice m.ro m.rl m.rc) := (unhide S6).2.2.1.cellsM
 refine hK _ _ (fun _ => hHeld) ?_
 clear hK K h2 h3 h4 hu6 m6 S4 FL hHeld4 lw
 (try simp only [Act.put, List.setIfInBounds_toArray, List.set_cons_zero, List.set_cons_succ])
 refine take_G (i := 8) (d := 25) (v := .agg #[.int .i64 n, .int .i64 n, .slice a6 nn c6]) rfl rfl (by kernel_rfl) (by kernel_rfl) (by kernel_rfl) (by kernel_rfl) (by kernel_rfl) (Or.inl ⟨by rfl, ?_⟩) hHeld ?_
 ·intro wS hSw
  obtain ⟨z0, z1, z2, z3, z4, z5, z6⟩ := hSw
  clear hHeld
  go_simp
 (try simp only [Act.put, List.setIfInBounds_toArray, List.set_cons_zero, List.set_cons_succ])
 refine take_G (i := 9) (d := 26) (v := .int .i64 0) rfl rfl (by kernel_rfl) (by kernel_rfl) (by kernel_rfl) (by kernel_rfl) (by kernel_rfl) (Or.inl ⟨by rfl, ?_⟩) hHeld ?_
 ·intro wS hSw
  obtain ⟨z0, z1, z2, z3, z4, z5, z6⟩ := hSw
  clear hHeld
  go_simp
 (try simp only [Act.put, List.setIfInBounds_toArray, List.set_cons_zero, List.set_cons_succ])
 have r0 : w6.cell? ⟨w.heap.size + 1, 0, none⟩ = some (.int .i64 0) := Blk.cell (unhide S6).2.2.2.1 0
 have r1 : w6.cell? ⟨w.heap.size + 1, 1, none⟩ = some (.int .i64 0) := Blk.cell (unhide S6).2.2.2.1 1
 have r2 : w6.cell? ⟨w.heap.size + 1, 2, none⟩ = some (.slice none 0 0) := Blk.cell (unhide S6).2.2.2.1 2
 have f := Blk.free (unhide S6).2.2.2.1
 have lr := Blk.lt (unhide S6).2.2.2.1
 refine step_G (i := 10) (by kernel_rfl) (fun K hK => ?_)
 refine wpOp_of rfl rfl ?_
 unfold Oper.wp
 go_simp
 have PM := hide (putM (unhide S6).2.2.2.1 (.int .i64 n) (.int .i64 n) (.slice a6 nn c6))
 have hHeldE : (((w6.setCell ⟨w.heap.size + 1, 0, none⟩ (.int .i64 n)).setCell ⟨w.heap.size + 1, 1, none⟩ (.int .i64 n)).setCell ⟨w.heap.size + 1, 2, none⟩ (.slice a6 nn c6)).cell? ⟨w.heap.size, 0, none⟩ = some (.int .i64 m.N) ∧ (((w6.setCell ⟨w.heap.size + 1, 0, none⟩ (.int .i64 n)).setCell ⟨w.heap.size + 1, 1, none⟩ (.int .i64 n)).setCell ⟨w.heap.size + 1, 2, none⟩ (.slice a6 nn c6)).cell? ⟨w.heap.size, 1, none⟩ = some (.slice m.A.ao m.A.len m.A.cap) ∧ (((w6.setCell ⟨w.heap.size + 1, 0, none⟩ (.int .i64 n)).setCell ⟨w.heap.size + 1, 1, none⟩ (.int .i64 n)).setCell ⟨w.heap.size + 1, 2, none⟩ (.slice a6 nn c6)).cell? ⟨w.heap.size, 2, none⟩ = some (.slice m.Q.ao m.Q.len m.Q.cap) ∧ (((w6.setCell ⟨w.heap.size + 1, 0, none⟩ (.int .i64 n)).setCell ⟨w.heap.size + 1, 1, none⟩ (.int .i64 n)).setCell ⟨w.heap.size + 1, 2, none⟩ (.slice a6 nn c6)).cell? ⟨w.heap.size, 3, none⟩ = some (.int .i64 m.tick) ∧ (((w6.setCell ⟨w.heap.size + 1, 0, none⟩ (.int .i64 n)).setCell ⟨w.heap.size + 1, 1, none⟩ (.int .i64 n)).setCell ⟨w.heap.size + 1, 2, none⟩ (.slice a6 nn c6)).cell? ⟨w.heap.size, 4, none⟩ = some (.int .i64 m.gate) ∧ (((w6.setCell ⟨w.heap.size + 1, 0, none⟩ (.int .i64 n)).setCell ⟨w.heap.size + 1, 1, none⟩ (.int .i64 n)).setCell ⟨w.heap.size + 1, 2, none⟩ (.slice a6 nn c6)).cell? ⟨w.heap.size, 5, none⟩ = some (.int .i64 m.rmin) ∧ (((w6.setCell ⟨w.heap.size + 1, 0, none⟩ (.int .i64 n)).setCell ⟨w.heap.size + 1, 1, none⟩ (.int .i64 n)).setCell ⟨w.heap.size + 1, 2, none⟩ (.slice a6 nn c6)).cell? ⟨w.heap.size, 6, none⟩ = some (.slice m.ro m.rl m.rc) := (Blk.keep (unhide S6).2.2.1 (unhide PM).2 (by omega)).cellsM
 generalize (((w6.setCell ⟨w.heap.size + 1, 0, none⟩ (.int .i64 n)).setCell ⟨w.heap.size + 1, 1, none⟩ (.int .i64 n)).setCell ⟨w.heap.size + 1, 2, none⟩ (.slice a6 nn c6)) = wE at *
 refine hK _ _ (fun _ => hHeldE) ?_
 clear hK K hHeld hHeldE r0 r1 r2 f
 (try simp only [Act.put, List.setIfInBounds_toArray, List.set_cons_zero, List.set_cons_succ])
 refine step_G (i := 11) (by kernel_rfl) (fun K hK => ?_)
 refine wpOp_of rfl rfl ?_
 unfold Oper.wp
 go_simp
 refine hK _ _ (fun h => absurd rfl h) ?_
 clear hK K
 (try simp only [Act.put, List.setIfInBounds_toArray, List.set_cons_zero, List.set_cons_succ])
 refine done_G (by kernel_rfl) ?_
 refine noPanic_normalE ?_
 go_wp2
 have P := unhide PM
 have c0' : wE.cell? ⟨w.heap.size + 1, 0, none⟩ = some (.int .i64 n) := Blk.cell P.1 0
 have c1' : wE.cell? ⟨w.heap.size + 1, 1, none⟩ = some (.int .i64 n) := Blk.cell P.1 1
 have c2' : wE.cell? ⟨w.heap.size + 1, 2, none⟩ = some (.slice a6 nn c6) := Blk.cell P.1 2
 refine bodyPost_ret (v := .tuple #[.agg #[.int .i64 n, .int .i64 n, .slice a6 nn c6], .int .i64 0]) (by simp [results, Tryz.results15, go_sem, c0', c1', c2']) rfl ?_
 obtain ⟨⟨cnt, q1, q2, hu⟩, s2, s3, s4, s5, s6, s7⟩ := unhide S6
 have lw := (unhide lU).1
 exact ⟨a6, c6, B6, rfl, s5, by omega, s7.imp id (fun ⟨e, ow⟩ => ⟨e, ow.mk (Mk.of P.2) (by omega)⟩), ⟨cnt, by omega, by omega, Blk.keep hu P.2 (by omega)⟩, s2.new P.2 (by omega)⟩
theorem moAtGain (U n nn k : Nat) (c1 : Bool) (cnt t : Int) (hcnt : 0 ≤ cnt ∧ cnt < 1000000000000000000) (ht : I64 t) (hn : 1 ≤ n ∧ n ≤ 12) (hnn : n * n = nn) (hk : k ≤ 24) (T : Nat → Nat → Int) (IT : ∀ i p, p < nn → I64 (T i p)) (base : Nat) (v : Value) (l : List MV) (hl : l.length = k + 1) (w : World) (h : UC U c1 cnt w) (hD : GTl base n nn T v l w) (hR : U < base) :
  Calls Tryz.prog 42 #[.pointer (some ⟨U, 0, none⟩), v, .int .i64 t] w fun e w' => ValP n n nn (horZ T k t k) 0 (fun w' => UW U (c1 || horC T k t nn k) cnt 100000 w' ∧ Mk U w w') w e w' := by
 obtain ⟨ao, cap, e, hM, hc, hoff⟩ := hD.1.mats
 rw [hl] at e hM hc
 subst e
 have at' : ∀ i, i ≤ k → ∃ B cp, ixM l i = GTx n nn T i B cp ∧ nn ≤ cp ∧ base ≤ B ∧ Own B nn (T i) w := fun i hi => gtl_at hD (by omega)
 have hZ : ∀ i, i ≤ k → ∀ p, p < nn → (ixM l i).Z p = T i p := fun i hi p _ => by
  obtain ⟨B, cp, e, _⟩ := at' i hi
  rw [e]
  rfl
 have hX : ∀ i, i ≤ k → (ixM l i).R = n ∧ (ixM l i).C = n ∧ (ixM l i).len = nn := fun i hi => by
  obtain ⟨B, cp, e, _⟩ := at' i hi
  rw [e]
  exact ⟨rfl, rfl, rfl⟩
 have hc' := hor_congr (fun i => (ixM l i).Z) T k t nn hZ k
 have ho := hoff U hR
 rw [hl] at ho
 refine (polyAt_ok U n n nn k cap ao c1 cnt t hcnt ht hn hn hnn hk hc (ixM l) hX (fun i hi j hj => ?_) w h hM (fun i hi => ?_) (fun i hi => ?_) ho).mono ?_
 ·rw [hZ i hi j hj]
  exact IT i j hj
 ·obtain ⟨B, cp, e, _, _, ho⟩ := at' i hi
  rw [e]
  exact ho.row
 ·obtain ⟨B, cp, e, _, hb, _⟩ := at' i hi
  rw [e]
  intro _ a ha
  cases ha
  show B ≠ U
  omega
 ·rintro e w6 ⟨a6, c6, B6, rfl, h2, h3, h4, ⟨c', r1, r2, hu6⟩, h6⟩
  exact ⟨a6, c6, B6, rfl, h2, h3, h4.imp id (fun ⟨e, ow⟩ => ⟨e, ow.congr (fun p hp => hc'.1 p hp)⟩), ⟨c', r1, r2, by rw [← hc'.2]; exact hu6⟩, h6⟩
set_option maxRecDepth 20000 in
set_option maxHeartbeats 8000000 in
theorem moNoise_ok (U : Nat) (c0 : Bool) (n0 : Int) (hn0 : 0 ≤ n0 ∧ n0 < 10000000000000000) (m : DV) (n : Nat) (eN : m.N = n) (ticks : Int) (hI : I64 ticks) (w : World) (hm : ∀ W, Mk U w W → m.good W) (oa : Off U m.A.len m.A.ao) (oq : Off U m.Q.len m.Q.ao) (e0 : rfL m ticks 0 = 0) (h : UC U c0 n0 w) :
  Calls Tryz.prog 17 #[.pointer (some ⟨U, 0, none⟩), .agg m.cells, .int .i64 ticks] w fun e w' => ValP n n (n * n) (noiseZ m.A.Z m.Q.Z n (spanZ ticks m.tick)) 0 (fun w' => UW U (c0 || spanC ticks m.tick || noiseC m.A.Z m.Q.Z n (spanZ ticks m.tick)) n0 300000 w' ∧ Mk U w w') w e w' := by
 obtain ⟨nn, hnn⟩ : ∃ nn, n * n = nn := ⟨_, rfl⟩
 have hok := (rfL_ok e0).1
 have hg := hm w (Mk.refl _ _)
 obtain ⟨n', e', hn, hal, hql, hnn2, hup⟩ := okD_nat hok
 obtain rfl : n' = n := Int.ofNat.inj (e'.symm.trans eN)
 rw [hnn] at hal hnn2
 obtain ⟨ab, ao, ea, za⟩ := hg.1.1.some (by omega)
 have hcap : nn ≤ m.A.cap := by have := hg.1.2.1.1; omega
 have IA : ∀ j, j < nn → I64 (m.A.Z j) := fun j hj => hg.1.2.2 j (by omega)
 have hT : I64 m.tick := hg.2.2.2.2.2.1.2.1
 have abU : ab ≠ U := oa (by omega) _ ea
 have HN : Hid ((1 ≤ n' ∧ n' ≤ 6) ∧ n' * n' = nn ∧ (1 ≤ nn ∧ nn ≤ 36)) := ⟨hn, hnn, hnn2⟩
 have S0 : Hid (Grown w ((w.alloc (.cells #[.int .i64 m.N, .slice m.A.ao m.A.len m.A.cap, .slice m.Q.ao m.Q.len m.Q.cap, .int .i64 m.tick, .int .i64 m.gate, .int .i64 m.rmin, .slice m.ro m.rl m.rc] 25)).alloc (.cells #[.int .i64 0, .int .i64 0, .slice none 0 0] 38)) ∧ Blk w.heap.size m.cells 25 ((w.alloc (.cells #[.int .i64 m.N, .slice m.A.ao m.A.len m.A.cap, .slice m.Q.ao m.Q.len m.Q.cap, .int .i64 m.tick, .int .i64 m.gate, .int .i64 m.rmin, .slice m.ro m.rl m.rc] 25)).alloc (.cells #[.int .i64 0, .int .i64 0, .slice none 0 0] 38)) ∧ Blk (w.heap.size + 1) #[.int .i64 0, .int .i64 0, .slice none 0 0] 38 ((w.alloc (.cells #[.int .i64 m.N, .slice m.A.ao m.A.len m.A.cap, .slice m.Q.ao m.Q.len m.Q.cap, .int .i64 m.tick, .int .i64 m.gate, .int .i64 m.rmin, .slice m.ro m.rl m.rc] 25)).alloc (.cells #[.int .i64 0, .int .i64 0, .slice none 0 0] 38))) := ⟨((Grown.refl _).alloc _ _).alloc _ _, Blk.grown (Blk.new w _ _) ((Grown.refl _).alloc _ _), blk_new2 w _ _ _⟩
 have lU : Hid (U < w.heap.size ∧ 0 ≤ n0 ∧ n0 < 10000000000000000) := ⟨Blk.lt h, hn0⟩
 have RF : Hid (∀ W, Grown w W → Calls Tryz.prog 33 #[.pointer (some ⟨U, 0, none⟩), .agg #[.int .i64 m.N, .slice m.A.ao m.A.len m.A.cap, .slice m.Q.ao m.Q.len m.Q.cap, .int .i64 m.tick, .int .i64 m.gate, .int .i64 m.rmin, .slice m.ro m.rl m.rc], .int .i64 ticks, .int .i64 0] W fun e w' => e = .returned (.int .i64 0) ∧ UC U c0 n0 w' ∧ Mk U W w') := fun W g => by
  have := moRefuse U c0 n0 ⟨by omega, by omega⟩ m ticks 0 W (fun W' k => hm W' ((Mk.kp (Kp.of g)).trans k)) (Blk.grown h g)
  rwa [e0] at this
 have eM : (#[.int .i64 m.N, .slice m.A.ao m.A.len m.A.cap, .slice m.Q.ao m.Q.len m.Q.cap, .int .i64 m.tick, .int .i64 m.gate, .int .i64 m.rmin, .slice m.ro m.rl m.rc] : Array Value) = #[.int .i64 n', .slice (some ⟨ab, ao, none⟩) nn m.A.cap, .slice m.Q.ao n' m.Q.cap, .int .i64 m.tick, .int .i64 m.gate, .int .i64 m.rmin, .slice m.ro m.rl m.rc] := by rw [eN, ea, hal, hql]
 obtain ⟨k, hk⟩ : ∃ k, 2 * n' - 2 = k := ⟨_, rfl⟩
 have IQ : ∀ i, i < n' → I64 (m.Q.Z i) := fun i hi => hg.2.1.2.2 i (by omega)
 have SP : Hid (∀ W, UC U c0 n0 W → Calls Tryz.prog 34 #[.pointer (some ⟨U, 0, none⟩), .agg #[.int .i64 m.N, .slice m.A.ao m.A.len m.A.cap, .slice m.Q.ao m.Q.len m.Q.cap, .int .i64 m.tick, .int .i64 m.gate, .int .i64 m.rmin, .slice m.ro m.rl m.rc], .int .i64 ticks] W fun e w' => e = .returned (.int .i64 (spanZ ticks m.tick)) ∧ UC U (c0 || spanC ticks m.tick) (n0 + 3) w' ∧ Mod U W w') := fun W u => moSpan U c0 n0 ⟨by omega, by omega⟩ m ticks hI hT W u
 have CO : Hid (∀ W, Mk U w W → UC U (c0 || spanC ticks m.tick) (n0 + 3) W → Calls Tryz.prog 43 #[.pointer (some ⟨U, 0, none⟩), .agg #[.int .i64 m.N, .slice m.A.ao m.A.len m.A.cap, .slice m.Q.ao m.Q.len m.Q.cap, .int .i64 m.tick, .int .i64 m.gate, .int .i64 m.rmin, .slice m.ro m.rl m.rc]] W fun e w' => UpP U n' nn (c0 || spanC ticks m.tick) (n0 + 3) (gainZ m.A.Z m.Q.Z n') (gainC m.A.Z m.Q.Z n') k W e w') := fun W km u => by
  rw [eM]
  refine moCoef U n' nn k ab ao m.Q.ao m.ro m.A.cap m.Q.cap m.rl m.rc m.tick m.gate m.rmin m.A.Z m.Q.Z _ (n0 + 3) ⟨by omega, by omega⟩ hn hnn hk hcap IA IQ W u (fun i hi => km.cell (za i (by omega)) abU) ?_ ?_
  ·have : Row W m.Q.ao m.Q.len m.Q.Z := (hm W km).2.1.1
   rwa [hql] at this
  ·rwa [hql] at oq
 have IT : Hid (∀ i p, p < nn → I64 (gainZ m.A.Z m.Q.Z n' i p)) := fun i p hp => gainZ_I64 _ _ n' IQ i p (by rw [hnn]; exact hp)
 have HK : Hid (k ≤ 24) := by unfold Hid; omega
 have IS : Hid (I64 (spanZ ticks m.tick)) := spanZ_I64 _ _
 have EF : noiseZ m.A.Z m.Q.Z n' (spanZ ticks m.tick) = fun p => m2N (horZ (gainZ m.A.Z m.Q.Z n') k (spanZ ticks m.tick) k p) (spanZ ticks m.tick) := by rw [← hk]; rfl
 have EC : noiseC m.A.Z m.Q.Z n' (spanZ ticks m.tick) = (gainC m.A.Z m.Q.Z n' k || horC (gainZ m.A.Z m.Q.Z n') k (spanZ ticks m.tick) nn k || orC (fun p => m2C (horZ (gainZ m.A.Z m.Q.Z n') k (spanZ ticks m.tick) k p) (spanZ ticks m.tick)) nn) := by rw [← hk, ← hnn]; rfl
 rw [hnn, EF, EC]
 clear hm oa oq e0 h hn0 hI hok hg e' hn hal hql hnn2 hup za ea hcap IA IQ hT abU eM eN hnn hk EF EC
 generalize n' = n at *
 generalize gainZ m.A.Z m.Q.Z n = TT at *
 generalize gainC m.A.Z m.Q.Z n = CC at *
 generalize spanZ ticks m.tick = sp at *
 generalize (c0 || spanC ticks m.tick) = c1 at *
 obtain ⟨y0, y1, y2, y3, y4, y5, y6⟩ := (unhide S0).2.1.cellsM
 unfold DV.cells
 go_enter Tryz.func17, Tryz.ntmps17
 go_wp2_with fail
 generalize ((w.alloc (.cells #[.int .i64 m.N, .slice m.A.ao m.A.len m.A.cap, .slice m.Q.ao m.Q.len m.Q.cap, .int .i64 m.tick, .int .i64 m.gate, .int .i64 m.rmin, .slice m.ro m.rl m.rc] 25)).alloc (.cells #[.int .i64 0, .int .i64 0, .slice none 0 0] 38)) = w1 at *
 refine (unhide RF w1 (unhide S0).1).mono ?_
 rintro e w2 ⟨rfl, u2, m2⟩
 have lw := (unhide lU).1
 have S2 : Hid (UC U c0 n0 w2 ∧ Mk U w w2 ∧ Blk w.heap.size m.cells 25 w2 ∧ Blk (w.heap.size + 1) #[.int .i64 0, .int .i64 0, .slice none 0 0] 38 w2) := ⟨u2, (Mk.kp (Kp.of (unhide S0).1)).trans m2, Blk.mk (unhide S0).2.1 m2 (by omega), Blk.mk (unhide S0).2.2 m2 (by omega)⟩
 clear u2 m2 S0 RF y0 y1 y2 y3 y4 y5 y6 lw
 obtain ⟨y0, y1, y2, y3, y4, y5, y6⟩ := (unhide S2).2.2.1.cellsM
 go_wp2_with fail
 refine (unhide SP w2 (unhide S2).1).mono ?_
 rintro e w3 ⟨rfl, u3, m3⟩
 have lw := (unhide lU).1
 have S3 : Hid (UC U c1 (n0 + 3) w3 ∧ Mk U w w3 ∧ Blk w.heap.size m.cells 25 w3 ∧ Blk (w.heap.size + 1) #[.int .i64 0, .int .i64 0, .slice none 0 0] 38 w3) := ⟨u3, (unhide S2).2.1.trans (Mk.of m3), Blk.keep (unhide S2).2.2.1 m3 (by omega), Blk.keep (unhide S2).2.2.2 m3 (by omega)⟩
 clear u3 m3 S2 SP y0 y1 y2 y3 y4 y5 y6 lw
 obtain ⟨y0, y1, y2, y3, y4, y5, y6⟩ := (unhide S3).2.2.1.cellsM
 go_wp2_with fail
 refine (unhide CO w3 (unhide S3).2.1 (unhide S3).1).mono ?_
 rintro e w4 ⟨v, l, rfl, hl, hD, ⟨cnt, q1, q2, hu⟩, hmk⟩
 have l3 : U < w3.heap.size := Nat.lt_of_lt_of_le (unhide lU).1 (unhide S3).2.1.2.2.2
 have lu2 := (unhide lU).2
 have hk24 := unhide HK
 have AT := hide (moAtGain U n nn k (c1 || CC k) cnt sp ⟨by omega, by omega⟩ (unhide IS) ⟨(unhide HN).1.1, by have := unhide HN; omega⟩ (unhide HN).2.1 hk24 TT (unhide IT) w3.heap.size v l hl w4 hu hD l3)
 have S4 : Hid (Mk U w w4 ∧ Blk (w.heap.size + 1) #[.int .i64 0, .int .i64 0, .slice none 0 0] 38 w4 ∧ n0 + 3 ≤ cnt ∧ cnt ≤ n0 + 30003) := ⟨(unhide S3).2.1.trans hmk, Blk.mk (unhide S3).2.2.2 hmk (by have := (unhide lU).1; omega), q1, by omega⟩
 clear hl hD q1 q2 hu hmk CO S3 l3 y0 y1 y2 y3 y4 y5 y6 lu2 hk24
 go_wp2_with fail
 refine (unhide AT).mono ?_
 rintro e w5 ⟨a5, p5, B5, rfl, h2, h3, h4, ⟨z, z1, z2, hu5⟩, h6⟩
 have g6 : Grown w5 (w5.alloc (.cells #[.int .i64 n, .int .i64 n, .slice a5 nn p5] 38)) := (Grown.refl _).alloc _ _
 have pb : Blk w5.heap.size #[.int .i64 n, .int .i64 n, .slice a5 nn p5] 38 (w5.alloc (.cells #[.int .i64 n, .int .i64 n, .slice a5 nn p5] 38)) := Blk.new _ _ _
 have x0 : (w5.alloc (.cells #[.int .i64 n, .int .i64 n, .slice a5 nn p5] 38)).cell? ⟨w5.heap.size, 0, none⟩ = some (.int .i64 n) := Blk.cell pb 0
 have x1 : (w5.alloc (.cells #[.int .i64 n, .int .i64 n, .slice a5 nn p5] 38)).cell? ⟨w5.heap.size, 1, none⟩ = some (.int .i64 n) := Blk.cell pb 1
 have x2 : (w5.alloc (.cells #[.int .i64 n, .int .i64 n, .slice a5 nn p5] 38)).cell? ⟨w5.heap.size, 2, none⟩ = some (.slice a5 nn p5) := Blk.cell pb 2
 obtain ⟨rfl, ow5⟩ := h4.resolve_left (by have := unhide HN; omega)
 have lB := (unhide S4).1.2.2.2
 have SC := scaleR U sp (unhide IS) n n ⟨(unhide HN).1.1, by have := unhide HN; omega⟩ ⟨(unhide HN).1.1, by have := unhide HN; omega⟩ (some ⟨B5, 0, none⟩) p5 (horZ TT k sp k) (by rw [(unhide HN).2.1]; exact fun j hj => horZ_I64 TT k sp nn (fun p hp => unhide IT _ p hp) k j hj) (w5.alloc (.cells #[.int .i64 n, .int .i64 n, .slice (some ⟨B5, 0, none⟩) nn p5] 38)) (by rw [(unhide HN).2.1]; exact ⟨(ow5.kp (Kp.of g6)).row, off_blk (by have := unhide lU; omega)⟩) (c1 || CC k || horC TT k sp nn k) z ⟨by have := unhide S4; have := unhide lU; omega, by have := unhide S4; have := unhide lU; omega⟩ (Blk.grown hu5 g6)
 rw [(unhide HN).2.1] at SC
 have HSC := hide SC
 have S6 : Hid (Mk U w (w5.alloc (.cells #[.int .i64 n, .int .i64 n, .slice (some ⟨B5, 0, none⟩) nn p5] 38)) ∧ Blk (w.heap.size + 1) #[.int .i64 0, .int .i64 0, .slice none 0 0] 38 (w5.alloc (.cells #[.int .i64 n, .int .i64 n, .slice (some ⟨B5, 0, none⟩) nn p5] 38)) ∧ n0 ≤ z ∧ z ≤ n0 + 130003) := ⟨((unhide S4).1.trans h6).grown g6, Blk.grown (Blk.mk (unhide S4).2.1 h6 (by have := unhide lU; omega)) g6, by have := unhide S4; omega, by have := unhide S4; omega⟩
 clear g6 pb h2 h3 h4 z1 z2 hu5 h6 S4 AT SC ow5 lB
 go_wp2_with fail
 generalize (w5.alloc (.cells #[.int .i64 n, .int .i64 n, .slice (some ⟨B5, 0, none⟩) nn p5] 38)) = w6 at *
 refine (unhide HSC).mono ?_
 rintro e w7 ⟨a7, c7, B7, rfl, h2, h3, h4, hu7, h7⟩
 have lw := (unhide lU).1
 have r6 := Blk.mk (unhide S6).2.1 h7 (by omega)
 have M7 : Mk U w w7 := (unhide S6).1.trans h7
 have e0 : w7.cell? ⟨w.heap.size + 1, 0, none⟩ = some (.int .i64 0) := Blk.cell r6 0
 have e1 : w7.cell? ⟨w.heap.size + 1, 1, none⟩ = some (.int .i64 0) := Blk.cell r6 1
 have e2 : w7.cell? ⟨w.heap.size + 1, 2, none⟩ = some (.slice none 0 0) := Blk.cell r6 2
 have f := Blk.free r6
 have l5 := Blk.lt (unhide S6).2.1
 have RR := hide (And.intro h2 (And.intro h3 (And.intro h4 (And.intro hu7 (And.intro M7 (And.intro r6 (And.intro l5 (unhide S6).2.2)))))))
 clear h2 h3 h4 hu7 h7 r6 M7 HSC S6 l5 x0 x1 x2 lw
 go_wp2
 obtain ⟨h2, h3, h4, hu7, M7, r6, l5, z12⟩ := unhide RR
 have P := putM r6 (.int .i64 n) (.int .i64 n) (.slice a7 nn c7)
 generalize (((w7.setCell ⟨w.heap.size + 1, 0, none⟩ (.int .i64 n)).setCell ⟨w.heap.size + 1, 1, none⟩ (.int .i64 n)).setCell ⟨w.heap.size + 1, 2, none⟩ (.slice a7 nn c7)) = wE at *
 have c0' : wE.cell? ⟨w.heap.size + 1, 0, none⟩ = some (.int .i64 n) := Blk.cell P.1 0
 have c1' : wE.cell? ⟨w.heap.size + 1, 1, none⟩ = some (.int .i64 n) := Blk.cell P.1 1
 have c2' : wE.cell? ⟨w.heap.size + 1, 2, none⟩ = some (.slice a7 nn c7) := Blk.cell P.1 2
 refine bodyPost_ret (v := .tuple #[.agg #[.int .i64 n, .int .i64 n, .slice a7 nn c7], .int .i64 0]) (by simp [results, Tryz.results17, go_sem, c0', c1', c2']) rfl ?_
 have lw := (unhide lU).1
 have hN := unhide HN
 refine ⟨a7, c7, B7, rfl, h4, by omega, h3.imp id (fun ⟨e, bk⟩ => ⟨e, Own.of (Blk.keep bk P.2 (by omega))⟩), ⟨z + 2 * nn, by omega, by omega, ?_⟩, M7.new P.2 (by omega)⟩
 rw [← Bool.or_assoc, ← Bool.or_assoc]
 exact Blk.keep hu7 P.2 (by omega)
end Go.Proofs.YtjobgjcfkomhpaaGreat
namespace Go.Proofs.Wd
theorem add_half (h k : Int) (h1 : -4294967295 ≤ h ∧ h ≤ 4294967295) (h2 : -4294967295 ≤ k ∧ k ≤ 4294967295) (h3 : -4294967295 ≤ h + k ∧ h + k ≤ 4294967295) : addN (h * 2147483648) (k * 2147483648) = (h + k) * 2147483648 ∧ addC (h * 2147483648) (k * 2147483648) = false := by
 have e1 := fx_all _ (half_Fx h h1)
 have e2 := fx_all _ (half_Fx k h2)
 have e3 := fx_all _ (half_Fx (h + k) h3)
 unfold addN addC cutB
 rw [e1.1, e2.1, ← Int.add_mul, e3.2.1, e3.2.2.1, e1.2.2.2, e2.2.2.2]
 exact ⟨rfl, rfl⟩
theorem mul_half2 (h y : Int) (h1 : -4294967295 ≤ h ∧ h ≤ 4294967295) (h2 : -2147483647 ≤ y ∧ y ≤ 2147483647) (h3 : -4294967295 ≤ y * h ∧ y * h ≤ 4294967295) : mulN (y * 4294967296) (h * 2147483648) = y * h * 2147483648 ∧ mulC (y * 4294967296) (h * 2147483648) = false := by
 have e1 := fx_all _ (half_Fx h h1)
 have e2 := fx_all _ (whole_fx y h2)
 have e3 := fx_all _ (half_Fx (y * h) h3)
 have e4 : rdiv (y * 4294967296 * (h * 2147483648)) 4294967296 = y * h * 2147483648 := by
  have := rdiv_mul (y * h * 2147483648) 4294967296 (by omega)
  rwa [show y * h * 2147483648 * 4294967296 = y * 4294967296 * (h * 2147483648) by grind] at this
 unfold mulN mulC cutB
 rw [e1.1, e2.1, e4, e3.2.1, e3.2.2.1, e1.2.2.2, e2.2.2.2]
 exact ⟨rfl, rfl⟩
theorem dot_two (X Y : Nat → Int) (a b : Int) (ha : -1000000000 ≤ a ∧ a ≤ 1000000000) (hb : -1000000000 ≤ b ∧ b ≤ 1000000000) (h0 : mulN (X 0) (Y 0) = a * 2147483648 ∧ mulC (X 0) (Y 0) = false) (h1 : mulN (X 1) (Y 1) = b * 2147483648 ∧ mulC (X 1) (Y 1) = false) :
  dotN X Y 2 = (a + b) * 2147483648 ∧ dotC X Y 2 = false := by
 have z := add_half 0 a (by omega) (by omega) (by omega)
 have y := add_half a b (by omega) (by omega) (by omega)
 rw [Int.zero_mul, Int.zero_add] at z
 have e : dotN X Y 1 = a * 2147483648 := by
  show addN 0 (mulN (X 0) (Y 0)) = _
  rw [h0.1, z.1]
 refine ⟨?_, ?_⟩
 ·show addN (dotN X Y 1) (mulN (X 1) (Y 1)) = _
  rw [e, h1.1, y.1]
 ·show ((false || mulC (X 0) (Y 0) || addC 0 (mulN (X 0) (Y 0))) || mulC (X 1) (Y 1) || addC (dotN X Y 1) (mulN (X 1) (Y 1))) = false
  rw [e, h0.1, h0.2, h1.1, h1.2, z.2, y.2]
  rfl
def mw (x y : Nat → Int) : Nat → Int := fun p => x (p / 2 * 2) * y (p % 2) + x (p / 2 * 2 + 1) * y (2 + p % 2)
def small (x : Nat → Int) (most : Int) : Prop := ∀ p, p < 4 → -most ≤ x p ∧ x p ≤ most
theorem mat_wh (X Y x y : Nat → Int) (P Q : Int) (hX : ∀ p, p < 4 → X p = x p * 4294967296) (hY : ∀ p, p < 4 → Y p = y p * 2147483648) (bx : small x P) (by' : small y Q) (hP : P ≤ 1000000) (hQ : Q ≤ 1000000000) (hPQ : P * Q ≤ 1000000000) :
  ∀ p, p < 4 → mulZ X Y 2 2 p = mw x y p * 2147483648 ∧ mulG X Y 2 2 p = false := fun p hp => by
 have hq : p / 2 * 2 < 4 ∧ p / 2 * 2 + 1 < 4 ∧ p % 2 < 4 ∧ 2 + p % 2 < 4 := by omega
 have key : ∀ i j, i < 4 → j < 4 → mulN (X i) (Y j) = x i * y j * 2147483648 ∧ mulC (X i) (Y j) = false ∧ -1000000000 ≤ x i * y j ∧ x i * y j ≤ 1000000000 := fun i j hi hj => by
  have b1 := bx i hi
  have b2 := by' j hj
  have b3 := mul_bound (x i) (y j) P Q b1 b2
  have m := mul_half2 (y j) (x i) (by omega) (by omega) (by omega)
  rw [hX i hi, hY j hj]
  exact ⟨m.1, m.2, by omega, by omega⟩
 have k0 := key (p / 2 * 2) (p % 2) hq.1 hq.2.2.1
 have k1 := key (p / 2 * 2 + 1) (2 + p % 2) hq.2.1 hq.2.2.2
 refine dot_two (rowZ X 2 (p / 2)) (colZ Y 2 (p % 2)) _ _ ⟨k0.2.2.1, k0.2.2.2⟩ ⟨k1.2.2.1, k1.2.2.2⟩ ?_ ?_
 ·show mulN (X (p / 2 * 2 + 0)) (Y (0 * 2 + p % 2)) = _ ∧ mulC (X (p / 2 * 2 + 0)) (Y (0 * 2 + p % 2)) = false
  rw [Nat.add_zero, Nat.zero_mul, Nat.zero_add]
  exact ⟨k0.1, k0.2.1⟩
 ·show mulN (X (p / 2 * 2 + 1)) (Y (1 * 2 + p % 2)) = _ ∧ mulC (X (p / 2 * 2 + 1)) (Y (1 * 2 + p % 2)) = false
  rw [Nat.one_mul]
  exact ⟨k1.1, k1.2.1⟩
theorem four {p : Nat} (h : p < 4) : p = 0 ∨ p = 1 ∨ p = 2 ∨ p = 3 := by omega
theorem ev_half (X x : Nat → Int) (hX : ∀ p, p < 4 → X p = x p * 2147483648) (bx : small x 1000000000) : ∀ p, p < 4 → evZ X 2 p = (x p + x (p % 2 * 2 + p / 2)) * 2147483648 ∧ evG X 2 p = false := fun p hp => by
 have hq : p % 2 * 2 + p / 2 < 4 := by omega
 have b1 := bx p hp
 have b2 := bx _ hq
 have s := s2_half (x p) (x (p % 2 * 2 + p / 2)) (by omega) (by omega) (by omega)
 unfold evZ evG turnZ
 rw [hX p hp, hX _ hq]
 exact s
def moA (a : Int) : Nat → Int := fun p => if p = 1 then a else 0
def moQ (q g : Int) : Nat → Int := fun i => if i = 0 then q * 4294967296 else 3 * g * 4294967296
def g0 (q g : Int) : Nat → Int := fun p => if p = 0 then 2 * q else if p = 3 then 6 * g else 0
def g1 (u : Int) : Nat → Int := fun p => if p = 1 ∨ p = 2 then 3 * u else 0
def g2 (v : Int) : Nat → Int := fun p => if p = 0 then 2 * v else 0
theorem gain_zero (a q g : Int) (p : Nat) (hp : p < 4) : gainZ (WZ (moA a)) (moQ q g) 2 0 p = g0 q g p * 2147483648 := by
 rcases four hp with rfl | rfl | rfl | rfl <;> simp [gainZ, diagZ, moQ, g0] <;> omega
theorem gain_one (a q g : Int) (ha : -4 ≤ a ∧ a ≤ 4) (hq : 0 ≤ q ∧ q ≤ 16) (hg : 0 ≤ g ∧ g ≤ 5) :
  (∀ p, p < 4 → gainZ (WZ (moA a)) (moQ q g) 2 1 p = g1 (a * g) p * 2147483648) ∧ gainC (WZ (moA a)) (moQ q g) 2 1 = false := by
 have u := mul_bound a g 4 5 ha (by omega)
 have X := mat_wh (WZ (moA a)) (gainZ (WZ (moA a)) (moQ q g) 2 0) (moA a) (g0 q g) 4 32 (fun p _ => rfl) (gain_zero a q g) (fun p hp => by unfold moA; split <;> omega) (fun p hp => by unfold g0; split <;> (try split) <;> omega) (by omega) (by omega) (by omega)
 have eX : ∀ p, p < 4 → mw (moA a) (g0 q g) p = if p = 1 then 6 * (a * g) else 0 := fun p hp => by
  rcases four hp with rfl | rfl | rfl | rfl <;> simp [mw, moA, g0]
  grind
 have Y := ev_half _ _ (fun p hp => (X p hp).1) (fun p hp => by rw [eX p hp]; split <;> omega)
 have eY : ∀ p, p < 4 → evZ (mulZ (WZ (moA a)) (gainZ (WZ (moA a)) (moQ q g) 2 0) 2 2) 2 p = g1 (a * g) p * 2147483648 * ((2 : Nat) : Int) := fun p hp => by
  rw [(Y p hp).1, eX p hp, eX _ (by omega)]
  rcases four hp with rfl | rfl | rfl | rfl <;> simp [g1] <;> omega
 have D : ∀ p, p < 4 → divN (g1 (a * g) p * 2147483648 * ((2 : Nat) : Int)) (whoN ((2 : Nat) : Int)) = g1 (a * g) p * 2147483648 ∧ divC (g1 (a * g) p * 2147483648 * ((2 : Nat) : Int)) (whoN ((2 : Nat) : Int)) = false := fun p hp => by
  have b : -60 ≤ g1 (a * g) p ∧ g1 (a * g) p ≤ 60 := by unfold g1; split <;> omega
  exact div_who _ 2 (by omega) (by unfold Fx; omega) (by unfold Fx; omega)
 refine ⟨fun p hp => ?_, ?_⟩
 ·show divN (evZ (mulZ (WZ (moA a)) (gainZ (WZ (moA a)) (moQ q g) 2 0) 2 2) 2 p) (whoN ((2 : Nat) : Int)) = _
  rw [eY p hp, (D p hp).1]
 ·show (false || orC (mulG (WZ (moA a)) (gainZ (WZ (moA a)) (moQ q g) 2 0) 2 2) 4 || orC (evG (mulZ (WZ (moA a)) (gainZ (WZ (moA a)) (moQ q g) 2 0) 2 2) 2) 4 || orC (dvG (evZ (mulZ (WZ (moA a)) (gainZ (WZ (moA a)) (moQ q g) 2 0) 2 2) 2) 2) 4) = false
  rw [orC_of _ 4 (fun p hp => (X p hp).2), orC_of _ 4 (fun p hp => (Y p hp).2), orC_of _ 4 (fun p hp => by
   show (whoC ((2 : Nat) : Int) || divC _ (whoN ((2 : Nat) : Int))) = false
   rw [eY p hp, (D p hp).2, (who_of 2 (by omega)).2]
   rfl)]
  rfl
theorem gain_two (a q g : Int) (ha : -4 ≤ a ∧ a ≤ 4) (hq : 0 ≤ q ∧ q ≤ 16) (hg : 0 ≤ g ∧ g ≤ 5) :
  (∀ p, p < 4 → gainZ (WZ (moA a)) (moQ q g) 2 2 p = g2 (a * (a * g)) p * 2147483648) ∧ gainC (WZ (moA a)) (moQ q g) 2 2 = false := by
 have u := mul_bound a g 4 5 ha (by omega)
 have v := mul_bound a (a * g) 4 20 ha u
 have G := gain_one a q g ha hq hg
 have X := mat_wh (WZ (moA a)) (gainZ (WZ (moA a)) (moQ q g) 2 1) (moA a) (g1 (a * g)) 4 60 (fun p _ => rfl) G.1 (fun p hp => by unfold moA; split <;> omega) (fun p hp => by unfold g1; split <;> omega) (by omega) (by omega) (by omega)
 have eX : ∀ p, p < 4 → mw (moA a) (g1 (a * g)) p = if p = 0 then 3 * (a * (a * g)) else 0 := fun p hp => by
  rcases four hp with rfl | rfl | rfl | rfl <;> simp [mw, moA, g1]
  grind
 have Y := ev_half _ _ (fun p hp => (X p hp).1) (fun p hp => by rw [eX p hp]; split <;> omega)
 have eY : ∀ p, p < 4 → evZ (mulZ (WZ (moA a)) (gainZ (WZ (moA a)) (moQ q g) 2 1) 2 2) 2 p = g2 (a * (a * g)) p * 2147483648 * ((3 : Nat) : Int) := fun p hp => by
  rw [(Y p hp).1, eX p hp, eX _ (by omega)]
  rcases four hp with rfl | rfl | rfl | rfl <;> simp [g2] <;> omega
 have D : ∀ p, p < 4 → divN (g2 (a * (a * g)) p * 2147483648 * ((3 : Nat) : Int)) (whoN ((3 : Nat) : Int)) = g2 (a * (a * g)) p * 2147483648 ∧ divC (g2 (a * (a * g)) p * 2147483648 * ((3 : Nat) : Int)) (whoN ((3 : Nat) : Int)) = false := fun p hp => by
  have b : -160 ≤ g2 (a * (a * g)) p ∧ g2 (a * (a * g)) p ≤ 160 := by unfold g2; split <;> omega
  exact div_who _ 3 (by omega) (by unfold Fx; omega) (by unfold Fx; omega)
 refine ⟨fun p hp => ?_, ?_⟩
 ·show divN (evZ (mulZ (WZ (moA a)) (gainZ (WZ (moA a)) (moQ q g) 2 1) 2 2) 2 p) (whoN ((3 : Nat) : Int)) = _
  rw [eY p hp, (D p hp).1]
 ·show (gainC (WZ (moA a)) (moQ q g) 2 1 || orC (mulG (WZ (moA a)) (gainZ (WZ (moA a)) (moQ q g) 2 1) 2 2) 4 || orC (evG (mulZ (WZ (moA a)) (gainZ (WZ (moA a)) (moQ q g) 2 1) 2 2) 2) 4 || orC (dvG (evZ (mulZ (WZ (moA a)) (gainZ (WZ (moA a)) (moQ q g) 2 1) 2 2) 2) 3) 4) = false
  rw [G.2, orC_of _ 4 (fun p hp => (X p hp).2), orC_of _ 4 (fun p hp => (Y p hp).2), orC_of _ 4 (fun p hp => by
   show (whoC ((3 : Nat) : Int) || divC _ (whoN ((3 : Nat) : Int))) = false
   rw [eY p hp, (D p hp).2, (who_of 3 (by omega)).2]
   rfl)]
  rfl
def nz (q g u v y : Int) : Nat → Int := fun p => if p = 0 then 2 * v * y * y * y + 2 * q * y else if p = 1 ∨ p = 2 then 3 * u * y * y else 6 * g * y
theorem noise_half (a q g y : Int) (ha : -4 ≤ a ∧ a ≤ 4) (hq : 0 ≤ q ∧ q ≤ 16) (hg : 0 ≤ g ∧ g ≤ 5) (hy : 0 ≤ y ∧ y ≤ 80) :
  (∀ p, p < 4 → noiseZ (WZ (moA a)) (moQ q g) 2 (y * 4294967296) p = nz q g (a * g) (a * (a * g)) y p * 2147483648) ∧ noiseC (WZ (moA a)) (moQ q g) 2 (y * 4294967296) = false := by
 have bu := mul_bound a g 4 5 ha (by omega)
 have bv := mul_bound a (a * g) 4 20 ha bu
 have G1 := gain_one a q g ha hq hg
 have G2 := gain_two a q g ha hq hg
 have G0 := gain_zero a q g
 generalize a * (a * g) = v at *
 generalize a * g = u at *
 obtain ⟨x, hx⟩ : ∃ x : Nat → Nat → Int, x = fun i => if i = 0 then g0 q g else if i = 1 then g1 u else g2 v := ⟨_, rfl⟩
 have x0 : x 0 = g0 q g := by rw [hx]; rfl
 have x1 : x 1 = g1 u := by rw [hx]; rfl
 have x2 : x 2 = g2 v := by rw [hx]; rfl
 have hX : ∀ i, i ≤ 2 → ∀ p, p < 4 → gainZ (WZ (moA a)) (moQ q g) 2 i p = x i p * 2147483648 := fun i hi p hp => by
  rcases (show i = 0 ∨ i = 1 ∨ i = 2 by omega) with rfl | rfl | rfl
  ·rw [x0]; exact G0 p hp
  ·rw [x1]; exact G1.1 p hp
  ·rw [x2]; exact G2.1 p hp
 have hb : ∀ i, i ≤ 2 → ∀ p, p < 4 → -160 ≤ x i p ∧ x i p ≤ 160 := fun i hi p hp => by
  rcases (show i = 0 ∨ i = 1 ∨ i = 2 by omega) with rfl | rfl | rfl
  ·rw [x0]; unfold g0; split <;> (try split) <;> omega
  ·rw [x1]; unfold g1; split <;> omega
  ·rw [x2]; unfold g2; split <;> omega
 have h0 : ∀ p, hH x 2 y 0 p = x 2 p := fun _ => rfl
 have h1 : ∀ p, hH x 2 y 1 p = x 2 p * y + x 1 p := fun _ => rfl
 have h2 : ∀ p, hH x 2 y 2 p = (x 2 p * y + x 1 p) * y + x 0 p := fun _ => rfl
 have yb : -80 ≤ y ∧ y ≤ 80 := by omega
 have B : ∀ k, k ≤ 2 → ∀ p, p < 4 → (-1000000000 ≤ hH x 2 y k p ∧ hH x 2 y k p ≤ 1000000000) ∧ -1000000000 ≤ hH x 2 y k p * y ∧ hH x 2 y k p * y ≤ 1000000000 := fun k hk p hp => by
  have c0 := hb 0 (by omega) p hp
  have c1 := hb 1 (by omega) p hp
  have c2 := hb 2 (by omega) p hp
  have m0 := mul_bound (x 2 p) y 160 80 c2 yb
  have m1 := mul_bound (x 2 p * y + x 1 p) y 12960 80 (by omega) yb
  have m2 := mul_bound ((x 2 p * y + x 1 p) * y + x 0 p) y 1036960 80 (by omega) yb
  rcases (show k = 0 ∨ k = 1 ∨ k = 2 by omega) with rfl | rfl | rfl
  ·rw [h0]; omega
  ·rw [h1]; omega
  ·rw [h2]; omega
 obtain ⟨r1, r2⟩ := hor_half (gainZ (WZ (moA a)) (moQ q g) 2) x 2 4 y (by omega) hX (fun i hi p hp => by have := hb i hi p hp; omega) B 2 (Nat.le_refl _)
 have fin : ∀ p, p < 4 → m2N (horZ (gainZ (WZ (moA a)) (moQ q g) 2) 2 (y * 4294967296) 2 p) (y * 4294967296) = hH x 2 y 2 p * y * 2147483648 ∧ m2C (horZ (gainZ (WZ (moA a)) (moQ q g) 2) 2 (y * 4294967296) 2 p) (y * 4294967296) = false := fun p hp => by
  have b := B 2 (Nat.le_refl _) p hp
  rw [r1 p hp]
  exact m2_half _ y (by omega) (by omega) (by omega)
 refine ⟨fun p hp => ?_, ?_⟩
 ·show m2N (horZ (gainZ (WZ (moA a)) (moQ q g) 2) 2 (y * 4294967296) 2 p) (y * 4294967296) = _
  rw [(fin p hp).1, h2, x0, x1, x2]
  refine congrArg (fun z : Int => z * 2147483648) ?_
  rcases four hp with rfl | rfl | rfl | rfl <;> simp [g0, g1, g2, nz] <;> grind
 ·unfold noiseC
  simp only [show 2 * 2 - 2 = 2 from rfl, show 2 * 2 = 4 from rfl]
  rw [G2.2, r2, orC_of _ 4 (fun p hp => (fin p hp).2)]
  rfl
def m4 (a b c d : Int) : Nat → Int := fun p => if p = 0 then a else if p = 1 then b else if p = 2 then c else d
theorem m4_at (a b c d : Int) : m4 a b c d 0 = a ∧ m4 a b c d 1 = b ∧ m4 a b c d 2 = c ∧ m4 a b c d 3 = d := ⟨rfl, rfl, rfl, rfl⟩
def bd (x : Int) : Prop := -1000000000 ≤ x ∧ x ≤ 1000000000
theorem m4_wh (X Y : Nat → Int) (x0 x1 x2 x3 y0 y1 y2 y3 : Int) (hX : ∀ p, p < 4 → X p = m4 x0 x1 x2 x3 p * 4294967296) (hY : ∀ p, p < 4 → Y p = m4 y0 y1 y2 y3 p * 2147483648) (bx : bd x0 ∧ bd x1 ∧ bd x2 ∧ bd x3) (hb : bd y0 ∧ bd y1 ∧ bd y2 ∧ bd y3)
  (h : (bd (x0 * y0) ∧ bd (x1 * y2)) ∧ (bd (x0 * y1) ∧ bd (x1 * y3)) ∧ (bd (x2 * y0) ∧ bd (x3 * y2)) ∧ (bd (x2 * y1) ∧ bd (x3 * y3))) :
  ∀ p, p < 4 → mulZ X Y 2 2 p = m4 (x0 * y0 + x1 * y2) (x0 * y1 + x1 * y3) (x2 * y0 + x3 * y2) (x2 * y1 + x3 * y3) p * 2147483648 ∧ mulG X Y 2 2 p = false := fun p hp => by
 have e0 := hX 0 (by omega)
 have e1 := hX 1 (by omega)
 have e2 := hX 2 (by omega)
 have e3 := hX 3 (by omega)
 have f0 := hY 0 (by omega)
 have f1 := hY 1 (by omega)
 have f2 := hY 2 (by omega)
 have f3 := hY 3 (by omega)
 rw [(m4_at _ _ _ _).1] at e0 f0
 rw [(m4_at _ _ _ _).2.1] at e1 f1
 rw [(m4_at _ _ _ _).2.2.1] at e2 f2
 rw [(m4_at _ _ _ _).2.2.2] at e3 f3
 have one : ∀ x y : Int, bd x → bd y → bd (x * y) → mulN (x * 4294967296) (y * 2147483648) = x * y * 2147483648 ∧ mulC (x * 4294967296) (y * 2147483648) = false := fun x y h1 h2 h3 => by
  unfold bd at h1 h2 h3
  exact mul_half2 y x (by omega) (by omega) (by omega)
 rcases four hp with rfl | rfl | rfl | rfl
 ·exact dot_two (rowZ X 2 0) (colZ Y 2 0) _ _ h.1.1 h.1.2 (by show mulN (X 0) (Y 0) = _ ∧ mulC (X 0) (Y 0) = false; rw [e0, f0]; exact one _ _ bx.1 hb.1 h.1.1) (by show mulN (X 1) (Y 2) = _ ∧ mulC (X 1) (Y 2) = false; rw [e1, f2]; exact one _ _ bx.2.1 hb.2.2.1 h.1.2)
 ·exact dot_two (rowZ X 2 0) (colZ Y 2 1) _ _ h.2.1.1 h.2.1.2 (by show mulN (X 0) (Y 1) = _ ∧ mulC (X 0) (Y 1) = false; rw [e0, f1]; exact one _ _ bx.1 hb.2.1 h.2.1.1) (by show mulN (X 1) (Y 3) = _ ∧ mulC (X 1) (Y 3) = false; rw [e1, f3]; exact one _ _ bx.2.1 hb.2.2.2 h.2.1.2)
 ·exact dot_two (rowZ X 2 1) (colZ Y 2 0) _ _ h.2.2.1.1 h.2.2.1.2 (by show mulN (X 2) (Y 0) = _ ∧ mulC (X 2) (Y 0) = false; rw [e2, f0]; exact one _ _ bx.2.2.1 hb.1 h.2.2.1.1) (by show mulN (X 3) (Y 2) = _ ∧ mulC (X 3) (Y 2) = false; rw [e3, f2]; exact one _ _ bx.2.2.2 hb.2.2.1 h.2.2.1.2)
 ·exact dot_two (rowZ X 2 1) (colZ Y 2 1) _ _ h.2.2.2.1 h.2.2.2.2 (by show mulN (X 2) (Y 1) = _ ∧ mulC (X 2) (Y 1) = false; rw [e2, f1]; exact one _ _ bx.2.2.1 hb.2.1 h.2.2.2.1) (by show mulN (X 3) (Y 3) = _ ∧ mulC (X 3) (Y 3) = false; rw [e3, f3]; exact one _ _ bx.2.2.2 hb.2.2.2 h.2.2.2.2)
theorem m4_hw (X Y : Nat → Int) (x0 x1 x2 x3 y0 y1 y2 y3 : Int) (hX : ∀ p, p < 4 → X p = m4 x0 x1 x2 x3 p * 2147483648) (hY : ∀ p, p < 4 → Y p = m4 y0 y1 y2 y3 p * 4294967296) (bx : bd x0 ∧ bd x1 ∧ bd x2 ∧ bd x3) (hb : bd y0 ∧ bd y1 ∧ bd y2 ∧ bd y3)
  (h : (bd (x0 * y0) ∧ bd (x1 * y2)) ∧ (bd (x0 * y1) ∧ bd (x1 * y3)) ∧ (bd (x2 * y0) ∧ bd (x3 * y2)) ∧ (bd (x2 * y1) ∧ bd (x3 * y3))) :
  ∀ p, p < 4 → mulZ X Y 2 2 p = m4 (x0 * y0 + x1 * y2) (x0 * y1 + x1 * y3) (x2 * y0 + x3 * y2) (x2 * y1 + x3 * y3) p * 2147483648 ∧ mulG X Y 2 2 p = false := fun p hp => by
 have e0 := hX 0 (by omega)
 have e1 := hX 1 (by omega)
 have e2 := hX 2 (by omega)
 have e3 := hX 3 (by omega)
 have f0 := hY 0 (by omega)
 have f1 := hY 1 (by omega)
 have f2 := hY 2 (by omega)
 have f3 := hY 3 (by omega)
 rw [(m4_at _ _ _ _).1] at e0 f0
 rw [(m4_at _ _ _ _).2.1] at e1 f1
 rw [(m4_at _ _ _ _).2.2.1] at e2 f2
 rw [(m4_at _ _ _ _).2.2.2] at e3 f3
 have one : ∀ x y : Int, bd x → bd y → bd (x * y) → mulN (x * 2147483648) (y * 4294967296) = x * y * 2147483648 ∧ mulC (x * 2147483648) (y * 4294967296) = false := fun x y h1 h2 h3 => by
  unfold bd at h1 h2 h3
  exact mul_half x y (by omega) (by omega) (by omega)
 rcases four hp with rfl | rfl | rfl | rfl
 ·exact dot_two (rowZ X 2 0) (colZ Y 2 0) _ _ h.1.1 h.1.2 (by show mulN (X 0) (Y 0) = _ ∧ mulC (X 0) (Y 0) = false; rw [e0, f0]; exact one _ _ bx.1 hb.1 h.1.1) (by show mulN (X 1) (Y 2) = _ ∧ mulC (X 1) (Y 2) = false; rw [e1, f2]; exact one _ _ bx.2.1 hb.2.2.1 h.1.2)
 ·exact dot_two (rowZ X 2 0) (colZ Y 2 1) _ _ h.2.1.1 h.2.1.2 (by show mulN (X 0) (Y 1) = _ ∧ mulC (X 0) (Y 1) = false; rw [e0, f1]; exact one _ _ bx.1 hb.2.1 h.2.1.1) (by show mulN (X 1) (Y 3) = _ ∧ mulC (X 1) (Y 3) = false; rw [e1, f3]; exact one _ _ bx.2.1 hb.2.2.2 h.2.1.2)
 ·exact dot_two (rowZ X 2 1) (colZ Y 2 0) _ _ h.2.2.1.1 h.2.2.1.2 (by show mulN (X 2) (Y 0) = _ ∧ mulC (X 2) (Y 0) = false; rw [e2, f0]; exact one _ _ bx.2.2.1 hb.1 h.2.2.1.1) (by show mulN (X 3) (Y 2) = _ ∧ mulC (X 3) (Y 2) = false; rw [e3, f2]; exact one _ _ bx.2.2.2 hb.2.2.1 h.2.2.1.2)
 ·exact dot_two (rowZ X 2 1) (colZ Y 2 1) _ _ h.2.2.2.1 h.2.2.2.2 (by show mulN (X 2) (Y 1) = _ ∧ mulC (X 2) (Y 1) = false; rw [e2, f1]; exact one _ _ bx.2.2.1 hb.2.1 h.2.2.2.1) (by show mulN (X 3) (Y 3) = _ ∧ mulC (X 3) (Y 3) = false; rw [e3, f3]; exact one _ _ bx.2.2.2 hb.2.2.2 h.2.2.2.2)
theorem nz_m4 (q g u v y : Int) : ∀ p, p < 4 → nz q g u v y p = m4 (2 * v * y * y * y + 2 * q * y) (3 * u * y * y) (3 * u * y * y) (6 * g * y) p := fun p hp => by
 rcases four hp with rfl | rfl | rfl | rfl <;> rfl
theorem spans_gain (a q g s t : Int) (ha : -4 ≤ a ∧ a ≤ 4) (hq : 0 ≤ q ∧ q ≤ 16) (hg : 0 ≤ g ∧ g ≤ 5) (hs : 0 ≤ s ∧ s ≤ 40) (ht : 0 ≤ t ∧ t ≤ 40) (F Ns Nt L T M : Nat → Int)
  (hF : ∀ p, p < 4 → F p = m4 1 (a * t) 0 1 p * 4294967296) (hNs : ∀ p, p < 4 → Ns p = noiseZ (WZ (moA a)) (moQ q g) 2 (s * 4294967296) p) (hNt : ∀ p, p < 4 → Nt p = noiseZ (WZ (moA a)) (moQ q g) 2 (t * 4294967296) p)
  (hL : ∀ p, p < 4 → L p = mulZ F Ns 2 2 p) (hT : ∀ p, p < 4 → T p = turnZ F 2 2 p) (hM : ∀ p, p < 4 → M p = mulZ L T 2 2 p) :
  (∀ p, p < 4 → s2N (M p) (Nt p) = noiseZ (WZ (moA a)) (moQ q g) 2 ((s + t) * 4294967296) p) ∧ (∀ p, p < 4 → mulG F Ns 2 2 p = false ∧ mulG L T 2 2 p = false ∧ s2C (M p) (Nt p) = false) := by
 have bu := mul_bound a g 4 5 ha (by omega)
 have bv := mul_bound a (a * g) 4 20 ha bu
 have nS := (noise_half a q g s ha hq hg (by omega)).1
 have nT := (noise_half a q g t ha hq hg (by omega)).1
 have nW := (noise_half a q g (s + t) ha hq hg (by omega)).1
 have bat := mul_bound a t 4 40 ha (by omega)
 obtain ⟨u, hu⟩ : ∃ u, a * g = u := ⟨_, rfl⟩
 obtain ⟨c, hc⟩ : ∃ c, a * t = c := ⟨_, rfl⟩
 have nb : ∀ y, 0 ≤ y ∧ y ≤ 40 → (-11000000 ≤ 2 * (a * u) * y * y * y + 2 * q * y ∧ 2 * (a * u) * y * y * y + 2 * q * y ≤ 11000000) ∧ (-96000 ≤ 3 * u * y * y ∧ 3 * u * y * y ≤ 96000) ∧ -1200 ≤ 6 * g * y ∧ 6 * g * y ≤ 1200 := fun y hy => by
  rw [hu] at bu bv
  have yb : -40 ≤ y ∧ y ≤ 40 := by omega
  have k1 := mul_bound (2 * (a * u)) y 160 40 (by omega) yb
  have k2 := mul_bound (2 * (a * u) * y) y 6400 40 k1 yb
  have k3 := mul_bound (2 * (a * u) * y * y) y 256000 40 k2 yb
  have k4 := mul_bound (2 * q) y 32 40 (by omega) yb
  have k5 := mul_bound (3 * u) y 60 40 (by omega) yb
  have k6 := mul_bound (3 * u * y) y 2400 40 k5 yb
  have k7 := mul_bound (6 * g) y 30 40 (by omega) yb
  omega
 have n1 := nb s hs
 have n2 := nb t ht
 rw [hu] at nS nT nW
 rw [hc] at hF bat
 obtain ⟨A0, hA⟩ : ∃ x, 2 * (a * u) * s * s * s + 2 * q * s = x := ⟨_, rfl⟩
 obtain ⟨B0, hB⟩ : ∃ x, 3 * u * s * s = x := ⟨_, rfl⟩
 obtain ⟨C0, hC⟩ : ∃ x, 6 * g * s = x := ⟨_, rfl⟩
 obtain ⟨A1, hA1⟩ : ∃ x, 2 * (a * u) * t * t * t + 2 * q * t = x := ⟨_, rfl⟩
 obtain ⟨B1, hB1⟩ : ∃ x, 3 * u * t * t = x := ⟨_, rfl⟩
 obtain ⟨C1, hC1⟩ : ∃ x, 6 * g * t = x := ⟨_, rfl⟩
 have eS : ∀ p, p < 4 → Ns p = m4 A0 B0 B0 C0 p * 2147483648 := fun p hp => by rw [hNs p hp, nS p hp, nz_m4 _ _ _ _ _ p hp, hA, hB, hC]
 have eT : ∀ p, p < 4 → Nt p = m4 A1 B1 B1 C1 p * 2147483648 := fun p hp => by rw [hNt p hp, nT p hp, nz_m4 _ _ _ _ _ p hp, hA1, hB1, hC1]
 rw [hA, hB, hC] at n1
 rw [hA1, hB1, hC1] at n2
 have p1 := mul_bound c B0 160 96000 bat n1.2.1
 have p2 := mul_bound c C0 160 1200 bat n1.2.2
 have X := m4_wh F Ns 1 c 0 1 A0 B0 B0 C0 hF eS ⟨by unfold bd; omega, by unfold bd; omega, by unfold bd; omega, by unfold bd; omega⟩ ⟨by unfold bd; omega, by unfold bd; omega, by unfold bd; omega, by unfold bd; omega⟩
  ⟨⟨by unfold bd; omega, by unfold bd; omega⟩, ⟨by unfold bd; omega, by unfold bd; omega⟩, ⟨by unfold bd; omega, by unfold bd; omega⟩, by unfold bd; omega, by unfold bd; omega⟩
 have e0 : 1 * A0 + c * B0 = A0 + c * B0 := by omega
 have e1 : 1 * B0 + c * C0 = B0 + c * C0 := by omega
 have e2 : 0 * A0 + 1 * B0 = B0 := by omega
 have e3 : 0 * B0 + 1 * C0 = C0 := by omega
 rw [e0, e1, e2, e3] at X
 have eT2 : ∀ p, p < 4 → T p = m4 1 0 c 1 p * 4294967296 := fun p hp => by
  rw [hT p hp]
  show F (p % 2 * 2 + p / 2) = _
  rw [hF _ (by omega)]
  rcases four hp with rfl | rfl | rfl | rfl <;> rfl
 have p3 := mul_bound (B0 + c * C0) c 288000 160 (by omega) bat
 have p4 := mul_bound C0 c 1200 160 n1.2.2 bat
 have Z := m4_hw L T (A0 + c * B0) (B0 + c * C0) B0 C0 1 0 c 1 (fun p hp => by rw [hL p hp]; exact (X p hp).1) eT2 ⟨by unfold bd; omega, by unfold bd; omega, by unfold bd; omega, by unfold bd; omega⟩ ⟨by unfold bd; omega, by unfold bd; omega, by unfold bd; omega, by unfold bd; omega⟩
  ⟨⟨by unfold bd; omega, by unfold bd; omega⟩, ⟨by unfold bd; omega, by unfold bd; omega⟩, ⟨by unfold bd; omega, by unfold bd; omega⟩, by unfold bd; omega, by unfold bd; omega⟩
 have W : ∀ p, p < 4 → s2N (M p) (Nt p) = (m4 ((A0 + c * B0) * 1 + (B0 + c * C0) * c) ((A0 + c * B0) * 0 + (B0 + c * C0) * 1) (B0 * 1 + C0 * c) (B0 * 0 + C0 * 1) p + m4 A1 B1 B1 C1 p) * 2147483648 ∧ s2C (M p) (Nt p) = false := fun p hp => by
  rw [hM p hp, (Z p hp).1, eT p hp]
  refine s2_half _ _ ?_ ?_ ?_ <;> (rcases four hp with rfl | rfl | rfl | rfl <;> simp only [m4_at] <;> omega)
 refine ⟨fun p hp => ?_, fun p hp => ⟨(X p hp).2, (Z p hp).2, (W p hp).2⟩⟩
 rw [(W p hp).1, nW p hp, nz_m4 _ _ _ _ _ p hp]
 congr 1
 subst hA hB hC hA1 hB1 hC1 hc hu
 rcases four hp with rfl | rfl | rfl | rfl <;> simp only [m4_at] <;> grind
end Go.Proofs.Wd
namespace Go.Proofs.YtjobgjcfkomhpaaGreat
open Go.RowKit Go.Shelf Go.Proofs.Wd
set_option maxRecDepth 10000
attribute [local go_sem ↓] Go.wp_at_zero Go.wp_at_succ
theorem rowCongr {w : World} {ao : Option Addr} {len : Nat} {Z Y : Nat → Int} (h : Row w ao len Z) (e : ∀ i, i < len → Z i = Y i) : Row w ao len Y := by
 rcases h with h | ⟨b, o, rfl, hc⟩
 ·exact Or.inl h
 ·exact Or.inr ⟨b, o, rfl, fun i hi => by rw [hc i hi, e i hi]⟩
section
variable {w wx w' : World} {es pre post fs : List Ob} {U : Nat} {P : Bool → Prop} {d : Int}
theorem ST.unit (pre : List Ob) (h : ST w (pre ++ ([U], UO U P d) :: post) fs wx) : ∃ c n, P c ∧ 0 ≤ n ∧ n ≤ d ∧ UC U c n wx := h.ob (c := ([U], UO U P d)) (by simp)
theorem ST.value {r c err : Int} {len : Nat} {Z : Nat → Int} {e : Ending} {g : Bool} {n0 d' : Int} (pre : List Ob) (h : ST w (pre ++ ([U], UO U P d) :: post) fs wx) (hn0 : 0 ≤ n0 ∧ n0 ≤ d) (hP : P g) (hv : ValP r c len Z err (fun w' => UW U g n0 d' w' ∧ Mk U wx w') wx e w') :
  ∃ ao cap, e = .returned (.tuple #[.agg #[.int .i64 r, .int .i64 c, .slice ao len cap], .int .i64 err]) ∧ len ≤ cap ∧ ST w (pre ++ ([U], UO U P (d + d')) :: post) (fRow ao len Z :: fs) w' := by
 obtain ⟨ao, cap, B, rfl, h1, h2, h3, ⟨cnt, q1, q2, hu⟩, hm⟩ := hv
 refine ⟨ao, cap, rfl, h1, h.tellU pre (MkL.one hm) ⟨_, cnt, hP, by omega, by omega, hu⟩ (uo_dep _ _ _) (by simp) (q := fun w => Row w ao len Z) (h3.elim Or.inl fun h => by rw [h.1]; exact h.2.row) (row_depL _ _ _) (fun q hq => ?_)⟩
 rcases h3 with h3 | ⟨rfl, h3⟩
 ·unfold rowD at hq
  rw [if_pos h3] at hq
  exact absurd hq List.not_mem_nil
 ·unfold rowD at hq
  split at hq
  ·exact absurd hq List.not_mem_nil
  ·simp at hq
   subst hq
   exact ⟨h2, h3.lt⟩
theorem ST.still {c : Bool} {n0 : Int} (pre : List Ob) (h : ST w (pre ++ ([U], UO U P d) :: post) fs wx) (hn0 : 0 ≤ n0 ∧ n0 ≤ d) (hP : P c) (hv : UC U c n0 w' ∧ Mk U wx w') : ST w (pre ++ ([U], UO U P d) :: post) fs w' :=
 h.upd pre (MkL.one hv.2) ⟨_, n0, hP, hn0.1, hn0.2, hv.1⟩ (uo_dep _ _ _) (by simp)
theorem ST.matK {r c err : Int} {len : Nat} {Z : Nat → Int} {e : Ending} (h : ST w es fs wx) (hl : 1 ≤ len) (hv : MatP r c len Z err (Kp wx) wx e w') : ∃ B cap, e = .returned (.tuple #[.agg #[.int .i64 r, .int .i64 c, .slice (some ⟨B, 0, none⟩) len cap], .int .i64 err]) ∧ len ≤ cap ∧ ST w es (([B], Own B len Z) :: fs) w' := by
 obtain ⟨ao, cap, B, rfl, h1, h2, h3, k⟩ := hv
 obtain ⟨rfl, hb⟩ := h2.resolve_left (by omega)
 exact ⟨B, cap, rfl, h3, h.tell k (Own.of hb) (own_depL _ _ _) (fun q hq => by simp at hq; subst hq; exact ⟨h1, Blk.lt hb⟩)⟩
theorem ST.own (h : ST w es fs wx) {B len : Nat} {Z : Nat → Int} (hf : ([B], Own B len Z) ∈ fs) : Own B len Z wx := h.get hf
end
end Go.Proofs.YtjobgjcfkomhpaaGreat
namespace Go.Proofs.YtjobgjcfkomhpaaGreat
open Go.RowKit Go.Shelf Go.Proofs.Wd
set_option maxRecDepth 10000
set_option maxRecDepth 20000 in
set_option maxHeartbeats 4000000 in
theorem lawSquare (ao : Option Addr) (n cap : Nat) (L : Nat → Int) (h1n : 1 ≤ n) (hn : n ≤ 1000000) (hL : Hid (∀ i, i < n → -1000000 ≤ L i ∧ L i ≤ 1000000)) (w : World) (hr : Row w ao n L) :
  Calls Tryz.prog 25 #[.slice ao n cap] w fun e w' => OwnM 2 n (fun i => L i * 4294967296) w e w' := by
 obtain ⟨Z, hZ⟩ : ∃ Z, Z = fun i => L i * 4294967296 := ⟨_, rfl⟩
 rw [← hZ]
 have EZ : Hid (∀ i, Z i = L i * 4294967296) := fun i => by rw [hZ]
 have G : Grown w ((w.alloc (.cells #[.int .i64 0, .int .i64 0, .slice none 0 0] 38)).alloc (.cells #[.int .i64 2, .int .i64 2, .slice none 0 0] 38)) := ((Grown.refl _).alloc _ _).alloc _ _
 have ST : Hid (OfI w 2 2 Z 0 (.slice none 0 0) ((w.alloc (.cells #[.int .i64 0, .int .i64 0, .slice none 0 0] 38)).alloc (.cells #[.int .i64 2, .int .i64 2, .slice none 0 0] 38))) :=
  ⟨World.ownsRow_nil _ _ _ _, Blk.grown (Blk.new w _ _) ((Grown.refl _).alloc _ _), blk_new2 w _ _ _, Kp.of G, by simp⟩
 have HR := hide hr
 clear hZ G hr
 go_enter Tryz.func25, Tryz.ntmps25
 go_wp2_with fail
 generalize (w.alloc (.cells #[.int .i64 0, .int .i64 0, .slice none 0 0] 38)).alloc (.cells #[.int .i64 2, .int .i64 2, .slice none 0 0] 38) = w1 at *
 go_loopw [4] (fun i wr => ∃ k : Nat, k ≤ n ∧ i = .int .i64 k ∧ Hid (∃ v, OfI w 2 2 Z k v wr)) (fun i _ => n - (intOf i).toNat)
 case atStart => exact ⟨0, Nat.zero_le _, rfl, _, unhide ST⟩
 case round =>
  obtain ⟨k, hk, rfl, HI⟩ := hrel
  by_cases hlt : k < n
  ·obtain ⟨v, hI⟩ := unhide HI
   obtain ⟨b, o, rfl, hc0⟩ := ((unhide HR).kp hI.2.2.2.1).at hlt
   obtain ⟨x, ex⟩ : ∃ x, L k = x := ⟨_, rfl⟩
   rw [ex] at hc0
   have xb := unhide hL k hlt
   rw [ex] at xb
   have EK : Hid (Z k = x * 4294967296) := by rw [← ex]; exact unhide EZ k
   have wx : IntKind.i64.wrap (x * 4294967296) = x * 4294967296 := by rw [IntKind.wrap_i64]; omega
   have y2 : wr.cell? ⟨w.heap.size + 1, 2, none⟩ = some v := Blk.cell hI.2.2.1 2
   have GA : Hid (Grown wr.drew (wr.drew.alloc (.cells #[.int .i64 (x * 4294967296)] 3))) := (Grown.refl _).alloc _ _
   have A2 : Hid ((wr.drew.alloc (.cells #[.int .i64 (x * 4294967296)] 3)).ownsRow (w.heap.size + 1 + 1) 3 1 v k (intL k Z) ∧ (wr.drew.alloc (.cells #[.int .i64 (x * 4294967296)] 3)).cell? ⟨wr.heap.size, 0, none⟩ = some (.int .i64 (x * 4294967296)) ∧ w.heap.size + 1 + 1 ≤ (wr.drew.alloc (.cells #[.int .i64 (x * 4294967296)] 3)).heap.size) := by
    refine ⟨(show wr.drew.ownsRow _ _ _ _ _ _ from hI.1).alloc _, Blk.cell (Blk.new wr.drew _ _) 0, ?_⟩
    have := hI.2.2.2.2
    simp
    omega
   have HH : Hid (OfI w 2 2 Z k v wr.drew) := hI
   have hk1 : k ≤ 1000000 := by omega
   have i0 : (0 : Int) ≤ (k : Int) := by omega
   have i1 : (k : Int) < (n : Int) := by omega
   have hz1 : b < wr.heap.size := heap_gt hc0
   have hz2 : w.heap.size + 1 < wr.heap.size := heap_gt y2
   have hz3 : b ≠ w.heap.size + 1 ∨ True := Or.inr trivial
   clear hI HI ex xb hz3
   go_wp2
   go_region_law (refine step_append_one rfl (.tmp 13) (.tmp 19) rfl (w.heap.size + 1 + 1) k v Z (x * 4294967296) (unhide EK) wr.heap.size (by first | rfl | simp [Act.eval, Act.put]) (by first | rfl | simp [Act.eval, Act.put]) (unhide A2).1 (unhide A2).2.1 hk1 (unhide A2).2.2 ?_; intro v' w4 hg4; obtain ⟨g', cap', rfl⟩ := ownsRow_succ (unhide hg4).1; have P := OfI.app (unhide HH) (unhide GA) (unhide A2).1 (unhide hg4); have q2 : w4.cell? ⟨w.heap.size + 1, 2, none⟩ = some v := (Blk.cell P.1 2); have q3 := Blk.free P.1 2; have HP := hide P.2; clear P hg4)
   all_goals go_wp2
   all_goals go_roundw
   all_goals first | exact ⟨k + 1, by omega, by go_num, _, unhide HP⟩ | (simp [intOf]; omega)
  ·obtain rfl : k = n := by omega
   obtain ⟨v, h0, h2, hM, h5, h6⟩ := unhide HI
   obtain ⟨B2, cap2, rfl, h1, h3, h4⟩ := owns_ownC h1n h0
   have y0 : wr.cell? ⟨w.heap.size + 1, 0, none⟩ = some (.int .i64 2) := Blk.cell hM 0
   have y1 : wr.cell? ⟨w.heap.size + 1, 1, none⟩ = some (.int .i64 2) := Blk.cell hM 1
   have y2 : wr.cell? ⟨w.heap.size + 1, 2, none⟩ = some (.slice (some ⟨B2, 0, none⟩) k cap2) := Blk.cell hM 2
   have e0 : wr.cell? ⟨w.heap.size, 0, none⟩ = some (.int .i64 0) := Blk.cell h2 0
   have e1 : wr.cell? ⟨w.heap.size, 1, none⟩ = some (.int .i64 0) := Blk.cell h2 1
   have e2 : wr.cell? ⟨w.heap.size, 2, none⟩ = some (.slice none 0 0) := Blk.cell h2 2
   have f := Blk.free h2
   have R := hide (And.intro h2 (And.intro h1 (And.intro h3 (And.intro h4 h5))))
   clear h0 h2 hM h1 h3 h4 h5 h6 HI
   go_wp2
   obtain ⟨h2, h1, h3, h4, h5⟩ := unhide R
   have P := putM h2 (.int .i64 2) (.int .i64 2) (.slice (some ⟨B2, 0, none⟩) k cap2)
   generalize (((wr.setCell ⟨w.heap.size, 0, none⟩ (.int .i64 2)).setCell ⟨w.heap.size, 1, none⟩ (.int .i64 2)).setCell ⟨w.heap.size, 2, none⟩ (.slice (some ⟨B2, 0, none⟩) k cap2)) = wE at *
   have c0 : wE.cell? ⟨w.heap.size, 0, none⟩ = some (.int .i64 2) := Blk.cell P.1 0
   have c1 : wE.cell? ⟨w.heap.size, 1, none⟩ = some (.int .i64 2) := Blk.cell P.1 1
   have c2 : wE.cell? ⟨w.heap.size, 2, none⟩ = some (.slice (some ⟨B2, 0, none⟩) k cap2) := Blk.cell P.1 2
   refine bodyPost_ret (v := .agg #[.int .i64 2, .int .i64 2, .slice (some ⟨B2, 0, none⟩) k cap2]) (by simp [results, Tryz.results25, go_sem, c0, c1, c2]) rfl ?_
   exact ⟨B2, cap2, rfl, h1, by omega, h4.mk (Mk.of P.2) (by omega), h5.mod P.2 (Nat.le_refl _)⟩
theorem lawSquareL (l : List Int) (n : Nat) (hl : l.length = n) (h1 : 1 ≤ n) (hn : n ≤ 1000000) (h : ∀ x ∈ l, -1000000 ≤ x ∧ x ≤ 1000000) (b cap : Nat) (w : World) (hb : Blk b (l.map (Value.int .i64)).toArray 3 w) :
  Calls Tryz.prog 25 #[.slice (some ⟨b, 0, none⟩) n cap] w fun e w' => OwnM 2 n (oneL l) w e w' := by
 subst hl
 exact lawSquare _ _ cap (ix l) h1 hn (lits_small h) w (row_lit hb)
def twoQ (q g : Int) : Nat → Int := fun i => if i = 0 then q * 4294967296 else g * 4294967296
def mV (a q g : Int) (ba bq : Nat) : DV := ⟨2, ⟨some ⟨ba, 0, none⟩, 4, 4, WZ (moA a)⟩, ⟨some ⟨bq, 0, none⟩, 2, 2, twoQ q g⟩, 4294967296, 1, 1, none, 0, 0, fun _ => ⟨0, ⟨none, 0, 0, fun _ => 0⟩, 0⟩⟩
def twoAC (a : Int) : Array Value := #[.int .i64 0, .int .i64 (a * 4294967296), .int .i64 0, .int .i64 0]
def twoQC (q g : Int) : Array Value := #[.int .i64 (q * 4294967296), .int .i64 (g * 4294967296)]
def smallT (a q g : Int) : Prop := (-16 ≤ a ∧ a ≤ 16) ∧ (0 ≤ q ∧ q ≤ 16) ∧ (0 ≤ g ∧ g ≤ 16)
theorem mV_good {a q g : Int} {ba bq : Nat} (hs : smallT a q g) {W : World} (hA : Blk ba (twoAC a) 3 W) (hQ : Blk bq (twoQC q g) 3 W) : (mV a q g ba bq).good W := by
 obtain ⟨h1, h2, h3⟩ := hs
 refine ⟨⟨Or.inr ⟨ba, 0, rfl, fun i hi => ?_⟩, ⟨Nat.le_refl _, fun e => by cases e⟩, fun i hi => ?_⟩, ⟨Or.inr ⟨bq, 0, rfl, fun i hi => ?_⟩, ⟨Nat.le_refl _, fun e => by cases e⟩, fun i hi => ?_⟩, Or.inl rfl, fun i hi => absurd hi (Nat.not_lt_zero i), ⟨Nat.le_refl _, fun _ => ⟨rfl, rfl⟩⟩, ⟨by show I64 2; unfold I64; omega, by show I64 4294967296; unfold I64; omega, by show I64 1; unfold I64; omega, by show I64 1; unfold I64; omega⟩, by show 4 ≤ 40; omega, by show 2 ≤ 12; omega, by show 0 ≤ 30; omega, fun i hi => absurd hi (Nat.not_lt_zero i)⟩
 ·have hi : i < 4 := hi
  rw [Nat.zero_add, Blk.cell hA]
  rcases four hi with rfl | rfl | rfl | rfl <;> simp [twoAC, mV, WZ, moA]
 ·have hi : i < 4 := hi
  show I64 (WZ (moA a) i)
  rcases four hi with rfl | rfl | rfl | rfl <;> (simp only [WZ, moA]; unfold I64; omega)
 ·have hi : i < 2 := hi
  rw [Nat.zero_add, Blk.cell hQ]
  rcases (show i = 0 ∨ i = 1 by omega) with rfl | rfl <;> simp [twoQC, mV, twoQ]
 ·have hi : i < 2 := hi
  show I64 (twoQ q g i)
  rcases (show i = 0 ∨ i = 1 by omega) with rfl | rfl <;> (simp only [twoQ]; unfold I64; omega)
theorem mV_okD {a q g : Int} {ba bq : Nat} (hs : smallT a q g) : okD (mV a q g ba bq) := by
 obtain ⟨h1, h2, h3⟩ := hs
 refine ⟨⟨by show (1 : Int) ≤ 2; omega, by show (2 : Int) ≤ 6; omega⟩, ⟨rfl, rfl, fun i hi => ?_⟩, ⟨by show (1 : Int) ≤ 4294967296; omega, by show (4294967296 : Int) ≤ 4294967296; omega⟩, by show (1 : Int) ≤ 1; omega, by show (1 : Int) ≤ 1; omega, by show 0 ≤ 24; omega, fun i hi => absurd hi (Nat.not_lt_zero i)⟩
 have hi : i < 2 := hi
 have fz : farP 0 := by unfold farP; decide
 have fa : farP (a * 4294967296) := by unfold farP; omega
 rcases (show i = 0 ∨ i = 1 by omega) with rfl | rfl
 ·refine ⟨by show 0 ≤ q * 4294967296 ∧ q * 4294967296 ≤ 68719476736; omega, fun k hk => ?_⟩
  have hk : k < 2 := hk
  rcases (show k = 0 ∨ k = 1 by omega) with rfl | rfl
  ·exact ⟨by show farP (0 * 4294967296); exact fz, fun _ => by show (0 : Int) * 4294967296 = 0; omega⟩
  ·exact ⟨by show farP (a * 4294967296); exact fa, fun h => absurd h (by decide)⟩
 ·refine ⟨by show 0 ≤ g * 4294967296 ∧ g * 4294967296 ≤ 68719476736; omega, fun k hk => ?_⟩
  have hk : k < 2 := hk
  rcases (show k = 0 ∨ k = 1 by omega) with rfl | rfl
  ·exact ⟨by show farP (0 * 4294967296); exact fz, fun _ => by show (0 : Int) * 4294967296 = 0; omega⟩
  ·exact ⟨by show farP (0 * 4294967296); exact fz, fun _ => by show (0 : Int) * 4294967296 = 0; omega⟩
def TwoM (a q g : Int) (w : World) (e : Ending) (w' : World) : Prop := ∃ ba bq, e = .returned (.agg (mV a q g ba bq).cells) ∧ (Blk ba (twoAC a) 3 w' ∧ Blk bq (twoQC q g) 3 w') ∧ (w.heap.size ≤ ba ∧ w.heap.size ≤ bq) ∧ Kp w w'
def fTwo (a q g : Int) (ba bq : Nat) : Ob := ([ba, bq], fun w => Blk ba (twoAC a) 3 w ∧ Blk bq (twoQC q g) 3 w)
theorem two_dep (a q g : Int) (ba bq : Nat) : DepL [ba, bq] (fun w => Blk ba (twoAC a) 3 w ∧ Blk bq (twoQC q g) 3 w) := fun w w' h k => ⟨(h ba (by simp)).trans k.1, (h bq (by simp)).trans k.2⟩
theorem ST.two {w wx w' : World} {es fs : List Ob} {a q g : Int} {e : Ending} (h : ST w es fs wx) (hv : TwoM a q g wx e w') : ∃ ba bq, e = .returned (.agg (mV a q g ba bq).cells) ∧ ST w es (fTwo a q g ba bq :: fs) w' := by
 obtain ⟨ba, bq, rfl, h1, h2, k⟩ := hv
 exact ⟨ba, bq, rfl, h.tell k h1 (two_dep _ _ _ _ _) (fun q hq => by
  simp at hq
  rcases hq with rfl | rfl
  ·exact ⟨h2.1, Blk.lt h1.1⟩
  ·exact ⟨h2.2, Blk.lt h1.2⟩)⟩
set_option maxRecDepth 20000 in
set_option maxHeartbeats 2000000 in
theorem lawTwo11 (a q g : Int) (hs : smallT a q g) (w : World) : Calls Tryz.prog 24 #[.int .i64 a, .int .i64 q, .int .i64 g] w fun e w' => TwoM a q g w e w' := by
 obtain ⟨h1, h2, h3⟩ := hs
 have w1 : wrap64 (a * 4294967296) = a * 4294967296 := by unfold wrap64; omega
 have w2 : wrap64 (q * 4294967296) = q * 4294967296 := by unfold wrap64; omega
 have w3 : wrap64 (g * 4294967296) = g * 4294967296 := by unfold wrap64; omega
 have x1 : IntKind.i64.wrap (a * 4294967296) = a * 4294967296 := by rw [IntKind.wrap_i64]; omega
 have x2 : IntKind.i64.wrap (q * 4294967296) = q * 4294967296 := by rw [IntKind.wrap_i64]; omega
 have x3 : IntKind.i64.wrap (g * 4294967296) = g * 4294967296 := by rw [IntKind.wrap_i64]; omega
 clear h1 h2 h3
 go_enter Tryz.func24, Tryz.ntmps24
 go_wp2
 have B : Blk w.heap.size #[.int .i64 2, .slice (some ⟨w.heap.size + 1, 0, none⟩) 4 4, .slice (some ⟨w.heap.size + 1 + 1, 0, none⟩) 2 2, .int .i64 4294967296, .int .i64 1, .int .i64 1, .slice none 0 0] 25 (((w.alloc (.cells #[.int .i64 2, .slice (some ⟨w.heap.size + 1, 0, none⟩) 4 4, .slice (some ⟨w.heap.size + 1 + 1, 0, none⟩) 2 2, .int .i64 4294967296, .int .i64 1, .int .i64 1, .slice none 0 0] 25)).alloc (.cells (twoAC a) 3)).alloc (.cells (twoQC q g) 3)) ∧ Blk (w.heap.size + 1) (twoAC a) 3 (((w.alloc (.cells #[.int .i64 2, .slice (some ⟨w.heap.size + 1, 0, none⟩) 4 4, .slice (some ⟨w.heap.size + 1 + 1, 0, none⟩) 2 2, .int .i64 4294967296, .int .i64 1, .int .i64 1, .slice none 0 0] 25)).alloc (.cells (twoAC a) 3)).alloc (.cells (twoQC q g) 3)) ∧ Blk (w.heap.size + 1 + 1) (twoQC q g) 3 (((w.alloc (.cells #[.int .i64 2, .slice (some ⟨w.heap.size + 1, 0, none⟩) 4 4, .slice (some ⟨w.heap.size + 1 + 1, 0, none⟩) 2 2, .int .i64 4294967296, .int .i64 1, .int .i64 1, .slice none 0 0] 25)).alloc (.cells (twoAC a) 3)).alloc (.cells (twoQC q g) 3)) ∧ Grown w (((w.alloc (.cells #[.int .i64 2, .slice (some ⟨w.heap.size + 1, 0, none⟩) 4 4, .slice (some ⟨w.heap.size + 1 + 1, 0, none⟩) 2 2, .int .i64 4294967296, .int .i64 1, .int .i64 1, .slice none 0 0] 25)).alloc (.cells (twoAC a) 3)).alloc (.cells (twoQC q g) 3)) := by
  refine ⟨Blk.grown (Blk.grown (Blk.new w _ _) ((Grown.refl _).alloc _ _)) ((Grown.refl _).alloc _ _), Blk.grown (blk_new2 w _ _ _) ((Grown.refl _).alloc _ _), ?_, (((Grown.refl _).alloc _ _).alloc _ _).alloc _ _⟩
  have := Blk.new ((w.alloc (.cells #[.int .i64 2, .slice (some ⟨w.heap.size + 1, 0, none⟩) 4 4, .slice (some ⟨w.heap.size + 1 + 1, 0, none⟩) 2 2, .int .i64 4294967296, .int .i64 1, .int .i64 1, .slice none 0 0] 25)).alloc (.cells (twoAC a) 3)) (twoQC q g) 3
  simp only [World.size_alloc] at this
  exact this
 unfold twoAC twoQC at B
 generalize (((w.alloc (.cells #[.int .i64 2, .slice (some ⟨w.heap.size + 1, 0, none⟩) 4 4, .slice (some ⟨w.heap.size + 1 + 1, 0, none⟩) 2 2, .int .i64 4294967296, .int .i64 1, .int .i64 1, .slice none 0 0] 25)).alloc (.cells #[.int .i64 0, .int .i64 (a * 4294967296), .int .i64 0, .int .i64 0] 3)).alloc (.cells #[.int .i64 (q * 4294967296), .int .i64 (g * 4294967296)] 3)) = wE at *
 obtain ⟨bm, bA, bQ, gr⟩ := B
 have c0 : wE.cell? ⟨w.heap.size, 0, none⟩ = some (.int .i64 2) := Blk.cell bm 0
 have c1 : wE.cell? ⟨w.heap.size, 1, none⟩ = some (.slice (some ⟨w.heap.size + 1, 0, none⟩) 4 4) := Blk.cell bm 1
 have c2 : wE.cell? ⟨w.heap.size, 2, none⟩ = some (.slice (some ⟨w.heap.size + 1 + 1, 0, none⟩) 2 2) := Blk.cell bm 2
 have c3 : wE.cell? ⟨w.heap.size, 3, none⟩ = some (.int .i64 4294967296) := Blk.cell bm 3
 have c4 : wE.cell? ⟨w.heap.size, 4, none⟩ = some (.int .i64 1) := Blk.cell bm 4
 have c5 : wE.cell? ⟨w.heap.size, 5, none⟩ = some (.int .i64 1) := Blk.cell bm 5
 have c6 : wE.cell? ⟨w.heap.size, 6, none⟩ = some (.slice none 0 0) := Blk.cell bm 6
 refine bodyPost_ret (v := .agg #[.int .i64 2, .slice (some ⟨w.heap.size + 1, 0, none⟩) 4 4, .slice (some ⟨w.heap.size + 1 + 1, 0, none⟩) 2 2, .int .i64 4294967296, .int .i64 1, .int .i64 1, .slice none 0 0]) (by simp [results, Tryz.results24, go_sem, c0, c1, c2, c3, c4, c5, c6]) rfl ?_
 exact ⟨w.heap.size + 1, w.heap.size + 1 + 1, rfl, ⟨bA, bQ⟩, ⟨by omega, by omega⟩, Kp.of gr⟩
theorem twFlow (U : Nat) (c0 : Bool) (n0 : Int) (hn0 : 0 ≤ n0 ∧ n0 < 10000000000000000) (a q g : Int) (ba bq : Nat) (hs : smallT a q g) (ticks t : Int) (ht : -1099511627776 ≤ ticks ∧ ticks ≤ 1099511627776) (et : spanZ ticks 4294967296 = t) (w : World) (h : UC U c0 n0 w) (hb : Blk ba (twoAC a) 3 w ∧ Blk bq (twoQC q g) 3 w) :
  Calls Tryz.prog 15 #[.pointer (some ⟨U, 0, none⟩), .agg (mV a q g ba bq).cells, .int .i64 ticks] w fun e w' => ValP 2 2 4 (flowZ (WZ (moA a)) 2 t) 0 (fun w' => UW U (c0 || spanC ticks 4294967296 || flowC (WZ (moA a)) 2 t) n0 300000 w' ∧ Mk U w w') w e w' := by
 have n1 : ba ≠ U := blk_ne hb.1 h (by decide +kernel)
 have n2 : bq ≠ U := blk_ne hb.2 h (by decide +kernel)
 subst et
 exact moFlow_ok U c0 n0 hn0 (mV a q g ba bq) 2 rfl ticks (by unfold I64; omega) w (fun W k => mV_good hs (Blk.mk hb.1 k n1) (Blk.mk hb.2 k n2)) (off_blk n1) (rfL_time (mV_okD hs) ht) h
theorem twNoise (U : Nat) (c0 : Bool) (n0 : Int) (hn0 : 0 ≤ n0 ∧ n0 < 10000000000000000) (a q g : Int) (ba bq : Nat) (hs : smallT a q g) (ticks t : Int) (ht : 0 ≤ ticks ∧ ticks ≤ 1099511627776) (et : spanZ ticks 4294967296 = t) (w : World) (h : UC U c0 n0 w) (hb : Blk ba (twoAC a) 3 w ∧ Blk bq (twoQC q g) 3 w) :
  Calls Tryz.prog 17 #[.pointer (some ⟨U, 0, none⟩), .agg (mV a q g ba bq).cells, .int .i64 ticks] w fun e w' => ValP 2 2 4 (noiseZ (WZ (moA a)) (twoQ q g) 2 t) 0 (fun w' => UW U (c0 || spanC ticks 4294967296 || noiseC (WZ (moA a)) (twoQ q g) 2 t) n0 300000 w' ∧ Mk U w w') w e w' := by
 have n1 : ba ≠ U := blk_ne hb.1 h (by decide +kernel)
 have n2 : bq ≠ U := blk_ne hb.2 h (by decide +kernel)
 subst et
 exact moNoise_ok U c0 n0 hn0 (mV a q g ba bq) 2 rfl ticks (by unfold I64; omega) w (fun W k => mV_good hs (Blk.mk hb.1 k n1) (Blk.mk hb.2 k n2)) (off_blk n1) (off_blk n2) (rfL_time (mV_okD hs) ht) h
end Go.Proofs.YtjobgjcfkomhpaaGreat
