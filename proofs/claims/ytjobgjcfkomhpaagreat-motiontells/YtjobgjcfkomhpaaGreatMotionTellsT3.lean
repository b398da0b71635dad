/- PolyT PolyU MatS MatSu MatAw MatKS PolyB PolyC PolyD MatRa PolyRf MoRa MdlA MdlB MdlC MdlD MdlE MdlRd, one after another, as far as MotionTells wants them. -/
import Derived.Test.YtjobgjcfkomhpaaGreatProg
import Derived.Test.YtjobgjcfkomhpaaGreatRows
import Derived.Test.YtjobgjcfkomhpaaGreatMotionTellsT2
set_option linter.unusedVariables false
set_option linter.unusedSimpArgs false
namespace Go.Proofs.YtjobgjcfkomhpaaGreat
open Go.RowKit Go.Shelf Go.Proofs.Wd
set_option maxRecDepth 10000
def StT (N U : Nat) (A B : World) : Prop := KeepsOthers A B ∧ B.os = A.os ∧ B.output = A.output ∧ ∀ k, k < N → k ≠ U → B.heap[k]? = A.heap[k]?
theorem StT.trans {N U : Nat} {A B C : World} (h : StT N U A B) (k : StT N U B C) : StT N U A C := ⟨h.1.trans k.1, k.2.1.trans h.2.1, k.2.2.1.trans h.2.2.1, fun i hi hu => (k.2.2.2 i hi hu).trans (h.2.2.2 i hi hu)⟩
theorem StT.mk {N U : Nat} {cs : Array Value} {T : TypeId} {A B : World} (m : Mk U A B) (hU : Blk U cs T A) (hN : N ≤ A.heap.size) : StT N U A B :=
 ⟨⟨m.2.2.2, fun k o hk ho => (m.2.2.1 k (Array.getElem?_eq_some_iff.1 hk).1 (fun e => by
  subst e
  rw [show A.heap[k]? = _ from hU] at hk
  cases hk
  cases ho)).trans hk⟩, m.1, m.2.1, fun k hk hu => m.2.2.1 k (by omega) hu⟩
theorem StT.kp {N U : Nat} {A B : World} (m : Kp A B) (hN : N ≤ A.heap.size) : StT N U A B :=
 ⟨⟨m.2.2.2, fun k o hk ho => (m.2.2.1 k (Array.getElem?_eq_some_iff.1 hk).1).trans hk⟩, m.1, m.2.1, fun k hk hu => m.2.2.1 k (by omega)⟩
theorem StT.set {N U b o : Nat} {v : Value} (A : World) (hb : N ≤ b) : StT N U A (A.setCell ⟨b, o, none⟩ v) :=
 ⟨KeepsOthers.setCell _ _ _, rfl, rfl, fun k hk hu => Below.heap_setCell _ _ _ _ (by show k ≠ b; omega)⟩
theorem StT.new {N U b : Nat} {A B : World} (m : Mod b A B) (hb : N ≤ b) {cs : Array Value} {T : TypeId} (hB : Blk b cs T A) (hN : N ≤ A.heap.size) : StT N U A B :=
 ⟨⟨m.2.2.2.2, fun k o hk ho => (m.2.2.1 k (Array.getElem?_eq_some_iff.1 hk).1 (fun e => by
  subst e
  rw [show A.heap[k]? = _ from hB] at hk
  cases hk
  cases ho)).trans hk⟩, m.1, m.2.1, fun k hk hu => m.2.2.1 k (by omega) (by omega)⟩
theorem KC.cell {D : Nat → Prop} {W W' : World} (h : KC D W W') {b o : Nat} {v : Value} (hc : W.cell? ⟨b, o, none⟩ = some v) (hD : ¬ D b) : W'.cell? ⟨b, o, none⟩ = some v := by
 obtain ⟨x, hx, hi⟩ := cells_of_cell hc
 cases x with
 | cells cs t fr => exact (World.cell?_of_block ((h.1 b cs t fr hD hx).trans hx.symm)).trans hc
 | _ => cases hi
def TSq (N n nn : Nat) (A : Nat → Int) (pre : List (Nat × Nat)) (W : World) : Prop :=
 (∀ i x, pre[i]? = some x → Blk x.1 (ints nn (termZ A n i)) 3 W ∧ N ≤ x.1 ∧ nn ≤ x.2) ∧ (pre.map Prod.fst).Pairwise (· < ·)
def encT (n nn : Nat) (x : Nat × Nat) : Array Value := #[.agg #[.int .i64 n, .int .i64 n, .slice (some ⟨x.1, 0, none⟩) nn x.2]]
def goesT (pre : List (Nat × Nat)) : Prop := pre.length ≤ 24
def UW (U : Nat) (c : Bool) (n0 D : Int) (W : World) : Prop := ∃ cnt, n0 ≤ cnt ∧ cnt ≤ n0 + D ∧ UC U c cnt W
def SpT (N U n nn : Nat) (c0 : Bool) (n0 : Int) (A : Nat → Int) (pre : List (Nat × Nat)) (W : World) : Prop :=
 ∃ j, pre.length = j + 1 ∧ j ≤ 24 ∧ TSq N n nn A pre W ∧ UW U (c0 || termC A n j) n0 100000 W
theorem TSq.of {N n nn : Nat} {A : Nat → Int} {pre : List (Nat × Nat)} {W W' : World} (h : TSq N n nn A pre W) (k : ∀ b cs, N ≤ b → Blk b cs 3 W → Blk b cs 3 W') : TSq N n nn A pre W' :=
 ⟨fun i x hx => ⟨k _ _ (h.1 i x hx).2.1 (h.1 i x hx).1, (h.1 i x hx).2⟩, h.2⟩
theorem TSq.of2 {N n nn : Nat} {A : Nat → Int} {pre : List (Nat × Nat)} {W W' : World} (h : TSq N n nn A pre W) (k : ∀ y ∈ pre, ∀ cs, N ≤ y.1 → Blk y.1 cs 3 W → Blk y.1 cs 3 W') : TSq N n nn A pre W' :=
 ⟨fun i x hx => ⟨k x (List.mem_of_getElem? hx) _ (h.1 i x hx).2.1 (h.1 i x hx).1, (h.1 i x hx).2⟩, h.2⟩
theorem TSq.snoc {N n nn : Nat} {A : Nat → Int} {pre : List (Nat × Nat)} {W : World} {B cp : Nat} (h : TSq N n nn A pre W) (hb : Blk B (ints nn (termZ A n pre.length)) 3 W) (hN : N ≤ B) (hc : nn ≤ cp) (hl : ∀ y ∈ pre, y.1 < B) : TSq N n nn A (pre ++ [(B, cp)]) W := by
 refine ⟨fun i x hx => ?_, ?_⟩
 ·rw [List.getElem?_append] at hx
  split at hx
  ·exact h.1 i x hx
  ·rename_i hi
   have : i = pre.length := by
    rcases Nat.lt_or_ge (i - pre.length) 1 with h1 | h1
    ·omega
    ·rw [List.getElem?_eq_none (by simpa using h1)] at hx; cases hx
   subst this
   rw [Nat.sub_self] at hx
   cases hx
   exact ⟨hb, hN, hc⟩
 ·rw [List.map_append, List.pairwise_append]
  refine ⟨h.2, by simp, fun a ha b hb => ?_⟩
  simp at hb
  subst hb
  obtain ⟨y, hy, rfl⟩ := List.mem_map.1 ha
  exact hl y hy
theorem spT_own (N U n nn : Nat) (c0 : Bool) (n0 : Int) (A : Nat → Int) (B : Nat) : OwnFrom B (SpT N U n nn c0 n0 A) := by
 rintro pre W W' row ⟨j, h1, h2, h3, cnt, h4, h5, h6⟩ hg hr
 have hr' : ∀ r, row = some r → ∃ o : Obj, W.heap[r]? = some o ∧ o.isCells = false := fun r e => (hr r e).2
 exact ⟨j, h1, h2, h3.of (fun b cs _ hb => blk_own hb hg hr'), cnt, h4, h5, blk_own h6 hg hr'⟩
def TmC (N U n nn ua aa ab ao cap : Nat) (A : Nat → Int) (W : World) : Prop :=
 Blk ua #[.pointer (some ⟨U, 0, none⟩)] 26 W ∧ Blk aa #[.int .i64 n, .int .i64 n, .slice (some ⟨ab, ao, none⟩) nn cap] 38 W ∧ (∀ j, j < nn → W.cell? ⟨ab, ao + j, none⟩ = some (.int .i64 (A j))) ∧ N ≤ W.heap.size
theorem TmC.kc {N U n nn ua aa ab ao cap : Nat} {A : Nat → Int} {D : Nat → Prop} {W W' : World} (h : TmC N U n nn ua aa ab ao cap A W) (k : KC D W W') (h1 : ¬ D ua) (h2 : ¬ D aa) (h3 : ¬ D ab) : TmC N U n nn ua aa ab ao cap A W' :=
 ⟨k.blk h.1 h1, k.blk h.2.1 h2, fun j hj => k.cell (h.2.2.1 j hj) h3, Nat.le_trans h.2.2.2 k.2⟩
theorem TmC.mk {N U n nn ua aa ab ao cap V : Nat} {A : Nat → Int} {W W' : World} (h : TmC N U n nn ua aa ab ao cap A W) (k : Mk V W W') (h1 : ua ≠ V) (h2 : aa ≠ V) (h3 : ab ≠ V) : TmC N U n nn ua aa ab ao cap A W' :=
 ⟨Blk.mk h.1 k h1, Blk.mk h.2.1 k h2, fun j hj => k.cell (h.2.2.1 j hj) h3, Nat.le_trans h.2.2.2 k.2.2.2⟩
def TmI (N U n nn ua aa ab ao cap Tb : Nat) (c0 : Bool) (n0 : Int) (A : Nat → Int) (J : List (Nat × Nat) → World → Prop) (j : Nat) (wr : World) : Prop :=
 ∃ (pre : List (Nat × Nat)) (B cp : Nat), J pre wr ∧ pre.length = j ∧ TSq N n nn A pre wr ∧ Blk Tb #[.int .i64 n, .int .i64 n, .slice (some ⟨B, 0, none⟩) nn cp] 38 wr ∧ Blk B (ints nn (termZ A n j)) 3 wr ∧ nn ≤ cp ∧ N ≤ B ∧ (∀ y ∈ pre, y.1 < B) ∧
  UW U (c0 || termC A n j) n0 ((j : Int) * 4000) wr ∧ TmC N U n nn ua aa ab ao cap A wr
def mixZ (Y : Nat → Int) (m k : Nat) : Nat → Int := fun i => if i < k then dvZ Y m i else Y i
theorem mix_zero (nn : Nat) (Y : Nat → Int) (m : Nat) : ints nn Y = ints nn (mixZ Y m 0) := ints_congr _ _ _ fun i _ => by simp [mixZ]
theorem mix_all (nn : Nat) (Y : Nat → Int) (m : Nat) : ints nn (mixZ Y m nn) = ints nn (dvZ Y m) := ints_congr _ _ _ fun i hi => by simp [mixZ, hi]
theorem mix_succ (nn : Nat) (Y : Nat → Int) (m k : Nat) : ints nn (fun i => if i = k then dvZ Y m k else mixZ Y m k i) = ints nn (mixZ Y m (k + 1)) := ints_congr _ _ _ fun i _ => by
 unfold mixZ
 by_cases e : i = k
 ·subst e; simp
 ·rw [if_neg e]
  by_cases h : i < k
  ·rw [if_pos h, if_pos (by omega)]
  ·rw [if_neg h, if_neg (by omega)]
def DvI (N U n nn ua aa ab ao cap Tb B cp : Nat) (c1 : Bool) (n1 : Int) (A Y : Nat → Int) (j k : Nat) (w5 wr : World) : Prop :=
 Blk Tb #[.int .i64 n, .int .i64 n, .slice (some ⟨B, 0, none⟩) nn cp] 38 wr ∧ Blk B (ints nn (mixZ Y (j + 1) k)) 3 wr ∧ UC U (c1 || orC (dvG Y (j + 1)) k) (n1 + 2 * k) wr ∧ TmC N U n nn ua aa ab ao cap A wr ∧ StT N U w5 wr ∧ (∀ b cs, b ≠ Tb → b ≠ B → b ≠ U → Blk b cs 3 w5 → Blk b cs 3 wr)
theorem blk_ne {b c : Nat} {cs ds : Array Value} {T S : TypeId} {w : World} (h : Blk b cs T w) (k : Blk c ds S w) (hT : T ≠ S) : b ≠ c := fun e => by
 subst e
 unfold Blk at h k
 rw [h] at k
 cases k
 exact hT rfl
theorem DvI.put {N U n nn ua aa ab ao cap Tb B cp : Nat} {c1 wc qc : Bool} {n1 q : Int} {A Y : Nat → Int} {j k : Nat} {w5 wr w7 : World} (h : DvI N U n nn ua aa ab ao cap Tb B cp c1 n1 A Y j k w5 wr) (u : UC U (c1 || orC (dvG Y (j + 1)) k || wc || qc) (n1 + 2 * k + 1 + 1) w7) (m : Mod U wr w7) (hk : k < nn) (e1 : q = dvZ Y (j + 1) k) (e2 : orC (dvG Y (j + 1)) (k + 1) = (orC (dvG Y (j + 1)) k || (wc || qc))) (nua : ua ≠ U) (naa : aa ≠ U) (nab : ab ≠ U) (lU : U < N) (lua : ua < N) (laa : aa < N) (lab : ab < N) (hB : N ≤ B) :
  DvI N U n nn ua aa ab ao cap Tb B cp c1 n1 A Y j (k + 1) w5 (w7.setCell ⟨B, k, none⟩ (.int .i64 q)) ∧ Blk Tb #[.int .i64 n, .int .i64 n, .slice (some ⟨B, 0, none⟩) nn cp] 38 w7 ∧ Blk B (ints nn (mixZ Y (j + 1) k)) 3 w7 := by
 obtain ⟨h1, h2, h3, h4, h5, h6⟩ := h
 have s : Mod B w7 (w7.setCell ⟨B, k, none⟩ (.int .i64 q)) := (Mod.refl _ _).setCell _ _
 have tU : Tb ≠ U := blk_ne h1 h3 (by decide +kernel)
 have bU : B ≠ U := blk_ne h2 h3 (by decide +kernel)
 have tB : Tb ≠ B := blk_ne h1 h2 (by decide +kernel)
 have t7 := Blk.keep h1 m tU
 have b7 := Blk.keep h2 m bU
 have c7 := h4.mk (Mk.of m) nua naa nab
 refine ⟨⟨Blk.keep t7 s tB, ?_, ?_, c7.mk (Mk.of s) (by omega) (by omega) (by omega), (h5.trans (StT.mk (Mk.of m) h3 h4.2.2.2)).trans (StT.set w7 hB), fun b cs n1 n2 n3 hb => Blk.keep (Blk.keep (h6 b cs n1 n2 n3 hb) m n3) s n2⟩, t7, b7⟩
 ·have := Blk.setI b7 k q
  rw [e1, mix_succ] at this
  rw [e1]
  exact this
 ·rw [e2, ← Bool.or_assoc, ← Bool.or_assoc, show n1 + 2 * ((k + 1 : Nat) : Int) = n1 + 2 * k + 1 + 1 by omega]
  exact Blk.keep u s (Ne.symm bU)
theorem DvI.drew {N U n nn ua aa ab ao cap Tb B cp : Nat} {c1 : Bool} {n1 : Int} {A Y : Nat → Int} {j k : Nat} {w5 wr : World} (h : DvI N U n nn ua aa ab ao cap Tb B cp c1 n1 A Y j k w5 wr) : DvI N U n nn ua aa ab ao cap Tb B cp c1 n1 A Y j k w5 wr.drew :=
 ⟨h.1, h.2.1, h.2.2.1, ⟨h.2.2.2.1.1, h.2.2.2.1.2.1, h.2.2.2.1.2.2.1, h.2.2.2.1.2.2.2⟩, ⟨⟨h.2.2.2.2.1.1.size, h.2.2.2.2.1.1.same⟩, h.2.2.2.2.1.2.1, h.2.2.2.2.1.2.2.1, h.2.2.2.2.1.2.2.2⟩, h.2.2.2.2.2⟩
section
attribute [local go_sem] Oper.semAt_some
set_option maxRecDepth 100000 in
set_option maxHeartbeats 8000000 in
theorem terms1_in (f l N U n nn ua aa ab ao cap : Nat) (hf : 1 ≤ f) (c0 : Bool) (n0 : Int) (hn0 : 0 ≤ n0 ∧ n0 < 1000000000000000000) (A : Nat → Int) (hn : 1 ≤ n ∧ n ≤ 12) (hnn : n * n = nn) (hA : ∀ j, j < nn → I64 (A j)) (hcap : nn ≤ cap) (nua : ua ≠ U) (naa : aa ≠ U) (nab : ab ≠ U) (lU : U < N) (lua : ua < N) (laa : aa < N) (lab : ab < N)
  (D : Nat → Prop) (dU : ¬ D U) (dua : ¬ D ua) (daa : ¬ D aa) (dab : ¬ D ab) (dN : ∀ k, N ≤ k → ¬ D k) (J Jx : List (Nat × Nat) → World → Prop) (hJ : ∀ s X Y, J s X → StT N U X Y → J s Y)
  (hY : ∀ pre x W1, J pre W1 → True → YieldAt Fence.wide (f - 1) Tryz.prog l (encT n nn x) W1 fun e W' => KC D W1 W' ∧ ((e = .returned (.bool true) ∧ J (pre ++ [x]) W' ∧ goesT (pre ++ [x])) ∨ (e = .returned (.bool false) ∧ Jx (pre ++ [x]) W')))
  (W : World) (hU : UC U c0 n0 W) (hC : TmC N U n nn ua aa ab ao cap A W) (h0 : J [] W) :
  CallsIn Fence.wide f Tryz.prog 154 #[.func (.yield l) #[] #[], .pointer (some ⟨aa, 0, none⟩), .pointer (some ⟨ua, 0, none⟩)] W fun e W' => (∃ v, e = .returned v) ∧ ((∃ xs : List (Nat × Nat), False ∧ J xs W') ∨ (∃ pre, SpT N U n nn c0 n0 A pre W' ∧ Jx pre W')) := by
 have k2 := mul12n n n hn hn
 rw [hnn] at k2
 have HE := hide (fun w => matEye_ok n hn w)
 rw [hnn] at HE
 have d0 : W.cell? ⟨aa, 0, none⟩ = some (.int .i64 n) := Blk.cell hC.2.1 0
 have HY := hide hY
 have HJ := hide hJ
 have HW := hide (And.intro hU (And.intro hC h0))
 have HN := hide (And.intro hn (And.intro hn0 k2))
 have HA := hide hA
 have HM : Hid (∀ m, m ≤ 24 → ∀ wx B cp (c : Bool) (q : Int), 0 ≤ q ∧ q < 1152921504606846976 → nn ≤ cp → UC U c q wx → Row wx (some ⟨B, 0, none⟩) nn (termZ A n m) → B ≠ U → (∀ j, j < nn → wx.cell? ⟨ab, ao + j, none⟩ = some (.int .i64 (A j))) →
   Calls Tryz.prog 30 #[.pointer (some ⟨U, 0, none⟩), .agg #[.int .i64 n, .int .i64 n, .slice (some ⟨B, 0, none⟩) nn cp], .agg #[.int .i64 n, .int .i64 n, .slice (some ⟨ab, ao, none⟩) nn cap]] wx fun e w' => MatP n n nn (mulZ (termZ A n m) A n n) 0 (fun w' => UC U (c || orC (mulG (termZ A n m) A n n) nn) (q + 2 * n * (nn : Int)) w' ∧ Mk U wx w') wx e w') := by
  intro m hm wx B cp c q hq hcp hu hr hB hab
  have ht := termZ_I64 A n m
  rw [hnn] at ht
  obtain ⟨_, _, e, hz⟩ := hr.some (by omega)
  cases e
  have := matMul_ok U c q hq n n n B 0 cp ab ao cap (termZ A n m) A hn hn hn (by rw [hnn]; exact hcp) (by rw [hnn]; exact ht) (by rw [hnn]; exact hA) wx hu (by rw [hnn]; exact hz) (by rw [hnn]; exact hab) hB nab
  rw [hnn] at this
  exact this
 have HNE := hide (And.intro nua (And.intro naa (And.intro nab (And.intro lU (And.intro lua (And.intro laa lab))))))
 have HD := hide (And.intro dU (And.intro dua (And.intro daa (And.intro dab dN))))
 have EN := hide hnn
 have n1 : 1 ≤ nn := k2.1
 clear hY hJ h0 hU hC hn hn0 hA nua naa nab lU lua laa lab dU dua daa dab dN hnn k2 hcap
 refine callsIn_of_wp Tryz.func154 rfl trivial ?_ rfl
 simp only [Tryz.ntmps154, List.size_toArray, List.length_cons, List.length_nil, Nat.reduceAdd, Nat.reduceSub, Array.replicate_succ, Array.replicate_zero, List.push_toArray, List.append_toArray, List.nil_append, List.cons_append]
 gi_wp2_with (refine ⟨trivial, ?_⟩; gi_at_call 28; refine (callsIn_wide.2 (unhide HE _)).mono ?_; rintro e w1 ⟨_, cp, B, rfl, hB, hb, hcp, k1⟩; obtain ⟨rfl, hbn⟩ := hb.resolve_left (Nat.ne_of_gt n1); have R1 := hide (And.intro hB (And.intro hbn (And.intro hcp k1))); clear hB hb hbn hcp k1)
 have I0 : Hid (TmI N U n nn ua aa ab ao cap w1.heap.size c0 n0 A J 0 (w1.alloc (.cells #[.int .i64 n, .int .i64 n, .slice (some ⟨B, 0, none⟩) nn cp] 38)) ∧ N ≤ w1.heap.size) := by
  obtain ⟨hB, hb, hcp, k1⟩ := unhide R1
  obtain ⟨hU, hC, h0⟩ := unhide HW
  have k2 : Kp W (w1.alloc (.cells #[.int .i64 n, .int .i64 n, .slice (some ⟨B, 0, none⟩) nn cp] 38)) := k1.grown ((Grown.refl _).alloc _ _)
  refine ⟨⟨[], B, cp, unhide HJ _ _ _ h0 (StT.kp k2 hC.2.2.2), rfl, ⟨fun i x hx => (by cases hx), List.Pairwise.nil⟩, Blk.new _ _ _, Blk.grown hb ((Grown.refl _).alloc _ _), hcp, Nat.le_trans hC.2.2.2 hB, fun _ h => absurd h List.not_mem_nil, ⟨n0, by omega, by omega, ?_⟩, (hC.mk (Mk.kp (U := U) k2) (unhide HNE).1 (unhide HNE).2.1 (unhide HNE).2.2.1)⟩, Nat.le_trans hC.2.2.2 k1.2.2.2⟩
  show UC U (c0 || false) _ _
  rw [Bool.or_false]
  exact Blk.kp hU k2
 have HTb : Hid (N ≤ w1.heap.size) := (unhide I0).2
 clear R1 HW d0 HE
 generalize w1.alloc (.cells #[.int .i64 n, .int .i64 n, .slice (some ⟨B, 0, none⟩) nn cp] 38) = w2 at *
 generalize w1.heap.size = Tb at *
 gi_loopw [6] (fun i wr => ∃ j : Nat, j ≤ 24 ∧ i = .int .i64 ((j + 1 : Nat) : Int) ∧ Hid (TmI N U n nn ua aa ab ao cap Tb c0 n0 A J j wr)) (fun i _ => 26 - (intOf i).toNat)
 case atStart => exact ⟨0, Nat.zero_le _, rfl, (unhide I0).1⟩
 case round =>
  obtain ⟨j, hj, rfl, HI⟩ := hrel
  clear I0
  obtain ⟨pre, B, cp, hJ1, hl, hT, hTb, hb, hcp, hB, hlt, hu, hC⟩ := unhide HI
  obtain ⟨fn, tmps, assign, body, hy, hR⟩ := unhide HY pre (B, cp) wr hJ1 trivial
  dsimp only [encT] at hy
  have x0 : wr.cell? ⟨Tb, 0, none⟩ = some (.int .i64 n) := Blk.cell hTb 0
  have x1 : wr.cell? ⟨Tb, 1, none⟩ = some (.int .i64 n) := Blk.cell hTb 1
  have x2 : wr.cell? ⟨Tb, 2, none⟩ = some (.slice (some ⟨B, 0, none⟩) nn cp) := Blk.cell hTb 2
  have HS := hide (And.intro hl (And.intro hT (And.intro hTb (And.intro hb (And.intro hcp (And.intro hB (And.intro hlt (And.intro hu hC))))))))
  clear hJ1 hl hT hTb hb hcp hB hlt hu hC HI
  gi_wp2
  refine hR.mono ?_
  rintro e W3 ⟨hk, (⟨rfl, hJ3, hP⟩ | ⟨rfl, hJx⟩)⟩
  ·obtain ⟨hl, hT, hTb, hb, hcp, hB, hlt, ⟨cnt, q1, q2, hu⟩, hC⟩ := unhide HS
   obtain ⟨dU, dua, daa, dab, dN⟩ := unhide HD
   have hj2 : j + 1 ≤ 24 := by unfold goesT at hP; rw [List.length_append] at hP; simpa [hl] using hP
   have hT3 : TSq N n nn A (pre ++ [(B, cp)]) W3 := (hT.of (fun b cs hbN h => hk.blk h (dN b hbN))).snoc (by rw [hl]; exact hk.blk hb (dN B hB)) hB hcp hlt
   have hTb3 := hk.blk hTb (dN Tb (unhide HTb))
   have hb3 := hk.blk hb (dN B hB)
   have hu3 := hk.blk hu dU
   have hC3 := hC.kc hk dua daa dab
   have x0 : W3.cell? ⟨Tb, 0, none⟩ = some (.int .i64 n) := Blk.cell hTb3 0
   have x1 : W3.cell? ⟨Tb, 1, none⟩ = some (.int .i64 n) := Blk.cell hTb3 1
   have x2 : W3.cell? ⟨Tb, 2, none⟩ = some (.slice (some ⟨B, 0, none⟩) nn cp) := Blk.cell hTb3 2
   have y0 : W3.cell? ⟨ua, 0, none⟩ = some (.pointer (some ⟨U, 0, none⟩)) := Blk.cell hC3.1 0
   have z0 : W3.cell? ⟨aa, 0, none⟩ = some (.int .i64 n) := Blk.cell hC3.2.1 0
   have z1 : W3.cell? ⟨aa, 1, none⟩ = some (.int .i64 n) := Blk.cell hC3.2.1 1
   have z2 : W3.cell? ⟨aa, 2, none⟩ = some (.slice (some ⟨ab, ao, none⟩) nn cap) := Blk.cell hC3.2.1 2
   have hB3 := Blk.lt hb3
   have bB : ∀ y ∈ pre ++ [(B, cp)], y.1 < W3.heap.size := fun y hy => by
    obtain ⟨i, hi⟩ := List.getElem?_of_mem hy
    exact Blk.lt (hT3.1 i y hi).1
   have qb : 0 ≤ (j : Int) * 4000 ∧ (j : Int) * 4000 ≤ 96000 := by omega
   have MU := hide (unhide HM j hj W3 B cp (c0 || termC A n j) cnt (by have := (unhide HN).2.1; omega) hcp hu3 (Blk.row hb3) (blk_ne (b := B) (c := U) hb3 hu3 (by decide +kernel)) hC3.2.2.1)
   have S3 := hide (And.intro hJ3 (And.intro hl (And.intro hT3 (And.intro hTb3 (And.intro hu3 (And.intro hC3 (And.intro bB (And.intro q1 (And.intro q2 hj2)))))))))
   clear hJ3 hl hT hT3 hTb hTb3 hb hb3 hu hu3 hC hC3 hcp hB hlt hk hP q1 q2 dU dua daa dab dN bB hB3 hR hy HS qb
   gi_wp2_with (refine ⟨trivial, ?_⟩; gi_at_call 30; refine (callsIn_wide.2 (unhide MU)).mono ?_; rintro e w4 ⟨_, cp2, B2, rfl, hB2, hb2, hcp2, hu4, m4⟩; obtain ⟨rfl, hbn⟩ := hb2.resolve_left (Nat.ne_of_gt n1); have t4 := Blk.mk (unhide S3).2.2.2.1 m4 (blk_ne (unhide S3).2.2.2.1 (unhide S3).2.2.2.2.1 (by decide +kernel)); have x0 : w4.cell? ⟨Tb, 0, none⟩ = some (.int .i64 n) := Blk.cell t4 0; have x1 : w4.cell? ⟨Tb, 1, none⟩ = some (.int .i64 n) := Blk.cell t4 1; have x2 : w4.cell? ⟨Tb, 2, none⟩ = some (.slice (some ⟨B, 0, none⟩) nn cp) := Blk.cell t4 2; have ff := Blk.free t4; have R4 := hide (And.intro hB2 (And.intro hbn (And.intro hcp2 (And.intro hu4 (And.intro m4 t4))))); clear hB2 hb2 hbn hcp2 hu4 m4 t4)
   obtain ⟨Y, hYe⟩ : ∃ Y, mulZ (termZ A n j) A n n = Y := ⟨_, rfl⟩
   obtain ⟨w5, hw5⟩ : ∃ w5, (((w4.setCell ⟨Tb, 0, none⟩ (.int .i64 n)).setCell ⟨Tb, 1, none⟩ (.int .i64 n)).setCell ⟨Tb, 2, none⟩ (.slice (some ⟨B2, 0, none⟩) nn cp2)) = w5 := ⟨_, rfl⟩
   have S5 : Hid (DvI N U n nn ua aa ab ao cap Tb B2 cp2 (c0 || termC A n j || orC (mulG (termZ A n j) A n n) nn) (cnt + 2 * n * (nn : Int)) A Y j 0 w5 w5 ∧ StT N U W3 w5 ∧ TSq N n nn A (pre ++ [(B, cp)]) w5 ∧ (∀ y ∈ pre ++ [(B, cp)], y.1 < B2) ∧ N ≤ B2 ∧ nn ≤ cp2) := by
    obtain ⟨hB2, hb2, hcp2, hu4, m4, t4⟩ := unhide R4
    obtain ⟨_, hl, hT3, hTb3, hu3, hC3, bB, q1, q2, hj2⟩ := unhide S3
    obtain ⟨nua, naa, nab, lU, lua, laa, lab⟩ := unhide HNE
    have hTbN := unhide HTb
    have P := putM t4 (.int .i64 n) (.int .i64 n) (.slice (some ⟨B2, 0, none⟩) nn cp2)
    rw [hw5] at P
    have tl := Blk.lt hTb3
    have c4 := hC3.mk m4 nua naa nab
    have s1 : StT N U W3 w4 := StT.mk m4 hu3 hC3.2.2.2
    have s2 : StT N U w4 w5 := StT.new P.2 hTbN t4 c4.2.2.2
    refine ⟨⟨P.1, ?_, ?_, c4.mk (Mk.of P.2) (by omega) (by omega) (by omega), ⟨KeepsOthers.refl _, rfl, rfl, fun _ _ _ => rfl⟩, fun _ _ _ _ _ h => h⟩, s1.trans s2, hT3.of (fun b cs hbN h => Blk.keep (Blk.mk h m4 (by omega)) P.2 (blk_ne (Blk.mk h m4 (by omega)) t4 (by decide +kernel))), fun y hy => Nat.lt_of_lt_of_le (bB y hy) hB2, Nat.le_trans hC3.2.2.2 hB2, hcp2⟩
    ·rw [← mix_zero, ← hYe]
     exact Blk.keep hb2 P.2 (by omega)
    ·show UC U (_ || false) (_ + 2 * 0) _
     rw [Bool.or_false, Int.mul_zero, Int.add_zero]
     exact Blk.keep hu4 P.2 (by omega)
   have J3 := hide (unhide S3).1
   have K3 : Hid (pre.length = j ∧ n0 ≤ cnt ∧ cnt ≤ n0 + (j : Int) * 4000 ∧ j + 1 ≤ 24) := ⟨(unhide S3).2.1, (unhide S3).2.2.2.2.2.2.2.1, (unhide S3).2.2.2.2.2.2.2.2.1, (unhide S3).2.2.2.2.2.2.2.2.2⟩
   rw [hw5]
   have g2 : w5.cell? ⟨Tb, 2, none⟩ = some (.slice (some ⟨B2, 0, none⟩) nn cp2) := Blk.cell (unhide S5).1.1 2
   clear hw5 R4 S3 x0 x1 x2 y0 z0 z1 z2 MU ff
   have HYE := hide hYe
   clear hYe
   gi_wp2
   gi_loopw [30] (fun i wq => ∃ k : Nat, k ≤ nn ∧ i = .int .i64 k ∧ Hid (DvI N U n nn ua aa ab ao cap Tb B2 cp2 (c0 || termC A n j || orC (mulG (termZ A n j) A n n) nn) (cnt + 2 * n * (nn : Int)) A Y j k w5 wq)) (fun i _ => nn - (intOf i).toNat)
   case atStart => exact ⟨0, Nat.zero_le _, rfl, (unhide S5).1⟩
   case round =>
    obtain ⟨k, hk, rfl, HK⟩ := hrel
    clear g2
    by_cases hkn : k < nn
    ·have xk : wr.cell? ⟨B2, k, none⟩ = some (.int .i64 (Y k)) := by
      rw [Blk.cell (unhide HK).2.1, ints_at nn _ k hkn]
      simp [mixZ]
     have y0 : wr.cell? ⟨Tb, 2, none⟩ = some (.slice (some ⟨B2, 0, none⟩) nn cp2) := Blk.cell (unhide HK).1 2
     have y1 : wr.cell? ⟨ua, 0, none⟩ = some (.pointer (some ⟨U, 0, none⟩)) := Blk.cell (unhide HK).2.2.2.1.1 0
     have i0 : (0 : Int) ≤ (k : Int) := by omega
     have i1 : (k : Int) < (nn : Int) := by omega
     have k144 : k ≤ 143 := by have := (unhide HN).2.2.2; omega
     have mI : I64 ((j + 1 : Nat) : Int) := by unfold I64; omega
     have yI : I64 (Y k) := by
      rw [← unhide HYE]
      exact mulZ_I64 _ _ _ _ _
     have UL : U < wr.heap.size := Blk.lt (unhide HK).2.2.1
     have hm := unhide HN
     have kb : (n : Int) * (nn : Int) ≤ 12 * 144 := Int.mul_le_mul (by omega) (by omega) (by omega) (by omega)
     have kb0 : 0 ≤ (n : Int) * (nn : Int) := Int.mul_nonneg (by omega) (by omega)
     have kq : 2 * (n : Int) * (nn : Int) = 2 * ((n : Int) * (nn : Int)) := Int.mul_assoc _ _ _
     have kj : (j : Int) * 4000 ≤ 96000 := by omega
     have cb : 0 ≤ cnt + 2 * (n : Int) * (nn : Int) + 2 * (k : Int) ∧ cnt + 2 * (n : Int) * (nn : Int) + 2 * (k : Int) + 10 < 2305843009213693952 := by
      have := (unhide K3).2
      rw [kq]
      generalize (n : Int) * (nn : Int) = p at *
      omega
     have WH := hide (fun c w h => unitWhole U c (cnt + 2 * (n : Int) * (nn : Int) + 2 * (k : Int)) ((j + 1 : Nat) : Int) mI ⟨cb.1, by omega⟩ w h)
     have DV := hide (fun c w h => unitDiv U c (cnt + 2 * (n : Int) * (nn : Int) + 2 * (k : Int) + 1) (Y k) (whoN ((j + 1 : Nat) : Int)) yI (whoN_I64 _) ⟨by omega, by omega⟩ w h)
     have ED : Hid (divN (Y k) (whoN ((j + 1 : Nat) : Int)) = dvZ Y (j + 1) k) := rfl
     have EG : Hid (orC (dvG Y (j + 1)) (k + 1) = (orC (dvG Y (j + 1)) k || (whoC ((j + 1 : Nat) : Int) || divC (Y k) (whoN ((j + 1 : Nat) : Int))))) := rfl
     generalize whoN ((j + 1 : Nat) : Int) = wm at *
     generalize whoC ((j + 1 : Nat) : Int) = wc at *
     generalize Y k = y at *
     generalize divN y wm = q at *
     generalize divC y wm = qc at *
     clear kb kb0 kq kj cb hm
     gi_wp2
     refine wpIn_wide.2 ?_
     refine region_G (fun w' => w'.cell? ⟨Tb, 2, none⟩ = some (.slice (some ⟨B2, 0, none⟩) nn cp2) ∧ w'.cell? ⟨ua, 0, none⟩ = some (.pointer (some ⟨U, 0, none⟩))) 10 (by kernel_rfl) ⟨y0, y1⟩ (fun hHeld => ?_)
     refine take_G (i := 0) (d := 35) (v := .pointer (some ⟨Tb, 2, none⟩)) rfl rfl (by kernel_rfl) (by kernel_rfl) (by kernel_rfl) (by kernel_rfl) (by kernel_rfl) (Or.inl ⟨by rfl, ?_⟩) hHeld ?_
     ·intro wS hSw
      obtain ⟨z0, z1⟩ := hSw
      clear hHeld
      go_simp
     (try simp only [Act.put, List.setIfInBounds_toArray, List.set_cons_zero, List.set_cons_succ])
     refine take_G (i := 1) (d := 36) (v := .slice (some ⟨B2, 0, none⟩) nn cp2) rfl rfl (by kernel_rfl) (by kernel_rfl) (by kernel_rfl) (by kernel_rfl) (by kernel_rfl) (Or.inl ⟨by rfl, ?_⟩) hHeld ?_
     ·intro wS hSw
      obtain ⟨z0, z1⟩ := hSw
      clear hHeld
      go_simp
     (try simp only [Act.put, List.setIfInBounds_toArray, List.set_cons_zero, List.set_cons_succ])
     refine take_G (i := 2) (d := 37) (v := .int .i64 (k : Int)) rfl rfl (by kernel_rfl) (by kernel_rfl) (by kernel_rfl) (by kernel_rfl) (by kernel_rfl) (Or.inl ⟨by rfl, ?_⟩) hHeld ?_
     ·intro wS hSw
      obtain ⟨z0, z1⟩ := hSw
      clear hHeld
      go_simp
     (try simp only [Act.put, List.setIfInBounds_toArray, List.set_cons_zero, List.set_cons_succ])
     refine take_G (i := 3) (d := 38) (v := .pointer (some ⟨U, 0, none⟩)) rfl rfl (by kernel_rfl) (by kernel_rfl) (by kernel_rfl) (by kernel_rfl) (by kernel_rfl) (Or.inl ⟨by rfl, ?_⟩) hHeld ?_
     ·intro wS hSw
      obtain ⟨z0, z1⟩ := hSw
      clear hHeld
      go_simp
     (try simp only [Act.put, List.setIfInBounds_toArray, List.set_cons_zero, List.set_cons_succ])
     refine take_G (i := 4) (d := 39) (v := .int .i64 y) rfl rfl (by kernel_rfl) (by kernel_rfl) (by kernel_rfl) (by kernel_rfl) (by kernel_rfl) (Or.inl ⟨by rfl, ?_⟩) hHeld ?_
     ·intro wS hSw
      obtain ⟨z0, z1⟩ := hSw
      clear hHeld
      go_simp
     (try simp only [Act.put, List.setIfInBounds_toArray, List.set_cons_zero, List.set_cons_succ])
     refine take_G (i := 5) (d := 40) (v := .pointer (some ⟨U, 0, none⟩)) rfl rfl (by kernel_rfl) (by kernel_rfl) (by kernel_rfl) (by kernel_rfl) (by kernel_rfl) (Or.inl ⟨by rfl, ?_⟩) hHeld ?_
     ·intro wS hSw
      obtain ⟨z0, z1⟩ := hSw
      clear hHeld
      go_simp
     (try simp only [Act.put, List.setIfInBounds_toArray, List.set_cons_zero, List.set_cons_succ])
     refine take_G (i := 6) (d := 41) (v := .int .i64 ((j + 1 : Nat) : Int)) rfl rfl (by kernel_rfl) (by kernel_rfl) (by kernel_rfl) (by kernel_rfl) (by kernel_rfl) (Or.inl ⟨by rfl, ?_⟩) hHeld ?_
     ·intro wS hSw
      obtain ⟨z0, z1⟩ := hSw
      clear hHeld
      go_simp
     (try simp only [Act.put, List.setIfInBounds_toArray, List.set_cons_zero, List.set_cons_succ])
     have HK2 : Hid (DvI N U n nn ua aa ab ao cap Tb B2 cp2 (c0 || termC A n j || orC (mulG (termZ A n j) A n n) nn) (cnt + 2 * n * (nn : Int)) A Y j k w5 wr.drew) := (unhide HK).drew
     clear HK xk y0 y1 hHeld
     refine step_G (i := 7) (by kernel_rfl) (fun K hK => ?_)
     refine wpOp_of rfl rfl ?_
     unfold Oper.wp
     go_simp
     refine (unhide WH _ _ (unhide HK2).2.2.1).mono ?_
     rintro e w6 ⟨rfl, u6, m6⟩
     have b6 := Blk.keep (unhide HK2).1 m6 (blk_ne (unhide HK2).1 (unhide HK2).2.2.1 (by decide +kernel))
     have v6 := Blk.keep (unhide HK2).2.2.2.1.1 m6 (unhide HNE).1
     have hHeld : w6.cell? ⟨Tb, 2, none⟩ = some (.slice (some ⟨B2, 0, none⟩) nn cp2) ∧ w6.cell? ⟨ua, 0, none⟩ = some (.pointer (some ⟨U, 0, none⟩)) := ⟨Blk.cell b6 2, Blk.cell v6 0⟩
     have S6 := hide (And.intro u6 (And.intro m6 (And.intro b6 v6)))
     refine hK _ _ (fun _ => hHeld) ?_
     clear hK K u6 m6 b6 v6
     (try simp only [Act.put, List.setIfInBounds_toArray, List.set_cons_zero, List.set_cons_succ])
     refine step_G (i := 8) (by kernel_rfl) (fun K hK => ?_)
     refine wpOp_of rfl rfl ?_
     unfold Oper.wp
     go_simp
     refine (unhide DV _ _ (unhide S6).1).mono ?_
     rintro e w7 ⟨rfl, u7, m7⟩
     have P7 := hide ((unhide HK2).put u7 ((unhide S6).2.1.trans m7) hkn (unhide ED) (unhide EG) (unhide HNE).1 (unhide HNE).2.1 (unhide HNE).2.2.1 (unhide HNE).2.2.2.1 (unhide HNE).2.2.2.2.1 (unhide HNE).2.2.2.2.2.1 (unhide HNE).2.2.2.2.2.2 (unhide S5).2.2.2.2.1)
     have b7 := (unhide P7).2.1
     have k7 := Blk.cell (unhide P7).2.2 k
     rw [ints_at nn _ k hkn] at k7
     have f7 := Blk.free (unhide P7).2.2 k
     have v7 := Blk.keep (unhide S6).2.2.2 m7 (unhide HNE).1
     have hHeld : w7.cell? ⟨Tb, 2, none⟩ = some (.slice (some ⟨B2, 0, none⟩) nn cp2) ∧ w7.cell? ⟨ua, 0, none⟩ = some (.pointer (some ⟨U, 0, none⟩)) := ⟨Blk.cell b7 2, Blk.cell v7 0⟩
     refine hK _ _ (fun _ => hHeld) ?_
     clear hK K u7 m7 b7 v7 S6
     (try simp only [Act.put, List.setIfInBounds_toArray, List.set_cons_zero, List.set_cons_succ])
     refine take_G (i := 9) (d := 44) (v := .pointer (some ⟨B2, k, none⟩)) rfl rfl (by kernel_rfl) (by kernel_rfl) (by kernel_rfl) (by kernel_rfl) (by kernel_rfl) (Or.inl ⟨by rfl, ?_⟩) hHeld ?_
     ·intro wS hSw
      obtain ⟨z0, z1⟩ := hSw
      clear hHeld
      go_simp
     (try simp only [Act.put, List.setIfInBounds_toArray, List.set_cons_zero, List.set_cons_succ])
     clear hHeld
     generalize mixZ Y (j + 1) k k = old at *
     refine step_G (i := 10) (by kernel_rfl) (fun K hK => ?_)
     refine wpOp_of rfl rfl ?_
     unfold Oper.wp
     go_simp
     refine hK _ _ (fun h => absurd rfl h) ?_
     clear hK K
     (try simp only [Act.put, List.setIfInBounds_toArray, List.set_cons_zero, List.set_cons_succ])
     refine done_G (by kernel_rfl) ?_
     refine noPanic_normalE ?_
     have R : Hid (DvI N U n nn ua aa ab ao cap Tb B2 cp2 (c0 || termC A n j || orC (mulG (termZ A n j) A n n) nn) (cnt + 2 * n * (nn : Int)) A Y j (k + 1) w5 (w7.setCell ⟨B2, k, none⟩ (.int .i64 q))) := (unhide P7).1
     clear P7 k7 f7 WH DV ED EG HK2
     gi_wp2
     go_roundw
     case rel => exact ⟨k + 1, by omega, by go_num, R⟩
     case measure => simp [intOf]; omega
    ·obtain rfl : k = nn := by omega
     have R : Hid (TmI N U n k ua aa ab ao cap Tb c0 n0 A J (j + 1) wr) := by
      obtain ⟨h1, h2, h3, h4, h5, h6⟩ := unhide HK
      obtain ⟨s1, s2, s3, s4, s5, s6⟩ := unhide S5
      obtain ⟨q1, q2, q3, q4⟩ := unhide K3
      refine ⟨pre ++ [(B, cp)], B2, cp2, unhide HJ _ _ _ (unhide J3) (s2.trans h5), by rw [List.length_append, q1]; rfl, s3.of2 (fun y hy cs hN hb => h6 _ _ (blk_ne hb s1.1 (by decide +kernel)) (Nat.ne_of_lt (s4 y hy)) (blk_ne hb s1.2.2.1 (by decide +kernel)) hb), h1, ?_, s6, s5, s4, ⟨cnt + 2 * n * (k : Int) + 2 * k, ?_, ?_, ?_⟩, h4⟩
      ·rw [mix_all, ← unhide HYE] at h2
       exact h2
      ·have : 0 ≤ (n : Int) * (k : Int) := Int.mul_nonneg (by omega) (by omega)
       rw [Int.mul_assoc]
       omega
      ·have kb : (n : Int) * (k : Int) ≤ 12 * 144 := Int.mul_le_mul (by have := unhide HN; omega) (by have := unhide HN; omega) (by omega) (by omega)
       rw [Int.mul_assoc, Int.natCast_add, Int.add_mul]
       have := (unhide HN).2.2.2
       omega
      ·show UC U (c0 || (termC A n j || orC (mulG (termZ A n j) A n n) (n * n) || orC (dvG (mulZ (termZ A n j) A n n) (j + 1)) (n * n))) _ _
       rw [unhide EN, unhide HYE, ← Bool.or_assoc, ← Bool.or_assoc]
       exact h3
     have q4 := (unhide K3).2.2.2
     clear HK
     gi_wp2
     go_roundw
     case rel => exact ⟨j + 1, q4, by go_num, R⟩
     case measure => simp [intOf]; omega
  ·obtain ⟨hl, hT, hTb, hb, hcp, hB, hlt, ⟨cnt, q1, q2, hu⟩, hC⟩ := unhide HS
   obtain ⟨dU, dua, daa, dab, dN⟩ := unhide HD
   have R : Hid (SpT N U n nn c0 n0 A (pre ++ [(B, cp)]) W3 ∧ Jx (pre ++ [(B, cp)]) W3) := by
    refine ⟨⟨j, by rw [List.length_append, hl]; rfl, hj, (hT.of (fun b cs hbN h => hk.blk h (dN b hbN))).snoc (by rw [hl]; exact hk.blk hb (dN B hB)) hB hcp hlt, cnt, q1, by omega, hk.blk hu dU⟩, hJx⟩
   clear hl hT hTb hb hcp hB hlt hu hC hk hJx hR hy HS dU dua daa dab dN x0 x1 x2
   gi_wp2
   go_end0
   exact ⟨⟨_, rfl⟩, .inr ⟨_, unhide R⟩⟩
end
end Go.Proofs.YtjobgjcfkomhpaaGreat
namespace Go.Proofs.YtjobgjcfkomhpaaGreat
open Go.RowKit Go.Shelf Go.Proofs.Wd
set_option maxRecDepth 10000
set_option maxHeartbeats 1000000 in
theorem polyTermsMk (u : Option Addr) (R C : Int) (ao : Option Addr) (len cap : Nat) (w : World) : Calls Tryz.prog 119 #[.pointer u, .agg #[.int .i64 R, .int .i64 C, .slice ao len cap]] w fun e w' => e = .returned (.func (.func 154) #[] #[.pointer (some ⟨w.heap.size + 1, 0, none⟩), .pointer (some ⟨w.heap.size, 0, none⟩)]) ∧ w' = (w.alloc (.cells #[.pointer u] 26)).alloc (.cells #[.int .i64 R, .int .i64 C, .slice ao len cap] 38) := by
 go_enter Tryz.func119, Tryz.ntmps119
 go_wp2
 go_ret
 exact ⟨rfl, rfl⟩
theorem make_mats (c : Nat) (hc : c ≤ 1000000) : ∃ zc : Array Value, zc.size = c * 3 ∧ ∀ w : World, (Instr.makeSlice 73 (.int .i64 0) (.int .i64 (c : Int))).run Tryz.prog w = .ok (.slice (some ⟨w.heap.size, 0, none⟩) 0 c) (w.alloc (.cells zc 38)) := by
 obtain ⟨i0, hi, hz0, hz1, hz2⟩ := info_parts Tryz.infoMat
 refine ⟨madeCells (Value.agg #[.int .i64 0, .int .i64 0, .slice none 0 0]).cells (c * 3), by rw [size_madeCells], fun w => ?_⟩
 have := run_make (P := Tryz.prog) w 73 38 i0 _ Tryz.underlying73 hi hz0 .i64 .i64 0 c (Int.le_refl _) (by omega) (by rw [hz2]; omega) (by omega)
 rw [hz1, Int.toNat_natCast] at this
 exact this
def XT (n nn : Nat) (A : Nat → Int) (i : Nat) (x : Nat × Nat) : MV := ⟨n, n, some ⟨x.1, 0, none⟩, nn, x.2, termZ A n i⟩
def listT (n nn : Nat) (A : Nat → Int) (pre : List (Nat × Nat)) : List MV := pre.mapIdx (XT n nn A)
theorem listT_len (n nn : Nat) (A : Nat → Int) (pre : List (Nat × Nat)) : (listT n nn A pre).length = pre.length := by simp [listT]
theorem listT_snoc (n nn : Nat) (A : Nat → Int) (pre : List (Nat × Nat)) (x : Nat × Nat) : listT n nn A (pre ++ [x]) = listT n nn A pre ++ [XT n nn A pre.length x] := by simp [listT]
def TermP (U n nn : Nat) (c : Bool) (n0 : Int) (A : Nat → Int) (k : Nat) (w : World) (e : Ending) (w' : World) : Prop :=
 ∃ (Lb : Nat) (pre : List (Nat × Nat)), e = .returned (.tuple #[.slice (some ⟨Lb, 0, none⟩) (k + 1) (k + 1), .int .i64 0]) ∧ pre.length = k + 1 ∧ MLs w' w.heap.size (.slice (some ⟨Lb, 0, none⟩) (k + 1) (k + 1)) (listT n nn A pre) ∧ TSq w.heap.size n nn A pre w' ∧ UW U (c || termC A n k) n0 100000 w' ∧ Mk U w w'
theorem TSq.mono {N M n nn : Nat} {A : Nat → Int} {pre : List (Nat × Nat)} {W : World} (h : TSq N n nn A pre W) (hN : M ≤ N) : TSq M n nn A pre W := ⟨fun i x hx => ⟨(h.1 i x hx).1, Nat.le_trans hN (h.1 i x hx).2.1, (h.1 i x hx).2.2⟩, h.2⟩
def TmJ (w : World) (U n nn S3 k : Nat) (A : Nat → Int) (p : Nat) (pre : List (Nat × Nat)) (W : World) : Prop :=
 pre.length = p ∧ MLs W w.heap.size (.slice (some ⟨S3, 0, none⟩) p (k + 1)) (listT n nn A pre) ∧ Blk (S3 + 1) #[.slice (some ⟨S3, 0, none⟩) p (k + 1)] 73 W ∧ Blk (w.heap.size + 1) #[.int .i64 k] 3 W ∧ Mk U w W ∧ S3 + 4 ≤ W.heap.size
theorem mls_own {base : Nat} {v : Value} {l : List MV} {W W' : World} {row : Option Nat} (h : MLs W base v l) (hg : W.grownBy W' row) (hr : ∀ r, row = some r → ∃ o : Obj, W.heap[r]? = some o ∧ o.isCells = false) : MLs W' base v l := h.blk fun _ _ _ _ hb => blk_own hb hg hr
theorem mk_own {U B : Nat} {w W W' : World} {row : Option Nat} (h : Mk U w W) (hB : w.heap.size ≤ B) (hg : W.grownBy W' row) (hr : ∀ r, row = some r → B ≤ r ∧ ∃ o : Obj, W.heap[r]? = some o ∧ o.isCells = false) : Mk U w W' := h.by hg (fun k e => Nat.le_trans hB (hr k e).1)
theorem tmJ_own {w W W' : World} {U n nn S3 k p B : Nat} {A : Nat → Int} {pre : List (Nat × Nat)} {row : Option Nat} (h : TmJ w U n nn S3 k A p pre W) (hB : w.heap.size ≤ B) (hg : W.grownBy W' row) (hr : ∀ r, row = some r → B ≤ r ∧ ∃ o : Obj, W.heap[r]? = some o ∧ o.isCells = false) : TmJ w U n nn S3 k A p pre W' := by
 have hr' : ∀ r, row = some r → ∃ o : Obj, W.heap[r]? = some o ∧ o.isCells = false := fun r e => (hr r e).2
 exact ⟨h.1, mls_own h.2.1 hg hr', blk_own h.2.2.1 hg hr', blk_own h.2.2.2.1 hg hr', mk_own h.2.2.2.2.1 hB hg hr, Nat.le_trans h.2.2.2.2.2 hg.size⟩
theorem mk_stT {U N : Nat} {w A B : World} (h : Mk U w A) (s : StT N U A B) (hN : w.heap.size ≤ N) : Mk U w B :=
 ⟨s.2.1.trans h.1, s.2.2.1.trans h.2.1, fun k hk hu => (s.2.2.2 k (by omega) hu).trans (h.2.2.1 k hk hu), Nat.le_trans h.2.2.2 s.1.size⟩
theorem tmJ_stT {w A B : World} {U N n nn S3 k p : Nat} {Z : Nat → Int} {pre : List (Nat × Nat)} (h : TmJ w U n nn S3 k Z p pre A) (s : StT N U A B) (hN : S3 + 4 ≤ N) (hw : w.heap.size + 2 ≤ S3) (hU : U < w.heap.size) : TmJ w U n nn S3 k Z p pre B :=
 have kb : ∀ b cs T, b < N → b ≠ U → Blk b cs T A → Blk b cs T B := fun b cs T hb hu h => (s.2.2.2 b hb hu).trans h
 ⟨h.1, h.2.1.blk fun g cs e hb hB => kb g cs _ (by cases e; show S3 < N; omega) (by cases e; show S3 ≠ U; omega) hB, kb _ _ _ (by omega) (by omega) h.2.2.1, kb _ _ _ (by omega) (by omega) h.2.2.2.1, mk_stT h.2.2.2.2.1 s (by omega), Nat.le_trans h.2.2.2.2.2 s.1.size⟩
theorem TmJ.app {w W w' : World} {U n nn S3 k p : Nat} {A : Nat → Int} {pre : List (Nat × Nat)} {x : Nat × Nat} (h : TmJ w U n nn S3 k A p pre W) (hS : w.heap.size + 2 ≤ S3)
  (hown : w'.ownsRow w.heap.size 38 3 (.slice (some ⟨S3, 0, none⟩) (p + 1) (k + 1)) (p + 1) (flat (listT n nn A pre) ++ (XT n nn A p x).cells.toList)) (hg : (W.alloc (.cells (XT n nn A p x).cells 38)).grownBy w' (some S3)) :
  Blk (S3 + 1) #[.slice (some ⟨S3, 0, none⟩) p (k + 1)] 73 w' ∧ Blk (w.heap.size + 1) #[.int .i64 k] 3 w' ∧
   TmJ w U n nn S3 k A (p + 1) (pre ++ [x]) (w'.setCell ⟨S3 + 1, 0, none⟩ (.slice (some ⟨S3, 0, none⟩) (p + 1) (k + 1))) ∧
   KC (fun k => k = S3 ∨ k = S3 + 1) W (w'.setCell ⟨S3 + 1, 0, none⟩ (.slice (some ⟨S3, 0, none⟩) (p + 1) (k + 1))) ∧ KeepsOthers W (w'.setCell ⟨S3 + 1, 0, none⟩ (.slice (some ⟨S3, 0, none⟩) (p + 1) (k + 1))) := by
 obtain ⟨h1, h2, h3, h4, h5, h6⟩ := h
 have ga : Grown W (W.alloc (.cells (XT n nn A p x).cells 38)) := (Grown.refl _).alloc _ _
 have b3 := Blk.by (Blk.grown h3 ga) hg (by simp)
 have b4 := Blk.by (Blk.grown h4 ga) hg (by simp; omega)
 have s : Mod (S3 + 1) w' (w'.setCell ⟨S3 + 1, 0, none⟩ (.slice (some ⟨S3, 0, none⟩) (p + 1) (k + 1))) := (Mod.refl _ _).setCell _ _
 have sz : W.heap.size ≤ w'.heap.size := Nat.le_trans ga.2.2 hg.size
 have lS : S3 < W.heap.size := by omega
 obtain ⟨hb0, cur, hcur⟩ := h2.has
 have hc2 : Blk S3 cur 38 (W.alloc (.cells (XT n nn A p x).cells 38)) := Blk.grown hcur ga
 refine ⟨b3, b4, ⟨by rw [List.length_append, h1]; rfl, ?_, Blk.set b3 0 _, Blk.keep b4 s (by omega), ((h5.grown ga).by hg (fun k e => by cases e; omega)).new s (by omega), Nat.le_trans (by omega) s.2.2.2.2⟩, ?_, ?_⟩
 ·unfold MLs
  rw [listT_snoc, flat_snoc, h1, List.length_append, listT_len, h1]
  have : MLs w' w.heap.size (.slice (some ⟨S3, 0, none⟩) (p + 1) (k + 1)) (listT n nn A (pre ++ [x])) := by
   unfold MLs
   rw [listT_snoc, flat_snoc, h1, List.length_append, listT_len, h1]
   exact hown
  have t := this.blk (w' := w'.setCell ⟨S3 + 1, 0, none⟩ (.slice (some ⟨S3, 0, none⟩) (p + 1) (k + 1))) (fun g cs e _ hb => Blk.keep hb s (by cases e; show S3 ≠ S3 + 1; omega))
  unfold MLs at t
  rwa [listT_snoc, flat_snoc, h1, List.length_append, listT_len, h1] at t
 ·refine KC.of (fun i hi hD => ?_) (Nat.le_trans sz s.2.2.2.2)
  rw [s.2.2.1 i (by omega) (fun e => hD (Or.inr e)), hg.block i (Nat.lt_of_lt_of_le hi ga.2.2) (fun e => hD (Or.inl (by cases e; rfl)))]
  exact gblock ga hi
 ·refine ((KeepsOthers.alloc W _).trans (KeepsOthers.of_grownBy hg (fun j o e ho => ?_))).trans (KeepsOthers.setCell _ _ _)
  cases e
  rw [show (W.alloc (.cells (XT n nn A p x).cells 38)).heap[S3]? = _ from hc2] at ho
  cases ho
  rfl
section
attribute [local go_sem] Oper.semAt_some
set_option maxRecDepth 100000 in
set_option maxHeartbeats 4000000 in
theorem polyTerms_ok (U n nn b o cap k : Nat) (c0 : Bool) (n0 : Int) (hn0 : 0 ≤ n0 ∧ n0 < 1000000000000000000) (A : Nat → Int) (hn : 1 ≤ n ∧ n ≤ 12) (hnn : n * n = nn) (hk : k ≤ 24) (hcap : nn ≤ cap) (hA : ∀ j, j < nn → I64 (A j)) (w : World) (h : UC U c0 n0 w) (za : ∀ j, j < nn → w.cell? ⟨b, o + j, none⟩ = some (.int .i64 (A j))) (hb : b ≠ U) :
  Calls Tryz.prog 82 #[.pointer (some ⟨U, 0, none⟩), .agg #[.int .i64 n, .int .i64 n, .slice (some ⟨b, o, none⟩) nn cap], .int .i64 k] w fun e w' => TermP U n nn c0 n0 A k w e w' := by
 have SQ := hide (fun w => polySquare n n (some ⟨b, o, none⟩) nn cap w)
 rw [← hnn, sqB_yes (sqA_of hn), hnn] at SQ
 have lU := Blk.lt h
 have lb : b < w.heap.size := heap_gt (za 0 (by have := mul12n n n hn hn; omega))
 have bn := Blk.new w #[.int .i64 n, .int .i64 n, .slice (some ⟨b, o, none⟩) nn cap] 38
 have G : Grown w ((w.alloc (.cells #[.int .i64 n, .int .i64 n, .slice (some ⟨b, o, none⟩) nn cap] 38)).alloc (.cells #[.int .i64 k] 3)) := ((Grown.refl _).alloc _ _).alloc _ _
 have HB : Hid (Blk w.heap.size #[.int .i64 n, .int .i64 n, .slice (some ⟨b, o, none⟩) nn cap] 38 ((w.alloc (.cells #[.int .i64 n, .int .i64 n, .slice (some ⟨b, o, none⟩) nn cap] 38)).alloc (.cells #[.int .i64 k] 3)) ∧ Blk (w.heap.size + 1) #[.int .i64 k] 3 ((w.alloc (.cells #[.int .i64 n, .int .i64 n, .slice (some ⟨b, o, none⟩) nn cap] 38)).alloc (.cells #[.int .i64 k] 3)) ∧ ((w.alloc (.cells #[.int .i64 n, .int .i64 n, .slice (some ⟨b, o, none⟩) nn cap] 38)).alloc (.cells #[.int .i64 k] 3)).heap.size = w.heap.size + 2) := ⟨Blk.grown bn ((Grown.refl _).alloc _ _), blk_new2 w _ _ _, by simp⟩
 have HG := hide G
 have HU := hide (And.intro h (And.intro lU (And.intro za (And.intro hb lb))))
 have HA := hide (And.intro hA (And.intro hn0 (And.intro hn (And.intro hnn hcap))))
 have d24 : decide ((24 : Int) < (k : Int)) = false := decide_eq_false (by omega)
 have d0 : decide ((k : Int) < 0) = false := decide_eq_false (by omega)
 obtain ⟨zc, hzc, MK0⟩ := make_mats (k + 1) (by omega)
 have MK : ∀ w : World, (Instr.makeSlice 73 (.int .i64 0) (.int .i64 ((k : Int) + 1))).run Tryz.prog w = .ok (.slice (some ⟨w.heap.size, 0, none⟩) 0 (k + 1)) (w.alloc (.cells zc 38)) := fun w => MK0 w
 clear MK0
 have HZ := hide hzc
 clear hzc
 have wk : wrap64 ((k : Int) + 1) = (k : Int) + 1 := by unfold wrap64; omega
 clear G bn h lU lb za hb hA hn0 hn hnn hcap
 refine (callsIn_wide (n := 6)).1 ?_
 refine callsIn_of_wp_marks Tryz.func82 rfl trivial ?_ rfl
 simp only [Tryz.ntmps82, List.size_toArray, List.length_cons, List.length_nil, Nat.reduceAdd, Nat.reduceSub, Array.replicate_succ, Array.replicate_zero, List.push_toArray, List.append_toArray, List.nil_append, List.cons_append]
 gi_wp2_with fail
 generalize (w.alloc (.cells #[.int .i64 n, .int .i64 n, .slice (some ⟨b, o, none⟩) nn cap] 38)).alloc (.cells #[.int .i64 k] 3) = w1 at *
 refine ⟨trivial, ?_⟩
 refine (callsIn_wide.2 (unhide SQ _)).mono ?_
 rintro e w2 ⟨rfl, g2⟩
 have RF := hide (polyRefuse U c0 n0 ⟨(unhide HA).2.1.1, by have := (unhide HA).2.1.2; omega⟩ true w2 (Blk.grown (Blk.grown (unhide HU).1 (unhide HG)) g2))
 have G2 := hide g2
 clear g2 SQ
 gi_wp2_with (refine ⟨trivial, ?_⟩; gi_at_call 79; refine (callsIn_wide.2 (unhide RF)).mono ?_; rintro e w3 ⟨rfl, u3, m3⟩; have B3 := hide (And.intro (Blk.keep (Blk.grown (unhide HB).1 (unhide G2)) m3 (Nat.ne_of_gt (unhide HU).2.1)) (And.intro (Blk.keep (Blk.grown (unhide HB).2.1 (unhide G2)) m3 (by have := (unhide HU).2.1; omega)) (And.intro u3 m3))); have x0 : w3.cell? ⟨w.heap.size, 0, none⟩ = some (.int .i64 n) := Blk.cell (unhide B3).1 0; have x1 : w3.cell? ⟨w.heap.size, 1, none⟩ = some (.int .i64 n) := Blk.cell (unhide B3).1 1; have x2 : w3.cell? ⟨w.heap.size, 2, none⟩ = some (.slice (some ⟨b, o, none⟩) nn cap) := Blk.cell (unhide B3).1 2; have x3 : w3.cell? ⟨w.heap.size + 1, 0, none⟩ = some (.int .i64 k) := Blk.cell (unhide B3).2.1 0; have q1 : w.heap.size < w3.heap.size := Blk.lt (unhide B3).1; have q2 : w.heap.size + 1 < w3.heap.size := Blk.lt (unhide B3).2.1; have q3 : w.heap.size ≠ w3.heap.size := (by omega); have q4 : w.heap.size ≠ w3.heap.size + 1 := (by omega); clear u3 m3 RF; simp only [errB, if_true])
 refine ⟨trivial, ?_⟩
 refine (callsIn_wide.2 (polyTermsMk _ _ _ _ _ _ _)).mono ?_
 rintro e w4 ⟨rfl, rfl⟩
 gi_wp2_with fail
 obtain ⟨S3, hS3⟩ : ∃ S3, w3.heap.size = S3 := ⟨_, rfl⟩
 simp only [World.size_alloc, hS3]
 obtain ⟨W0, hW0⟩ : ∃ W0, ((((w3.alloc (.cells zc 38)).alloc (.cells #[.slice (some ⟨S3, 0, none⟩) 0 (k + 1)] 73)).alloc (.cells #[.pointer (some ⟨U, 0, none⟩)] 26)).alloc (.cells #[.int .i64 n, .int .i64 n, .slice (some ⟨b, o, none⟩) nn cap] 38)) = W0 := ⟨_, rfl⟩
 rw [hW0]
 have ST : Hid (TmJ w U n nn S3 k A 0 [] W0 ∧ TmC W0.heap.size U n nn (S3 + 2) (S3 + 3) b o cap A W0 ∧ UC U c0 n0 W0 ∧ W0.heap.size = S3 + 4 ∧ w.heap.size + 2 ≤ S3) := by
  obtain ⟨B1, B2, u3, m3⟩ := unhide B3
  obtain ⟨hu, lU, za, hb, lb⟩ := unhide HU
  have gz : Grown w w2 := gtrans (unhide HG) (unhide G2)
  have M3 : Mk U w w3 := (Mk.kp (Kp.of gz)).trans (Mk.of m3)
  subst hS3
  have e0 := World.ownsRow_made (base := w.heap.size) (e := 38) (size := 3) w3 zc (k + 1) M3.2.2.2 (by unfold maxLen; omega) (unhide HZ)
  have g1 : Grown w3 (w3.alloc (.cells zc 38)) := (Grown.refl _).alloc _ _
  generalize hw4 : w3.alloc (.cells zc 38) = w4 at *
  have s4 : w4.heap.size = w3.heap.size + 1 := by rw [← hw4]; simp
  have e1 := Blk.new w4 #[.slice (some ⟨w3.heap.size, 0, none⟩) 0 (k + 1)] 73
  have g2 : Grown w4 (w4.alloc (.cells #[.slice (some ⟨w3.heap.size, 0, none⟩) 0 (k + 1)] 73)) := (Grown.refl _).alloc _ _
  generalize hw5 : w4.alloc (.cells #[.slice (some ⟨w3.heap.size, 0, none⟩) 0 (k + 1)] 73) = w5 at *
  have s5 : w5.heap.size = w3.heap.size + 2 := by rw [← hw5]; simp; omega
  have e2 := Blk.new w5 #[.pointer (some ⟨U, 0, none⟩)] 26
  have g3 : Grown w5 (w5.alloc (.cells #[.pointer (some ⟨U, 0, none⟩)] 26)) := (Grown.refl _).alloc _ _
  generalize hw6 : w5.alloc (.cells #[.pointer (some ⟨U, 0, none⟩)] 26) = w6 at *
  have s6 : w6.heap.size = w3.heap.size + 3 := by rw [← hw6]; simp; omega
  have e3 := Blk.new w6 #[.int .i64 n, .int .i64 n, .slice (some ⟨b, o, none⟩) nn cap] 38
  have g4 : Grown w6 (w6.alloc (.cells #[.int .i64 n, .int .i64 n, .slice (some ⟨b, o, none⟩) nn cap] 38)) := (Grown.refl _).alloc _ _
  rw [hW0] at e3 g4
  have s7 : W0.heap.size = w3.heap.size + 4 := by rw [← hW0]; simp; omega
  rw [s4] at e1
  rw [s5] at e2
  rw [s6] at e3
  have g24 : Grown w4 W0 := gtrans (gtrans g2 g3) g4
  have g30 : Grown w3 W0 := gtrans g1 g24
  refine ⟨⟨rfl, (show MLs w4 w.heap.size (.slice (some ⟨w3.heap.size, 0, none⟩) 0 (k + 1)) [] from e0).kp (Kp.of g24), Blk.grown e1 (gtrans g3 g4), Blk.grown B2 g30, M3.grown g30, by omega⟩, ⟨Blk.grown e2 g4, e3, fun j hj => gat g30 (M3.cell (za j hj) hb), Nat.le_refl _⟩, Blk.grown u3 g30, s7, ?_⟩
  have := Blk.lt B2
  omega
 clear hW0 B3 HB HG G2 x0 x1 x2 x3 q1 q2 q3 q4 HZ MK wk
 obtain ⟨hA, hn0, hn, hnn, hcap⟩ := unhide HA
 obtain ⟨_, lU, _, hb, lb⟩ := unhide HU
 obtain ⟨hJ0, hC0, hU0, hsz, hw3⟩ := unhide ST
 obtain ⟨i0, hi, hz0, hz1, hz2⟩ := info_parts Tryz.infoMat
 have HI0 := hide (And.intro hi hz1)
 clear hi hz0 hz1 hz2
 refine range_own (P := Tryz.prog) (encs := encT n nn) (St := StT W0.heap.size U) (D := fun q => q = S3 ∨ q = S3 + 1) (Px := fun _ _ => True) (Pp := goesT) (S := fun _ _ => False) (Sp := SpT W0.heap.size U n nn c0 n0 A) rfl (by omega) (gf := 154) (lb := #[.pointer (some ⟨S3 + 3, 0, none⟩), .pointer (some ⟨S3 + 2, 0, none⟩)]) rfl trivial (enters_of Tryz.func154 (by kernel_rfl) rfl) (fun _ => rfl)
  (fun A B q x hs hq hx hc => hs.1.same q x hx hc)
  (fun l J Jx W hg hJ hY h0 => ?seq)
  (fun pre W => pre.length ≤ k ∧ TmJ w U n nn S3 k A pre.length pre W)
  (fun c pre W => c = .exit 0 ∧ pre.length = k + 1 ∧ TmJ w U n nn S3 k A (k + 1) pre W)
  (fun pre W W' row h hg hr => ⟨h.1, tmJ_own h.2 (by omega) hg hr⟩)
  (fun c pre W W' row h hg hr => ⟨h.1, h.2.1, tmJ_own h.2.2 (by omega) hg hr⟩)
  (fun _ _ _ _ h _ _ => h)
  (spT_own _ _ _ _ _ _ _ _)
  (fun pre X Y h s => ⟨h.1, tmJ_stT h.2 s (by omega) hw3 lU⟩)
  (fun pre W h => Nat.le_trans h.1 hk)
  ⟨Nat.zero_le _, hJ0⟩
  (fun x a' W => ∃ Bx, S3 + 4 ≤ Bx ∧ Blk Bx (XT n nn A 0 x).cells 38 W ∧ a' = { tmps := #[.pointer (some ⟨U, 0, none⟩), .agg #[.int .i64 n, .int .i64 n, .slice (some ⟨b, o, none⟩) nn cap], .int .i64 k, undef, .pointer (some ⟨w.heap.size, 0, none⟩), .pointer (some ⟨w.heap.size + 1, 0, none⟩), .slice none 0 0, .int .i64 0, .int .i64 0, .pointer (some ⟨S3 + 1, 0, none⟩), .pointer (some ⟨Bx, 0, none⟩), .pointer (some ⟨U, 0, none⟩), .agg #[.int .i64 n, .int .i64 n, .slice (some ⟨b, o, none⟩) nn cap], .bool true, .int .i64 0, .int .i64 0, .bool false, undef, .int .i64 k, .bool false, .bool false, .int .i64 k, .bool false, .bool false, .int .i64 k, .int .i64 ((k : Int) + 1), .slice (some ⟨S3, 0, none⟩) 0 (k + 1), .pointer (some ⟨U, 0, none⟩), .agg #[.int .i64 n, .int .i64 n, .slice (some ⟨b, o, none⟩) nn cap], .func (.func 154) #[] #[.pointer (some ⟨S3 + 3, 0, none⟩), .pointer (some ⟨S3 + 2, 0, none⟩)], .agg #[.int .i64 n, .int .i64 n, .slice (some ⟨x.1, 0, none⟩) nn x.2], undef, undef, undef, undef, undef, undef, undef, undef, undef], defers := [] })
  (fun x a' _ W W' row h hg hr => let ⟨Bx, h1, h2, h3⟩ := h; ⟨Bx, h1, blk_own h2 hg (fun r e => (hr r e).2), h3⟩)
  ?assign ?body ?done ?stop
 case seq =>
  have gk : ∀ c cs T, Blk c cs T W0 → Blk c cs T W := fun c cs T h => (hg.block c (Blk.lt h) (by simp)).trans h
  have C1 : TmC W0.heap.size U n nn (S3 + 2) (S3 + 3) b o cap A W := ⟨gk _ _ _ hC0.1, gk _ _ _ hC0.2.1, fun j hj => hg.cell (hC0.2.2.1 j hj) (by simp), hg.size⟩
  exact terms1_in _ l W0.heap.size U n nn (S3 + 2) (S3 + 3) b o cap (by omega) c0 n0 hn0 A hn hnn hA hcap (by omega) (by omega) hb (by omega) (by omega) (by omega) (by omega) _ (by omega) (by omega) (by omega) (by omega) (fun q hq => by omega) J Jx hJ hY W (gk _ _ _ hU0) C1 h0
 case assign =>
  intro l pre x W K hI hK
  dsimp only [encT]
  clear hJ0 hC0 hU0 hA
  gi_wp2
  refine hK _ _ ((KeepsOthers.alloc _ _).from _) (KC.of (fun q hq _ => gblock ((Grown.refl _).alloc _ _) hq) (by simp)) ⟨hI.1, tmJ_own hI.2 (Nat.le_refl _) (World.grownBy_alloc _ _ none) (fun r e => by cases e)⟩ ⟨W.heap.size, hI.2.2.2.2.2.2, Blk.new _ _ _, rfl⟩
 case body =>
  rintro l pre x a' W ⟨hle, hI⟩ ⟨Bx, hBx, bX, rfl⟩ _
  obtain ⟨p, hp⟩ : ∃ p, pre.length = p := ⟨_, rfl⟩
  rw [hp] at hle hI
  have x0 : W.cell? ⟨Bx, 0, none⟩ = some (.int .i64 n) := Blk.cell bX 0
  have x1 : W.cell? ⟨Bx, 1, none⟩ = some (.int .i64 n) := Blk.cell bX 1
  have x2 : W.cell? ⟨Bx, 2, none⟩ = some (.slice (some ⟨x.1, 0, none⟩) nn x.2) := Blk.cell bX 2
  have y0 : W.cell? ⟨S3 + 1, 0, none⟩ = some (.slice (some ⟨S3, 0, none⟩) p (k + 1)) := Blk.cell hI.2.2.1 0
  obtain ⟨hi, hz1⟩ := unhide HI0
  have hown : Hid ((W.alloc (.cells #[.int .i64 n, .int .i64 n, .slice (some ⟨x.1, 0, none⟩) nn x.2] 38)).ownsRow w.heap.size 38 3 (.slice (some ⟨S3, 0, none⟩) p (k + 1)) p (flat (listT n nn A pre))) := by
   have := hI.2.1
   unfold MLs at this
   rw [listT_len, hp] at this
   exact this.alloc _
  have HN : Hid (∀ j u, (XT n nn A p x).cells.toList[j]? = some u → (W.alloc (.cells #[.int .i64 n, .int .i64 n, .slice (some ⟨x.1, 0, none⟩) nn x.2] 38)).cell? ((⟨W.heap.size, 0, none⟩ : Addr).add j) = some u) := news_mat (x := XT n nn A p x) (Blk.new W _ _)
  have HS := hide (And.intro hI (And.intro hle hp))
  have HX : Hid (∀ u ∈ (XT n nn A p x).cells.toList, u.oneCell' = true) := cells_oneMV _
  have kp1 : p + 1 ≤ k + 1 := by omega
  clear hI hJ0 hC0 hU0 bX hBx hA hp HI0
  by_cases hpk : p < k
  ·have dk : decide ((k : Int) < (p : Int) + 1) = false := decide_eq_false (by omega)
   gi_wp2_with (gi_at_builtin; refine wpListIn_append_fits _ rfl _ _ 73 rfl w.heap.size 38 i0 3 Tryz.underlying73 hi hz1 S3 p (k + 1) (flat (listT n nn A pre)) rfl (unhide hown) ⟨W.heap.size, 0, none⟩ 1 1 (XT n nn A p x).cells.toList rfl rfl (unhide HN) (unhide HX) kp1 ?_; intro w5 hown' hgrow; have P := hide ((unhide HS).1.app (w' := w5) (x := x) hw3 hown' hgrow); have y1 : w5.cell? ⟨S3 + 1, 0, none⟩ = some (.slice (some ⟨S3, 0, none⟩) p (k + 1)) := Blk.cell (unhide P).1 0; have y2 : w5.cell? ⟨w.heap.size + 1, 0, none⟩ = some (.int .i64 k) := Blk.cell (unhide P).2.1 0; have ff := Blk.free (unhide P).1; have ne : w.heap.size + 1 ≠ S3 + 1 := (by omega); clear hown' hgrow)
   have e1 : (pre ++ [x]).length = p + 1 := by rw [List.length_append, (unhide HS).2.2]; rfl
   refine ⟨(unhide P).2.2.2.2.from _, (unhide P).2.2.2.1, by omega, ?_⟩
   rw [e1]
   exact (unhide P).2.2.1
  ·have dk : decide ((k : Int) < (p : Int) + 1) = true := decide_eq_true (by omega)
   gi_wp2_with (gi_at_builtin; refine wpListIn_append_fits _ rfl _ _ 73 rfl w.heap.size 38 i0 3 Tryz.underlying73 hi hz1 S3 p (k + 1) (flat (listT n nn A pre)) rfl (unhide hown) ⟨W.heap.size, 0, none⟩ 1 1 (XT n nn A p x).cells.toList rfl rfl (unhide HN) (unhide HX) kp1 ?_; intro w5 hown' hgrow; have P := hide ((unhide HS).1.app (w' := w5) (x := x) hw3 hown' hgrow); have y1 : w5.cell? ⟨S3 + 1, 0, none⟩ = some (.slice (some ⟨S3, 0, none⟩) p (k + 1)) := Blk.cell (unhide P).1 0; have y2 : w5.cell? ⟨w.heap.size + 1, 0, none⟩ = some (.int .i64 k) := Blk.cell (unhide P).2.1 0; have ff := Blk.free (unhide P).1; have ne : w.heap.size + 1 ≠ S3 + 1 := (by omega); clear hown' hgrow)
   have e1 : (pre ++ [x]).length = p + 1 := by rw [List.length_append, (unhide HS).2.2]; rfl
   have e2 : p = k := by have := (unhide HS).2.1; omega
   have t := unhide P
   rw [e2] at t e1
   rw [e2]
   exact ⟨t.2.2.2.2.from _, t.2.2.2.1, rfl, e1, t.2.2.1⟩
 case done =>
  rintro d xs W hd h
  exact h.elim
 case stop =>
  rintro d c pre W hd hSp ⟨rfl, hl, hT⟩ hDf
  have y0 : W.cell? ⟨S3 + 1, 0, none⟩ = some (.slice (some ⟨S3, 0, none⟩) (k + 1) (k + 1)) := Blk.cell hT.2.2.1 0
  have HS := hide (And.intro hSp (And.intro hl hT))
  clear hJ0 hC0 hU0 hA hSp hT hl
  gi_wp2
  obtain ⟨hSp, hl, hT⟩ := unhide HS
  have gD := grownBy_putObj' W d (.deferred none)
  have hr : ∀ r, some d = some r → W0.heap.size ≤ r ∧ ∃ o : Obj, W.heap[r]? = some o ∧ o.isCells = false := fun r e => by cases e; exact ⟨hd, _, hDf, rfl⟩
  have t2 := tmJ_own hT (by omega) gD hr
  have s2 := spT_own _ _ _ _ _ _ _ _ _ _ _ _ hSp gD hr
  refine ⟨by simp, .inl ⟨_, _, rfl, run_takeDeferred hDf, ?_⟩⟩
  refine ⟨.tuple #[.slice (some ⟨S3, 0, none⟩) (k + 1) (k + 1), .int .i64 0], by simp [results, Tryz.results82, go_sem], ?_⟩
  obtain ⟨j, j1, j2, j3, j4⟩ := s2
  obtain rfl : j = k := by omega
  exact ⟨S3, pre, rfl, hl, t2.2.1, j3.mono (by omega), j4, t2.2.2.2.2.1⟩
end
end Go.Proofs.YtjobgjcfkomhpaaGreat
namespace Go.Proofs.YtjobgjcfkomhpaaGreat
open Go.RowKit Go.Shelf Go.Proofs.Wd
set_option maxRecDepth 10000
theorem pair_rowM (w : World) (x y : Int) : Row (w.alloc (.cells #[.int .i64 x, .int .i64 y] 3)) (some ⟨w.heap.size, 0, none⟩) 2 (pairZ x y) := by
 refine Or.inr ⟨_, 0, rfl, fun i hi => ?_⟩
 rw [Nat.zero_add, Blk.cell (Blk.new w _ _)]
 match i, hi with
 | 0, _ => rfl
 | 1, _ => rfl
theorem addTwoM (U : Nat) (a b : Int) (c : Bool) (n : Int) (bo cap : Nat) (w : World) (ha : I64 a) (hb : I64 b) (hn : 0 ≤ n ∧ n < 2305843009213693952) (h : UC U c n w) (hr : Row w (some ⟨bo, 0, none⟩) 2 (pairZ a b)) (ho : bo ≠ U) :
  Calls Tryz.prog 71 #[.pointer (some ⟨U, 0, none⟩), .slice (some ⟨bo, 0, none⟩) 2 cap] w fun e w' => e = .returned (.int .i64 (s2N a b)) ∧ UC U (c || s2C a b) (n + 2) w' ∧ Mod U w w' := by
 have := unitAdd U c n (some ⟨bo, 0, none⟩) 2 cap (pairZ a b) hn (by omega) (pairZ_I64 ha hb) w h hr (off_blk ho)
 rw [s2N_th, s2C_th] at this
 exact this
theorem mulTwoM (U : Nat) (a b : Int) (c : Bool) (n : Int) (bo cap : Nat) (w : World) (ha : I64 a) (hb : I64 b) (hn : 0 ≤ n ∧ n < 2305843009213693952) (h : UC U c n w) (hr : Row w (some ⟨bo, 0, none⟩) 2 (pairZ a b)) (ho : bo ≠ U) :
  Calls Tryz.prog 73 #[.pointer (some ⟨U, 0, none⟩), .slice (some ⟨bo, 0, none⟩) 2 cap] w fun e w' => e = .returned (.int .i64 (m2N a b)) ∧ UC U (c || m2C a b) (n + 2) w' ∧ Mod U w w' := by
 have := unitMul U c n (some ⟨bo, 0, none⟩) 2 cap (pairZ a b) hn (by omega) (pairZ_I64 ha hb) w h hr (off_blk ho)
 rw [m2N_th, m2C_th] at this
 exact this
theorem matAtG (r c i k b o cap : Nat) (Z : Nat → Int) (hr : 1 ≤ r ∧ r ≤ 12) (hc : 1 ≤ c ∧ c ≤ 12) (hi : i < r) (hk : k < c) (w : World) (hz : w.cell? ⟨b, o + (i * c + k), none⟩ = some (.int .i64 (Z (i * c + k)))) :
  Calls Tryz.prog 93 #[.agg #[.int .i64 r, .int .i64 c, .slice (some ⟨b, o, none⟩) (r * c) cap], .int .i64 i, .int .i64 k] w fun e w' => e = .returned (.int .i64 (Z (i * c + k))) ∧ Grown w w' :=
 (matAt r c i k b o cap Z hr hc hi hk w hz).mono fun e w' h => ⟨h.1, by rw [h.2]; exact (Grown.refl _).alloc _ _⟩
set_option maxRecDepth 20000 in
set_option maxHeartbeats 4000000 in
theorem scale1 (U : Nat) (cc : Bool) (nn : Int) (hn : 0 ≤ nn ∧ nn < 2305843009213693952) (r c i k b o cap Bu Ba Bs : Nat) (s : Int) (A : Nat → Int) (hr : 1 ≤ r ∧ r ≤ 12) (hc : 1 ≤ c ∧ c ≤ 12) (hi : i < r) (hk : k < c) (hs : I64 s) (hA : ∀ j, j < r * c → I64 (A j)) (w : World) (h : UC U cc nn w)
  (hBu : Blk Bu #[.pointer (some ⟨U, 0, none⟩)] 26 w) (hBa : Blk Ba #[.int .i64 r, .int .i64 c, .slice (some ⟨b, o, none⟩) (r * c) cap] 38 w) (hBs : Blk Bs #[.int .i64 s] 3 w) (za : ∀ j, j < r * c → w.cell? ⟨b, o + j, none⟩ = some (.int .i64 (A j))) (n1 : Bu ≠ U) (n2 : Ba ≠ U) (n3 : Bs ≠ U) (n4 : b ≠ U) :
  Calls Tryz.prog 92 #[.int .i64 (i : Int), .int .i64 (k : Int), .pointer (some ⟨Bu, 0, none⟩), .pointer (some ⟨Ba, 0, none⟩), .pointer (some ⟨Bs, 0, none⟩)] w fun e w' => e = .returned (.int .i64 (m2N (A (i * c + k)) s)) ∧ UC U (cc || m2C (A (i * c + k)) s) (nn + 2) w' ∧ Mk U w w' := by
 have hp := place_in i k r c hi hk
 have AT : Hid (∀ wx, Mod U w wx → Calls Tryz.prog 93 #[.agg #[.int .i64 r, .int .i64 c, .slice (some ⟨b, o, none⟩) (r * c) cap], .int .i64 i, .int .i64 k] wx fun e w' => e = .returned (.int .i64 (A (i * c + k))) ∧ Grown wx w') := fun wx mu => matAtG r c i k b o cap A hr hc hi hk wx (mu.cell (za _ hp) n4)
 have ix := hA _ hp
 obtain ⟨x, hx⟩ : ∃ x, A (i * c + k) = x := ⟨_, rfl⟩
 rw [hx] at AT ix
 rw [hx]
 have ML : Hid (∀ wx bo, bo ≠ U → UC U cc nn wx → Row wx (some ⟨bo, 0, none⟩) 2 (pairZ x s) → Calls Tryz.prog 73 #[.pointer (some ⟨U, 0, none⟩), .slice (some ⟨bo, 0, none⟩) 2 2] wx fun e w' => e = .returned (.int .i64 (m2N x s)) ∧ UC U (cc || m2C x s) (nn + 2) w' ∧ Mod U wx w') := fun wx bo hb hu hr => mulTwoM U x s cc nn bo 2 wx ix hs hn hu hr hb
 obtain ⟨z, hz⟩ : ∃ z, m2N x s = z := ⟨_, rfl⟩
 rw [hz] at ML
 rw [hz]
 obtain ⟨len, hlen⟩ : ∃ q, r * c = q := ⟨_, rfl⟩
 rw [hlen] at AT hBa
 have CW : Hid (∀ w', Mod U w w' → w'.cell? ⟨Bu, 0, none⟩ = some (.pointer (some ⟨U, 0, none⟩)) ∧ w'.cell? ⟨Ba, 0, none⟩ = some (.int .i64 r) ∧ w'.cell? ⟨Ba, 1, none⟩ = some (.int .i64 c) ∧ w'.cell? ⟨Ba, 2, none⟩ = some (.slice (some ⟨b, o, none⟩) len cap) ∧ w'.cell? ⟨Bs, 0, none⟩ = some (.int .i64 s)) := fun wx mu => ⟨Blk.cell (Blk.keep hBu mu n1) 0, Blk.cell (Blk.keep hBa mu n2) 0, Blk.cell (Blk.keep hBa mu n2) 1, Blk.cell (Blk.keep hBa mu n2) 2, Blk.cell (Blk.keep hBs mu n3) 0⟩
 have H : Hid (UC U cc nn w.drew) := h
 have hU : Hid (U < w.heap.size) := Blk.lt h
 obtain ⟨x1, x2, x3, x4, x5⟩ := unhide CW w (Mod.refl _ _)
 clear h hBu hBa hBs za hA hn hr hc hi hk hs hx hz hlen n1 n2 n3 n4 hp ix
 go_enter Tryz.func92, Tryz.ntmps92
 go_wp2
 go_region_held3 (fun w' => w'.cell? ⟨Bu, 0, none⟩ = some (.pointer (some ⟨U, 0, none⟩)) ∧ w'.cell? ⟨Ba, 0, none⟩ = some (.int .i64 r) ∧ w'.cell? ⟨Ba, 1, none⟩ = some (.int .i64 c) ∧ w'.cell? ⟨Ba, 2, none⟩ = some (.slice (some ⟨b, o, none⟩) len cap) ∧ w'.cell? ⟨Bs, 0, none⟩ = some (.int .i64 s))
   (simp [go_sem, *])
   (first
    | (go_at_call 93; refine (unhide AT _ (mod_drew U w)).mono ?_; rintro e w2 ⟨rfl, g2⟩; have M2 : Hid (Mod U w w2) := (mod_drew U w).trans (Mod.of g2); have U2 : Hid (UC U cc nn w2) := Blk.grown (unhide H) g2; obtain ⟨y1, y2, y3, y4, y5⟩ := unhide CW w2 (unhide M2); have j1 := heap_gt y1; have j2 := heap_gt y2; have j3 := heap_gt y5; have M3 : Hid (Mod U w (w2.alloc (.cells #[.int .i64 x, .int .i64 s] 3))) := (unhide M2).trans (Mod.of ((Grown.refl _).alloc _ _)); have U3 : Hid (UC U cc nn (w2.alloc (.cells #[.int .i64 x, .int .i64 s] 3))) := Blk.grown (unhide U2) ((Grown.refl _).alloc _ _); have ne : Hid (w2.heap.size ≠ U) := Nat.ne_of_gt (Blk.lt (unhide U2)); clear g2 AT)
    | (go_at_call 73; refine (unhide ML _ _ (unhide ne) (unhide U3) (pair_rowM w2 x s)).mono ?_; rintro e w4 ⟨rfl, h4, m4⟩; obtain ⟨t1, t2, t3, t4, t5⟩ := unhide CW w4 ((unhide M3).trans m4); have R4 : Hid (UC U (cc || m2C x s) (nn + 2) w4 ∧ Mk U w w4) := ⟨h4, Mk.of ((unhide M3).trans m4)⟩; clear h4 m4 ML))
 go_wp2
 go_ret
 exact ⟨rfl, unhide R4⟩
set_option maxRecDepth 20000 in
set_option maxHeartbeats 4000000 in
theorem reckon1M (U Q F : Nat) (eF : ∀ args w, (callFunc F args).run Tryz.prog w = .ok (.enter F args) w) (f : Int → Int → Int) (g : Int → Int → Bool) (d : Int) (cc : Bool) (nn : Int) (r c i k b o cap b2 o2 cap2 Bo Ba Bb : Nat) (A B : Nat → Int) (hr : 1 ≤ r ∧ r ≤ 12) (hc : 1 ≤ c ∧ c ≤ 12) (hi : i < r) (hk : k < c) (w : World) (h : UC U cc nn w)
  (C : ∀ wx bo, bo ≠ U → UC U cc nn wx → Mod U w wx → Row wx (some ⟨bo, 0, none⟩) 2 (pairZ (A (i * c + k)) (B (i * c + k))) → Calls Tryz.prog F #[.pointer (some ⟨U, 0, none⟩), .slice (some ⟨bo, 0, none⟩) 2 2] wx fun e w' => e = .returned (.int .i64 (f (A (i * c + k)) (B (i * c + k)))) ∧ UC U (cc || g (A (i * c + k)) (B (i * c + k))) (nn + d) w' ∧ Mod U wx w')
  (hBo : Blk Bo #[.func (.func F) #[.pointer (some ⟨U, 0, none⟩)] #[]] 67 w) (hBa : Blk Ba #[.int .i64 r, .int .i64 c, .slice (some ⟨b, o, none⟩) (r * c) cap] 38 w) (hBb : Blk Bb #[.int .i64 r, .int .i64 c, .slice (some ⟨b2, o2, none⟩) (r * c) cap2] 38 w) (za : ∀ j, j < r * c → w.cell? ⟨b, o + j, none⟩ = some (.int .i64 (A j))) (zb : ∀ j, j < r * c → w.cell? ⟨b2, o2 + j, none⟩ = some (.int .i64 (B j))) (n1 : Bo ≠ U) (n2 : Ba ≠ U) (n3 : Bb ≠ U) (n4 : b ≠ U) (n5 : b2 ≠ U) :
  Calls Tryz.prog 107 #[.int .i64 (i : Int), .int .i64 (k : Int), .pointer (some ⟨Bo, 0, none⟩), .pointer (some ⟨Ba, 0, none⟩), .pointer (some ⟨Bb, 0, none⟩)] w fun e w' => e = .returned (.int .i64 (f (A (i * c + k)) (B (i * c + k)))) ∧ UC U (cc || g (A (i * c + k)) (B (i * c + k))) (nn + d) w' ∧ Mk U w w' := by
 have hp := place_in i k r c hi hk
 have AT : Hid (∀ wx, Mod U w wx → Calls Tryz.prog 93 #[.agg #[.int .i64 r, .int .i64 c, .slice (some ⟨b, o, none⟩) (r * c) cap], .int .i64 i, .int .i64 k] wx fun e w' => e = .returned (.int .i64 (A (i * c + k))) ∧ Grown wx w') := fun wx mu => matAtG r c i k b o cap A hr hc hi hk wx (mu.cell (za _ hp) n4)
 have AT2 : Hid (∀ wx, Mod U w wx → Calls Tryz.prog 93 #[.agg #[.int .i64 r, .int .i64 c, .slice (some ⟨b2, o2, none⟩) (r * c) cap2], .int .i64 i, .int .i64 k] wx fun e w' => e = .returned (.int .i64 (B (i * c + k))) ∧ Grown wx w') := fun wx mu => matAtG r c i k b2 o2 cap2 B hr hc hi hk wx (mu.cell (zb _ hp) n5)
 have OP := hide C
 obtain ⟨x, hx⟩ : ∃ x, A (i * c + k) = x := ⟨_, rfl⟩
 obtain ⟨y, hy⟩ : ∃ y, B (i * c + k) = y := ⟨_, rfl⟩
 rw [hx] at AT
 rw [hy] at AT2
 rw [hx, hy] at OP
 rw [hx, hy]
 obtain ⟨z, hz⟩ : ∃ z, f x y = z := ⟨_, rfl⟩
 rw [hz] at OP
 rw [hz]
 obtain ⟨len, hlen⟩ : ∃ q, r * c = q := ⟨_, rfl⟩
 rw [hlen] at AT AT2 hBa hBb
 have CW : Hid (∀ w', Mod U w w' → w'.cell? ⟨Bo, 0, none⟩ = some (.func (.func F) #[.pointer (some ⟨U, 0, none⟩)] #[]) ∧ w'.cell? ⟨Ba, 0, none⟩ = some (.int .i64 r) ∧ w'.cell? ⟨Ba, 1, none⟩ = some (.int .i64 c) ∧ w'.cell? ⟨Ba, 2, none⟩ = some (.slice (some ⟨b, o, none⟩) len cap) ∧ w'.cell? ⟨Bb, 0, none⟩ = some (.int .i64 r) ∧ w'.cell? ⟨Bb, 1, none⟩ = some (.int .i64 c) ∧ w'.cell? ⟨Bb, 2, none⟩ = some (.slice (some ⟨b2, o2, none⟩) len cap2)) := fun wx mu => ⟨Blk.cell (Blk.keep hBo mu n1) 0, Blk.cell (Blk.keep hBa mu n2) 0, Blk.cell (Blk.keep hBa mu n2) 1, Blk.cell (Blk.keep hBa mu n2) 2, Blk.cell (Blk.keep hBb mu n3) 0, Blk.cell (Blk.keep hBb mu n3) 1, Blk.cell (Blk.keep hBb mu n3) 2⟩
 have H : Hid (UC U cc nn w.drew) := h
 obtain ⟨x1, x2, x3, x4, x5, x6, x7⟩ := unhide CW w (Mod.refl _ _)
 clear h hBo hBa hBb za zb hr hc hi hk hx hy hz hlen n1 n2 n3 n4 n5 hp C
 go_enter Tryz.func107, Tryz.ntmps107
 go_wp2
 go_region_held3 (fun w' => w'.cell? ⟨Bo, 0, none⟩ = some (.func (.func F) #[.pointer (some ⟨U, 0, none⟩)] #[]) ∧ w'.cell? ⟨Ba, 0, none⟩ = some (.int .i64 r) ∧ w'.cell? ⟨Ba, 1, none⟩ = some (.int .i64 c) ∧ w'.cell? ⟨Ba, 2, none⟩ = some (.slice (some ⟨b, o, none⟩) len cap) ∧ w'.cell? ⟨Bb, 0, none⟩ = some (.int .i64 r) ∧ w'.cell? ⟨Bb, 1, none⟩ = some (.int .i64 c) ∧ w'.cell? ⟨Bb, 2, none⟩ = some (.slice (some ⟨b2, o2, none⟩) len cap2))
   (simp [go_sem, *])
   (first
    | (go_at_call 93; refine (unhide AT _ (mod_drew U w)).mono ?_; clear AT; rintro e w2 ⟨rfl, g2⟩; have M2 : Hid (Mod U w w2) := (mod_drew U w).trans (Mod.of g2); have U2 : Hid (UC U cc nn w2) := Blk.grown (unhide H) g2; obtain ⟨y1, y2, y3, y4, y5, y6, y7⟩ := unhide CW w2 (unhide M2); clear g2)
    | (go_at_call 93; refine (unhide AT2 _ (unhide M2)).mono ?_; clear AT2; rintro e w3 ⟨rfl, g3⟩; have M3 : Hid (Mod U w w3) := (unhide M2).trans (Mod.of g3); have U3 : Hid (UC U cc nn w3) := Blk.grown (unhide U2) g3; obtain ⟨v1, v2, v3, v4, v5, v6, v7⟩ := unhide CW w3 (unhide M3); have j1 := heap_gt v1; have j2 := heap_gt v2; have j3 := heap_gt v5; have M4 : Hid (Mod U w (w3.alloc (.cells #[.int .i64 x, .int .i64 y] 3))) := (unhide M3).trans (Mod.of ((Grown.refl _).alloc _ _)); have U4 : Hid (UC U cc nn (w3.alloc (.cells #[.int .i64 x, .int .i64 y] 3))) := Blk.grown (unhide U3) ((Grown.refl _).alloc _ _); have ne : Hid (w3.heap.size ≠ U) := Nat.ne_of_gt (Blk.lt (unhide U3)); clear g3)
    | (refine (unhide OP _ _ (unhide ne) (unhide U4) (unhide M4) (pair_rowM w3 x y)).mono ?_; rintro e w5 ⟨rfl, h5, m5⟩; obtain ⟨t1, t2, t3, t4, t5, t6, t7⟩ := unhide CW w5 ((unhide M4).trans m5); have R4 : Hid (UC U (cc || g x y) (nn + d) w5 ∧ Mk U w w5) := ⟨h5, Mk.of ((unhide M4).trans m5)⟩; clear h5 m5 OP))
 go_wp2
 go_ret
 exact ⟨rfl, unhide R4⟩
set_option maxHeartbeats 2000000 in
theorem matReckonM (U Q F : Nat) (eF : ∀ args w, (callFunc F args).run Tryz.prog w = .ok (.enter F args) w) (f : Int → Int → Int) (g : Int → Int → Bool) (d : Int) (hd : 0 ≤ d ∧ d ≤ 1000) (I : World → Prop) (hI : ∀ a b, I a → Mk U a b → I b) (c0 : Bool) (n0 : Int) (hn : 0 ≤ n0 ∧ n0 < 1152921504606846976) (r c b o cap b2 o2 cap2 : Nat) (A B : Nat → Int) (hr : 1 ≤ r ∧ r ≤ 12) (hc : 1 ≤ c ∧ c ≤ 12)
  (hA : ∀ j, j < r * c → I64 (A j)) (hB : ∀ j, j < r * c → I64 (B j)) (w : World) (h : UC U c0 n0 w) (iw : I w)
  (C : ∀ cc nn x y wx bo, I64 x → I64 y → 0 ≤ nn ∧ nn < 2305843009213693952 → bo ≠ U → UC U cc nn wx → I wx → Row wx (some ⟨bo, 0, none⟩) 2 (pairZ x y) → Calls Tryz.prog F #[.pointer (some ⟨U, 0, none⟩), .slice (some ⟨bo, 0, none⟩) 2 2] wx fun e w' => e = .returned (.int .i64 (f x y)) ∧ UC U (cc || g x y) (nn + d) w' ∧ Mod U wx w')
  (za : ∀ j, j < r * c → w.cell? ⟨b, o + j, none⟩ = some (.int .i64 (A j))) (zb : ∀ j, j < r * c → w.cell? ⟨b2, o2 + j, none⟩ = some (.int .i64 (B j))) (n4 : b ≠ U) (n5 : b2 ≠ U) :
  Calls Tryz.prog 70 #[.pointer (some ⟨U, 0, none⟩), .agg #[.int .i64 r, .int .i64 c, .slice (some ⟨b, o, none⟩) (r * c) cap], .agg #[.int .i64 r, .int .i64 c, .slice (some ⟨b2, o2, none⟩) (r * c) cap2], .func (.func F) #[.pointer (some ⟨U, 0, none⟩)] #[]] w fun e w' => MatP r c (r * c) (fun p => f (A p) (B p)) 0 (fun w' => UC U (c0 || orC (fun p => g (A p) (B p)) (r * c)) (n0 + d * ((r * c : Nat) : Int)) w' ∧ Mk U w w') w e w' := by
 have hlt := Blk.lt h
 obtain ⟨G, s5, ba, bb, bo, br, bx⟩ := alloc5 w #[.int .i64 r, .int .i64 c, .slice (some ⟨b, o, none⟩) (r * c) cap] 38 #[.int .i64 r, .int .i64 c, .slice (some ⟨b2, o2, none⟩) (r * c) cap2] 38 #[.func (.func F) #[.pointer (some ⟨U, 0, none⟩)] #[]] 67 #[.int .i64 0, .int .i64 0, .slice none 0 0] 38 #[.int .i64 r, .int .i64 c, .slice (some ⟨b, o, none⟩) (r * c) cap, .int .i64 r, .int .i64 c, .slice (some ⟨b2, o2, none⟩) (r * c) cap2] 38
 have ok : okM r c (r * c) := ⟨by omega, by omega, by rw [Int.natCast_mul]⟩
 have RF := hide (refuse2 U c0 n0 ⟨hn.1, by omega⟩ r c (some ⟨b, o, none⟩) (r * c) cap r c (some ⟨b2, o2, none⟩) (r * c) cap2 (w.heap.size + 1 + 1 + 1 + 1) 0 (Or.inl ⟨⟨ok, ok⟩, rfl⟩) _ (Blk.grown h G) bx (by omega))
 have MD : Hid (∀ wx, Mk U w wx → UC U c0 n0 wx → Blk w.heap.size #[.int .i64 r, .int .i64 c, .slice (some ⟨b, o, none⟩) (r * c) cap] 38 wx → Blk (w.heap.size + 1) #[.int .i64 r, .int .i64 c, .slice (some ⟨b2, o2, none⟩) (r * c) cap2] 38 wx → Blk (w.heap.size + 1 + 1) #[.func (.func F) #[.pointer (some ⟨U, 0, none⟩)] #[]] 67 wx →
   Calls Tryz.prog 66 #[.int .i64 r, .int .i64 c, .func (.func 107) #[] #[.pointer (some ⟨w.heap.size + 1 + 1, 0, none⟩), .pointer (some ⟨w.heap.size, 0, none⟩), .pointer (some ⟨w.heap.size + 1, 0, none⟩)]] wx fun e w' => MadeP r c (fun p => f (A p) (B p)) (fun w' => UC U (c0 || orC (fun p => g (A p) (B p)) (r * c)) (n0 + d * ((r * c : Nat) : Int)) w' ∧ Mk U wx w') wx e w') := by
  intro wx mx ux xa xb xo
  refine madeU U c0 n0 d hd (fun p => g (A p) (B p)) 107 (enters_of Tryz.func107 (by kernel_rfl) rfl) _ r c hr hc (fun p => f (A p) (B p)) wx hn ux (fun cc nn i k a hi hk hnn ua ma => ?_)
  exact reckon1M U Q F eF f g d cc nn r c i k b o cap b2 o2 cap2 (w.heap.size + 1 + 1) w.heap.size (w.heap.size + 1) A B hr hc hi hk a ua
   (fun wy bo hbo hu my hrow => C cc nn _ _ wy bo (hA _ (place_in _ _ _ _ hi hk)) (hB _ (place_in _ _ _ _ hi hk)) hnn hbo hu (hI _ _ iw ((mx.trans ma).trans (Mk.of my))) hrow)
   (Blk.mk xo ma (by omega)) (Blk.mk xa ma (by omega)) (Blk.mk xb ma (by omega)) (fun j hj => ma.cell (mx.cell (za j hj) n4) n4) (fun j hj => ma.cell (mx.cell (zb j hj) n5) n5) (by omega) (by omega) (by omega) n4 n5
 have HB := hide (And.intro ba (And.intro bb (And.intro bo br)))
 have HG := hide (And.intro G (And.intro s5 hlt))
 obtain ⟨len, hlen⟩ : ∃ q, r * c = q := ⟨_, rfl⟩
 simp only [hlen] at RF HG HB MD
 rw [hlen]
 have HL := hide hlen
 clear G s5 ba bb bo br bx h hlt za zb hA hB hr hc hlen n4 n5 hn ok C hI iw
 go_enter Tryz.func70, Tryz.ntmps70
 go_wp2_with fail
 generalize (((((w.alloc (.cells #[.int .i64 r, .int .i64 c, .slice (some ⟨b, o, none⟩) len cap] 38)).alloc (.cells #[.int .i64 r, .int .i64 c, .slice (some ⟨b2, o2, none⟩) len cap2] 38)).alloc (.cells #[.func (.func F) #[.pointer (some ⟨U, 0, none⟩)] #[]] 67)).alloc (.cells #[.int .i64 0, .int .i64 0, .slice none 0 0] 38)).alloc (.cells #[.int .i64 r, .int .i64 c, .slice (some ⟨b, o, none⟩) len cap, .int .i64 r, .int .i64 c, .slice (some ⟨b2, o2, none⟩) len cap2] 38)) = w1 at *
 refine (unhide RF).mono ?_
 rintro e w2 ⟨rfl, u2, m2⟩
 have M2 : Hid (Mk U w w2) := Mk.of ((Mod.of (unhide HG).1).trans m2)
 have Z2 : Hid (w.heap.size + 1 + 1 + 1 + 1 + 1 ≤ w2.heap.size) := by have := (unhide HG).2.1; have := m2.2.2.2.2; show _ ≤ _; omega
 obtain ⟨ba, bb, bo, br⟩ := unhide HB
 have lU : Hid (U < w.heap.size) := (unhide HG).2.2
 have ba2 := Blk.keep ba m2 (by have := unhide lU; omega)
 have bb2 := Blk.keep bb m2 (by have := unhide lU; omega)
 have bo2 := Blk.keep bo m2 (by have := unhide lU; omega)
 have br2 := Blk.keep br m2 (by have := unhide lU; omega)
 have p0 : w2.cell? ⟨w.heap.size, 0, none⟩ = some (.int .i64 r) := Blk.cell ba2 0
 have p1 : w2.cell? ⟨w.heap.size, 1, none⟩ = some (.int .i64 c) := Blk.cell ba2 1
 have q0 : w2.cell? ⟨w.heap.size + 1, 0, none⟩ = some (.int .i64 r) := Blk.cell bb2 0
 have q1 : w2.cell? ⟨w.heap.size + 1, 1, none⟩ = some (.int .i64 c) := Blk.cell bb2 1
 have M4 := hide (unhide MD w2 (unhide M2) u2 ba2 bb2 bo2)
 have HR := hide br2
 clear ba bb bo br ba2 bb2 bo2 br2 u2 m2 RF HB MD
 go_wp2_with fail
 refine (unhide M4).mono ?_
 rintro e w5 ⟨Lb, h1, rfl, h3, u5, mk5⟩
 have b3 : Blk (w.heap.size + 1 + 1 + 1) #[.int .i64 0, .int .i64 0, .slice none 0 0] 38 w5 := Blk.mk (unhide HR) mk5 (by have := unhide lU; omega)
 have e0 : w5.cell? ⟨w.heap.size + 1 + 1 + 1, 0, none⟩ = some (.int .i64 0) := Blk.cell b3 0
 have e1 : w5.cell? ⟨w.heap.size + 1 + 1 + 1, 1, none⟩ = some (.int .i64 0) := Blk.cell b3 1
 have e2 : w5.cell? ⟨w.heap.size + 1 + 1 + 1, 2, none⟩ = some (.slice none 0 0) := Blk.cell b3 2
 have f := Blk.free b3
 have R := hide (And.intro b3 (And.intro h1 (And.intro h3 (And.intro u5 mk5))))
 clear b3 h1 h3 u5 mk5 M4 p0 p1 q0 q1
 go_wp2
 obtain ⟨b3, h1, h3, u5, mk5⟩ := unhide R
 have P := putM b3 (.int .i64 r) (.int .i64 c) (.slice (some ⟨Lb, 0, none⟩) (r * c) (r * c))
 generalize (((w5.setCell ⟨w.heap.size + 1 + 1 + 1, 0, none⟩ (.int .i64 r)).setCell ⟨w.heap.size + 1 + 1 + 1, 1, none⟩ (.int .i64 c)).setCell ⟨w.heap.size + 1 + 1 + 1, 2, none⟩ (.slice (some ⟨Lb, 0, none⟩) (r * c) (r * c))) = wE at *
 have c0 : wE.cell? ⟨w.heap.size + 1 + 1 + 1, 0, none⟩ = some (.int .i64 r) := Blk.cell P.1 0
 have c1 : wE.cell? ⟨w.heap.size + 1 + 1 + 1, 1, none⟩ = some (.int .i64 c) := Blk.cell P.1 1
 have c2 : wE.cell? ⟨w.heap.size + 1 + 1 + 1, 2, none⟩ = some (.slice (some ⟨Lb, 0, none⟩) (r * c) (r * c)) := Blk.cell P.1 2
 refine bodyPost_ret (v := .tuple #[.agg #[.int .i64 r, .int .i64 c, .slice (some ⟨Lb, 0, none⟩) (r * c) (r * c)], .int .i64 0]) (by simp [results, Tryz.results70, go_sem, c0, c1, c2]) rfl ?_
 have hz := unhide Z2
 have hu := unhide lU
 have mw := unhide M2
 have hl' := unhide HL
 subst hl'
 exact ⟨_, _, Lb, rfl, by omega, Or.inr ⟨rfl, Blk.keep h3 P.2 (by omega)⟩, Nat.le_refl _, Blk.keep u5 P.2 (by omega), (mw.trans mk5).new P.2 (by omega)⟩
set_option maxHeartbeats 2000000 in
theorem matSum_ok (U : Nat) (c0 : Bool) (n0 : Int) (hn : 0 ≤ n0 ∧ n0 < 1152921504606846976) (r c b o cap b2 o2 cap2 : Nat) (A B : Nat → Int) (hr : 1 ≤ r ∧ r ≤ 12) (hc : 1 ≤ c ∧ c ≤ 12) (hA : ∀ j, j < r * c → I64 (A j)) (hB : ∀ j, j < r * c → I64 (B j)) (w : World) (h : UC U c0 n0 w)
  (za : ∀ j, j < r * c → w.cell? ⟨b, o + j, none⟩ = some (.int .i64 (A j))) (zb : ∀ j, j < r * c → w.cell? ⟨b2, o2 + j, none⟩ = some (.int .i64 (B j))) (n4 : b ≠ U) (n5 : b2 ≠ U) :
  Calls Tryz.prog 31 #[.pointer (some ⟨U, 0, none⟩), .agg #[.int .i64 r, .int .i64 c, .slice (some ⟨b, o, none⟩) (r * c) cap], .agg #[.int .i64 r, .int .i64 c, .slice (some ⟨b2, o2, none⟩) (r * c) cap2]] w fun e w' => MatP r c (r * c) (fun p => s2N (A p) (B p)) 0 (fun w' => UC U (c0 || orC (fun p => s2C (A p) (B p)) (r * c)) (n0 + 2 * ((r * c : Nat) : Int)) w' ∧ Mk U w w') w e w' := by
 have hlt := Blk.lt h
 obtain ⟨G, s3, x0, x1, x2⟩ := alloc3 w #[.int .i64 r, .int .i64 c, .slice (some ⟨b, o, none⟩) (r * c) cap] 38 #[.int .i64 r, .int .i64 c, .slice (some ⟨b2, o2, none⟩) (r * c) cap2] 38 #[.int .i64 0, .int .i64 0, .slice none 0 0] 38
 have RK := hide (matReckonM U 0 71 (enters_of Tryz.func71 (by kernel_rfl) rfl) s2N s2C 2 (by omega) (fun _ => True) (fun _ _ _ _ => trivial) c0 n0 hn r c b o cap b2 o2 cap2 A B hr hc hA hB _ (Blk.grown h G) trivial (fun cc nn x y wx bo hx hy hnn hbo hu _ hrow => addTwoM U x y cc nn bo 2 wx hx hy hnn hu hrow hbo) (fun j hj => gat G (za j hj)) (fun j hj => gat G (zb j hj)) n4 n5)
 have HB := hide x2
 have HG := hide (And.intro G (And.intro s3 hlt))
 obtain ⟨len, hlen⟩ : ∃ q, r * c = q := ⟨_, rfl⟩
 simp only [hlen] at RK HG HB
 rw [hlen]
 clear G s3 x0 x1 x2 h hlt za zb hA hB hr hc hlen n4 n5 hn
 go_enter Tryz.func31, Tryz.ntmps31
 go_wp2_with fail
 generalize (((w.alloc (.cells #[.int .i64 r, .int .i64 c, .slice (some ⟨b, o, none⟩) len cap] 38)).alloc (.cells #[.int .i64 r, .int .i64 c, .slice (some ⟨b2, o2, none⟩) len cap2] 38)).alloc (.cells #[.int .i64 0, .int .i64 0, .slice none 0 0] 38)) = w1 at *
 refine (unhide RK).mono ?_
 rintro e w5 ⟨ao, cp, Lb, rfl, h1, h3, h4, u5, mk5⟩
 have lU : Hid (U < w.heap.size) := (unhide HG).2.2
 have b3 : Blk (w.heap.size + 1 + 1) #[.int .i64 0, .int .i64 0, .slice none 0 0] 38 w5 := Blk.mk (unhide HB) mk5 (by have := unhide lU; omega)
 have e0 : w5.cell? ⟨w.heap.size + 1 + 1, 0, none⟩ = some (.int .i64 0) := Blk.cell b3 0
 have e1 : w5.cell? ⟨w.heap.size + 1 + 1, 1, none⟩ = some (.int .i64 0) := Blk.cell b3 1
 have e2 : w5.cell? ⟨w.heap.size + 1 + 1, 2, none⟩ = some (.slice none 0 0) := Blk.cell b3 2
 have f := Blk.free b3
 have R := hide (And.intro b3 (And.intro h1 (And.intro h3 (And.intro h4 (And.intro u5 mk5)))))
 clear b3 h1 h3 h4 u5 mk5 RK
 go_wp2
 obtain ⟨b3, h1, h3, h4, u5, mk5⟩ := unhide R
 have P := putM b3 (.int .i64 r) (.int .i64 c) (.slice ao len cp)
 generalize (((w5.setCell ⟨w.heap.size + 1 + 1, 0, none⟩ (.int .i64 r)).setCell ⟨w.heap.size + 1 + 1, 1, none⟩ (.int .i64 c)).setCell ⟨w.heap.size + 1 + 1, 2, none⟩ (.slice ao len cp)) = wE at *
 have c0 : wE.cell? ⟨w.heap.size + 1 + 1, 0, none⟩ = some (.int .i64 r) := Blk.cell P.1 0
 have c1 : wE.cell? ⟨w.heap.size + 1 + 1, 1, none⟩ = some (.int .i64 c) := Blk.cell P.1 1
 have c2 : wE.cell? ⟨w.heap.size + 1 + 1, 2, none⟩ = some (.slice ao len cp) := Blk.cell P.1 2
 refine bodyPost_ret (v := .tuple #[.agg #[.int .i64 r, .int .i64 c, .slice ao len cp], .int .i64 0]) (by simp [results, Tryz.results31, go_sem, c0, c1, c2]) rfl ?_
 have hu := unhide lU
 have hs := (unhide HG).2.1
 have mw : Mk U w w5 := (Mk.of (Mod.of (unhide HG).1)).trans mk5
 exact ⟨_, _, Lb, rfl, by omega, h3.imp id (fun h => ⟨h.1, Blk.keep h.2 P.2 (by omega)⟩), h4, Blk.keep u5 P.2 (by omega), mw.new P.2 (by omega)⟩
set_option maxHeartbeats 2000000 in
theorem matScale_ok (U : Nat) (c0 : Bool) (n0 s : Int) (hs : I64 s) (hn : 0 ≤ n0 ∧ n0 < 1152921504606846976) (r c b o cap : Nat) (A : Nat → Int) (hr : 1 ≤ r ∧ r ≤ 12) (hc : 1 ≤ c ∧ c ≤ 12) (hA : ∀ j, j < r * c → I64 (A j)) (w : World) (h : UC U c0 n0 w) (za : ∀ j, j < r * c → w.cell? ⟨b, o + j, none⟩ = some (.int .i64 (A j))) (n4 : b ≠ U) :
  Calls Tryz.prog 44 #[.pointer (some ⟨U, 0, none⟩), .agg #[.int .i64 r, .int .i64 c, .slice (some ⟨b, o, none⟩) (r * c) cap], .int .i64 s] w fun e w' => MatP r c (r * c) (fun p => m2N (A p) s) 0 (fun w' => UC U (c0 || orC (fun p => m2C (A p) s) (r * c)) (n0 + 2 * ((r * c : Nat) : Int)) w' ∧ Mk U w w') w e w' := by
 have hlt := Blk.lt h
 obtain ⟨G, s5, bu, ba, bs, br, bx⟩ := alloc5 w #[.pointer (some ⟨U, 0, none⟩)] 26 #[.int .i64 r, .int .i64 c, .slice (some ⟨b, o, none⟩) (r * c) cap] 38 #[.int .i64 s] 3 #[.int .i64 0, .int .i64 0, .slice none 0 0] 38 #[.int .i64 r, .int .i64 c, .slice (some ⟨b, o, none⟩) (r * c) cap] 38
 have RF := hide (refuse1 U c0 n0 ⟨hn.1, by omega⟩ r c (some ⟨b, o, none⟩) (r * c) cap (w.heap.size + 1 + 1 + 1 + 1) 0 (Or.inl ⟨⟨by omega, by omega, by rw [Int.natCast_mul]⟩, rfl⟩) _ (Blk.grown h G) bx (by omega))
 have MD : Hid (∀ wx, Mk U w wx → UC U c0 n0 wx → Blk w.heap.size #[.pointer (some ⟨U, 0, none⟩)] 26 wx → Blk (w.heap.size + 1) #[.int .i64 r, .int .i64 c, .slice (some ⟨b, o, none⟩) (r * c) cap] 38 wx → Blk (w.heap.size + 1 + 1) #[.int .i64 s] 3 wx →
   Calls Tryz.prog 66 #[.int .i64 r, .int .i64 c, .func (.func 92) #[] #[.pointer (some ⟨w.heap.size, 0, none⟩), .pointer (some ⟨w.heap.size + 1, 0, none⟩), .pointer (some ⟨w.heap.size + 1 + 1, 0, none⟩)]] wx fun e w' => MadeP r c (fun p => m2N (A p) s) (fun w' => UC U (c0 || orC (fun p => m2C (A p) s) (r * c)) (n0 + 2 * ((r * c : Nat) : Int)) w' ∧ Mk U wx w') wx e w') := by
  intro wx mx ux xu xa xs
  refine madeU U c0 n0 2 (by omega) (fun p => m2C (A p) s) 92 (enters_of Tryz.func92 (by kernel_rfl) rfl) _ r c hr hc (fun p => m2N (A p) s) wx hn ux (fun cc nn i k a hi hk hnn ua ma => ?_)
  exact scale1 U cc nn hnn r c i k b o cap w.heap.size (w.heap.size + 1) (w.heap.size + 1 + 1) s A hr hc hi hk hs hA a ua (Blk.mk xu ma (by omega)) (Blk.mk xa ma (by omega)) (Blk.mk xs ma (by omega)) (fun j hj => ma.cell (mx.cell (za j hj) n4) n4) (by omega) (by omega) (by omega) n4
 have HB := hide (And.intro bu (And.intro ba (And.intro bs br)))
 have HG := hide (And.intro G (And.intro s5 hlt))
 obtain ⟨len, hlen⟩ : ∃ q, r * c = q := ⟨_, rfl⟩
 simp only [hlen] at RF HG HB MD
 rw [hlen]
 have HL := hide hlen
 clear G s5 bu ba bs br bx h hlt za hA hr hc hlen n4 hn hs
 go_enter Tryz.func44, Tryz.ntmps44
 go_wp2_with fail
 generalize (((((w.alloc (.cells #[.pointer (some ⟨U, 0, none⟩)] 26)).alloc (.cells #[.int .i64 r, .int .i64 c, .slice (some ⟨b, o, none⟩) len cap] 38)).alloc (.cells #[.int .i64 s] 3)).alloc (.cells #[.int .i64 0, .int .i64 0, .slice none 0 0] 38)).alloc (.cells #[.int .i64 r, .int .i64 c, .slice (some ⟨b, o, none⟩) len cap] 38)) = w1 at *
 refine (unhide RF).mono ?_
 rintro e w2 ⟨rfl, u2, m2⟩
 have M2 : Hid (Mk U w w2) := Mk.of ((Mod.of (unhide HG).1).trans m2)
 have Z2 : Hid (w.heap.size + 1 + 1 + 1 + 1 + 1 ≤ w2.heap.size) := by have := (unhide HG).2.1; have := m2.2.2.2.2; show _ ≤ _; omega
 obtain ⟨bu, ba, bs, br⟩ := unhide HB
 have lU : Hid (U < w.heap.size) := (unhide HG).2.2
 have bu2 := Blk.keep bu m2 (by have := unhide lU; omega)
 have ba2 := Blk.keep ba m2 (by have := unhide lU; omega)
 have bs2 := Blk.keep bs m2 (by have := unhide lU; omega)
 have br2 := Blk.keep br m2 (by have := unhide lU; omega)
 have p0 : w2.cell? ⟨w.heap.size + 1, 0, none⟩ = some (.int .i64 r) := Blk.cell ba2 0
 have p1 : w2.cell? ⟨w.heap.size + 1, 1, none⟩ = some (.int .i64 c) := Blk.cell ba2 1
 have M4 := hide (unhide MD w2 (unhide M2) u2 bu2 ba2 bs2)
 have HR := hide br2
 clear bu ba bs br bu2 ba2 bs2 br2 u2 m2 RF HB MD
 go_wp2_with fail
 refine (unhide M4).mono ?_
 rintro e w5 ⟨Lb, h1, rfl, h3, u5, mk5⟩
 have b3 : Blk (w.heap.size + 1 + 1 + 1) #[.int .i64 0, .int .i64 0, .slice none 0 0] 38 w5 := Blk.mk (unhide HR) mk5 (by have := unhide lU; omega)
 have e0 : w5.cell? ⟨w.heap.size + 1 + 1 + 1, 0, none⟩ = some (.int .i64 0) := Blk.cell b3 0
 have e1 : w5.cell? ⟨w.heap.size + 1 + 1 + 1, 1, none⟩ = some (.int .i64 0) := Blk.cell b3 1
 have e2 : w5.cell? ⟨w.heap.size + 1 + 1 + 1, 2, none⟩ = some (.slice none 0 0) := Blk.cell b3 2
 have f := Blk.free b3
 have R := hide (And.intro b3 (And.intro h1 (And.intro h3 (And.intro u5 mk5))))
 clear b3 h1 h3 u5 mk5 M4 p0 p1
 go_wp2
 obtain ⟨b3, h1, h3, u5, mk5⟩ := unhide R
 have P := putM b3 (.int .i64 r) (.int .i64 c) (.slice (some ⟨Lb, 0, none⟩) (r * c) (r * c))
 generalize (((w5.setCell ⟨w.heap.size + 1 + 1 + 1, 0, none⟩ (.int .i64 r)).setCell ⟨w.heap.size + 1 + 1 + 1, 1, none⟩ (.int .i64 c)).setCell ⟨w.heap.size + 1 + 1 + 1, 2, none⟩ (.slice (some ⟨Lb, 0, none⟩) (r * c) (r * c))) = wE at *
 have c0 : wE.cell? ⟨w.heap.size + 1 + 1 + 1, 0, none⟩ = some (.int .i64 r) := Blk.cell P.1 0
 have c1 : wE.cell? ⟨w.heap.size + 1 + 1 + 1, 1, none⟩ = some (.int .i64 c) := Blk.cell P.1 1
 have c2 : wE.cell? ⟨w.heap.size + 1 + 1 + 1, 2, none⟩ = some (.slice (some ⟨Lb, 0, none⟩) (r * c) (r * c)) := Blk.cell P.1 2
 refine bodyPost_ret (v := .tuple #[.agg #[.int .i64 r, .int .i64 c, .slice (some ⟨Lb, 0, none⟩) (r * c) (r * c)], .int .i64 0]) (by simp [results, Tryz.results44, go_sem, c0, c1, c2]) rfl ?_
 have hz := unhide Z2
 have hu := unhide lU
 have mw := unhide M2
 have hl' := unhide HL
 subst hl'
 exact ⟨_, _, Lb, rfl, by omega, Or.inr ⟨rfl, Blk.keep h3 P.2 (by omega)⟩, Nat.le_refl _, Blk.keep u5 P.2 (by omega), (mw.trans mk5).new P.2 (by omega)⟩
def oneL (l : List Int) : Nat → Int := fun i => ix l i * 4294967296
theorem lits_small {l : List Int} (h : ∀ x ∈ l, -1000000 ≤ x ∧ x ≤ 1000000) : ∀ i, i < l.length → -1000000 ≤ ix l i ∧ ix l i ≤ 1000000 := by
 intro i hi
 have : ix l i = l[i] := by simp [ix, hi]
 rw [this]
 exact h _ (List.getElem_mem _)
end Go.Proofs.YtjobgjcfkomhpaaGreat
namespace Go.Proofs.YtjobgjcfkomhpaaGreat
open Go.RowKit Go.Shelf Go.Proofs.Wd
set_option maxRecDepth 10000
section
variable {w : World} {U : Nat} {P : Bool → Prop} {D : Int} {bx : List (Nat × Array Value)} {rows : List (Option Addr × Nat × (Nat → Int))} {wx w' : World}
end
theorem sumR (U : Nat) (r c : Nat) (hr : 1 ≤ r ∧ r ≤ 12) (hc : 1 ≤ c ∧ c ≤ 12) (a1 a2 : Option Addr) (p1 p2 : Nat) (A B : Nat → Int) (hA : ∀ j, j < r * c → I64 (A j)) (hB : ∀ j, j < r * c → I64 (B j)) (w : World) (ra : Row w a1 (r * c) A ∧ Off U (r * c) a1) (rb : Row w a2 (r * c) B ∧ Off U (r * c) a2) (c0 : Bool) (n0 : Int) (hn : 0 ≤ n0 ∧ n0 < 1152921504606846976) (h : UC U c0 n0 w) :
  Calls Tryz.prog 31 #[.pointer (some ⟨U, 0, none⟩), .agg #[.int .i64 r, .int .i64 c, .slice a1 (r * c) p1], .agg #[.int .i64 r, .int .i64 c, .slice a2 (r * c) p2]] w fun e w' => MatP r c (r * c) (fun p => s2N (A p) (B p)) 0 (fun w' => UC U (c0 || orC (fun p => s2C (A p) (B p)) (r * c)) (n0 + 2 * ((r * c : Nat) : Int)) w' ∧ Mk U w w') w e w' := by
 have k1 := mul12n r c hr hc
 obtain ⟨b, o, rfl, za⟩ := ra.1.some k1.1
 obtain ⟨b2, o2, rfl, zb⟩ := rb.1.some k1.1
 exact matSum_ok U c0 n0 hn r c b o p1 b2 o2 p2 A B hr hc hA hB w h za zb (off_at ra.2 k1.1) (off_at rb.2 k1.1)
theorem scaleR (U : Nat) (s : Int) (hs : I64 s) (r c : Nat) (hr : 1 ≤ r ∧ r ≤ 12) (hc : 1 ≤ c ∧ c ≤ 12) (a1 : Option Addr) (p1 : Nat) (A : Nat → Int) (hA : ∀ j, j < r * c → I64 (A j)) (w : World) (ra : Row w a1 (r * c) A ∧ Off U (r * c) a1) (c0 : Bool) (n0 : Int) (hn : 0 ≤ n0 ∧ n0 < 1152921504606846976) (h : UC U c0 n0 w) :
  Calls Tryz.prog 44 #[.pointer (some ⟨U, 0, none⟩), .agg #[.int .i64 r, .int .i64 c, .slice a1 (r * c) p1], .int .i64 s] w fun e w' => MatP r c (r * c) (fun p => m2N (A p) s) 0 (fun w' => UC U (c0 || orC (fun p => m2C (A p) s) (r * c)) (n0 + 2 * ((r * c : Nat) : Int)) w' ∧ Mk U w w') w e w' := by
 have k1 := mul12n r c hr hc
 obtain ⟨b, o, rfl, za⟩ := ra.1.some k1.1
 exact matScale_ok U c0 n0 s hs hn r c b o p1 A hr hc hA w h za (off_at ra.2 k1.1)
end Go.Proofs.YtjobgjcfkomhpaaGreat
namespace Go.Proofs.YtjobgjcfkomhpaaGreat
open Go.RowKit Go.Shelf Go.Proofs.Wd
set_option maxRecDepth 10000
section
variable {P : Program} {ops : Array Oper} {Q : Exit → Act → World → Prop} {md : Region.Mode} {S : World → Prop} {g : Nat}
theorem region_cutP {T : Type} {id : Nat} {dr : Bool} {a : Act} {w : World} (acts : Act → T → Act) (R : T → World → Prop) (h : (Code.region id ops dr).wp P (fun e a' w' => e = .normal ∧ ∃ t, R t w' ∧ a' = acts a t) a w) (fin : ∀ t w', R t w' → Q .normal (acts a t) w') : (Code.region id ops dr).wp P Q a w :=
 Code.wp_mono (fun e a' w' h => by obtain ⟨rfl, t, hR, rfl⟩ := h; exact fin t w' hR) h
theorem pick2_GP {i j fuel : Nat} {listed : Array Bool} {a : Act} {w : World} (hr : Region.ready md ops listed = [i, j])
  (h1 : ∀ K : Act → World → Prop, (∀ a' w', (i ≠ g → S w') → wpAnyG P md ops (NoPanic Q) S g fuel (listed.setIfInBounds i true) a' w' → K a' w') → wpOp P ops (NoPanic Q) i K a w)
  (h2 : ∀ K : Act → World → Prop, (∀ a' w', (j ≠ g → S w') → wpAnyG P md ops (NoPanic Q) S g fuel (listed.setIfInBounds j true) a' w' → K a' w') → wpOp P ops (NoPanic Q) j K a w) : wpAnyG P md ops (NoPanic Q) S g (fuel + 1) listed a w :=
 ⟨fun h0 => by (rw [hr] at h0; cases h0), fun q hq => by
  rw [hr] at hq
  simp only [List.mem_cons, List.not_mem_nil, or_false] at hq
  rcases hq with rfl | rfl
  ·exact h1 _ (fun a' w' x y => ⟨x, y⟩)
  ·exact h2 _ (fun a' w' x y => ⟨x, y⟩)⟩
end
set_option maxRecDepth 50000 in
set_option maxHeartbeats 1000000 in
theorem clonePoly (b o n cap : Nat) (Z : Nat → Int) (h1 : 1 ≤ n) (hn : n ≤ 1000000) (w : World) (hr : Row w (some ⟨b, o, none⟩) n Z) :
  Calls Tryz.prog 88 #[.slice (some ⟨b, o, none⟩) n cap] w fun e w' => ∃ B cap', e = .returned (.slice (some ⟨B, 0, none⟩) n cap') ∧ n ≤ cap' ∧ w.heap.size ≤ B ∧ Own B n Z w' ∧ Kp w w' := by
 obtain ⟨i0, hi, hz0, hz1, hz2⟩ := info_parts Tryz.infoInt
 have OM := hide (World.ownsRow_made (base := w.heap.size) (e := 3) (size := 1) w #[] 0 (Nat.le_refl _) (by unfold maxLen; omega) (by simp))
 have NEWH : Hid (∀ j u, ((List.range n).map fun i => Value.int .i64 (Z i))[j]? = some u → (w.alloc (.cells #[] 3)).cell? ((⟨b, o, none⟩ : Addr).add j) = some u) := by
  intro j u hu
  rw [List.getElem?_map] at hu
  by_cases hj : j < n
  ·rw [List.getElem?_range hj] at hu
   simp at hu
   subst hu
   obtain ⟨b', o', e, hc⟩ := hr.at hj
   cases e
   rw [Go.WideShapes.add_plain]
   exact gat ((Grown.refl _).alloc _ _) hc
  ·rw [List.getElem?_eq_none (by simpa using hj)] at hu
   simp at hu
 have H1 := hide h1
 have q22 : ∀ w : World, (binOp .eql 22 (.slice (some ⟨b, o, none⟩) n cap) (.slice none 0 0)).run Tryz.prog w = .ok (.bool false) w := fun w => Lib.run_eql_slice_nil w _ _ _ n cap 0 0 Tryz.underlying22
 clear hr h1
 go_enter Tryz.func88, Tryz.ntmps88
 go_wp2_with (at_builtin; refine wpList_append_own _ rfl _ _ 22 rfl w.heap.size 3 i0 (.int .i64 0) 1 8 Tryz.underlying22 hi hz0 hz1 hz2 rfl (by decide) _ _ _ rfl (unhide OM) ⟨b, o, none⟩ n cap ((List.range n).map fun i => Value.int .i64 (Z i)) rfl (by simp) (unhide NEWH) (cells_one _ _) (by unfold maxLen; omega) (by omega) (by simp) ?_; intro v' w1 hown' hgrow _)
 rw [Nat.zero_add, List.nil_append] at hown'
 obtain ⟨B, cap2, rfl, hC, hB, own2⟩ := owns_ownC (unhide H1) hown'
 have K1 : Hid (Kp w w1) := Kp.by ((Kp.refl _).alloc _ _) hgrow (fun k e => by have := ((unhide OM).lt k e).1; omega)
 have R1 := hide (And.intro hC (And.intro hB own2))
 clear hown' hgrow hB own2 hC
 go_wp2
 go_ret
 exact ⟨_, _, rfl, (unhide R1).1, (unhide R1).2.1, (unhide R1).2.2, unhide K1⟩
set_option maxHeartbeats 1000000 in
theorem backMk (ao : Option Addr) (len cap : Nat) (w : World) : Calls Tryz.prog 89 #[.slice ao len cap] w fun e w' => e = .returned (.func (.func 124) #[] #[.pointer (some ⟨w.heap.size, 0, none⟩)]) ∧ w' = w.alloc (.cells #[.slice ao len cap] 73) := by
 go_enter Tryz.func89, Tryz.ntmps89
 go_wp2
 go_ret
 exact ⟨rfl, rfl⟩
def encB (X : Nat → MV) (x : Nat) : Array Value := #[.int .i64 (x : Int), .agg #[.int .i64 (X x).R, .int .i64 (X x).C, .slice (X x).ao (X x).len (X x).cap]]
def nextB (n : Nat) (pre : List Nat) (x : Nat) : Prop := x + 1 + pre.length = n
section
attribute [local go_sem] Oper.semAt_some
set_option maxRecDepth 100000 in
set_option maxHeartbeats 4000000 in
theorem back1_in (f l sb n cap : Nat) (ao : Option Addr) (X : Nat → MV) (hf : 1 ≤ f) (hn : n ≤ 1000) (D : Nat → Prop) (dsb : ¬ D sb) (St : World → World → Prop) (J Jx : List Nat → World → Prop)
  (dD : ∀ q, (0 < n → ∃ o, ao = some ⟨q, o, none⟩) → 0 < n → ¬ D q)
  (hY : ∀ pre x W1, J pre W1 → nextB n pre x → YieldAt Fence.wide (f - 1) Tryz.prog l (encB X x) W1 fun e W' => KC D W1 W' ∧ ((e = .returned (.bool true) ∧ J (pre ++ [x]) W' ∧ True) ∨ (e = .returned (.bool false) ∧ Jx (pre ++ [x]) W')))
  (W : World) (hs : Blk sb #[.slice ao n cap] 73 W) (hm : Mats W ao n X) (h0 : J [] W) :
  CallsIn Fence.wide f Tryz.prog 124 #[.func (.yield l) #[] #[], .pointer (some ⟨sb, 0, none⟩)] W fun e W' => (∃ v, e = .returned v) ∧ ((∃ xs : List Nat, xs.length = n ∧ J xs W') ∨ (∃ pre : List Nat, True ∧ Jx pre W')) := by
 have d0 : W.cell? ⟨sb, 0, none⟩ = some (.slice ao n cap) := Blk.cell hs 0
 have wa : wrap64 ((n : Int) - 1) = (n : Int) - 1 := by unfold wrap64; omega
 have HY := hide hY
 have HD := hide dD
 have H0 := hide (And.intro h0 (And.intro hs hm))
 clear hY h0 hs hm dD
 refine callsIn_of_wp Tryz.func124 rfl trivial ?_ rfl
 simp only [Tryz.ntmps124, List.size_toArray, List.length_cons, List.length_nil, Nat.reduceAdd, Nat.reduceSub, Array.replicate_succ, Array.replicate_zero, List.push_toArray, List.append_toArray, List.nil_append, List.cons_append]
 gi_wp2
 gi_loopw [3] (fun i wr => ∃ j : Nat, j ≤ n ∧ i = .int .i64 ((n : Int) - 1 - (j : Int)) ∧ Hid ((∃ pre : List Nat, pre.length = j ∧ J pre wr) ∧ Blk sb #[.slice ao n cap] 73 wr ∧ Mats wr ao n X)) (fun i _ => (intOf i + 1).toNat)
 case atStart => exact ⟨0, Nat.zero_le _, by simp, ⟨[], rfl, (unhide H0).1⟩, (unhide H0).2⟩
 case round =>
  obtain ⟨j, hj, rfl, HI⟩ := hrel
  clear H0 d0
  by_cases hlt : j < n
  ·obtain ⟨x, hx⟩ : ∃ x : Nat, (n : Int) - 1 - (j : Int) = (x : Int) := ⟨n - 1 - j, by omega⟩
   have hxn : x < n := by omega
   rw [hx]
   obtain ⟨⟨pre, hp, hJ⟩, hs, hm⟩ := unhide HI
   have d0 : wr.cell? ⟨sb, 0, none⟩ = some (.slice ao n cap) := Blk.cell hs 0
   obtain ⟨b, o, rfl, c0, c1, c2⟩ := hm.at hxn
   obtain ⟨fn, tmps, assign, body, hy, hR⟩ := unhide HY pre x wr hJ (by unfold nextB; omega)
   dsimp only [encB] at hy
   have HS := hide (And.intro hp (And.intro hs hm))
   have i0 : (0 : Int) ≤ (x : Int) := by omega
   have i1 : (x : Int) < (n : Int) := by omega
   have w1 : wrap64 ((x : Int) - 1) = (x : Int) - 1 := by unfold wrap64; omega
   have HX := hide hx
   clear hp hs hm hJ HI hx
   gi_wp2
   refine hR.mono ?_
   rintro e W3 ⟨hk, (⟨rfl, hJ3, _⟩ | ⟨rfl, hJx⟩)⟩
   ·have R3 : Hid ((∃ pre : List Nat, pre.length = j + 1 ∧ J pre W3) ∧ Blk sb #[.slice (some ⟨b, o, none⟩) n cap] 73 W3 ∧ Mats W3 (some ⟨b, o, none⟩) n X) :=
     ⟨⟨_, by rw [List.length_append, (unhide HS).1]; rfl, hJ3⟩, hk.blk (unhide HS).2.1 dsb, (unhide HS).2.2.cells fun q o' v hq hv => hk.cell hv (unhide HD q hq (by omega))⟩
    clear hJ3 hk hR hy HS c0 c1 c2 d0
    gi_wp2
    go_roundw
    case rel => exact ⟨j + 1, by omega, by have := unhide HX; congr 1; omega, R3⟩
    case measure => simp [intOf]
   ·have R3 : Hid (Jx (pre ++ [x]) W3) := hJx
    clear hJx hk hR hy HS c0 c1 c2 d0
    gi_wp2
    refine bodyPost_ret (results_none rfl _ _ _) rfl ?_
    exact ⟨⟨_, rfl⟩, .inr ⟨_, trivial, unhide R3⟩⟩
  ·obtain rfl : j = n := by omega
   have HF : Hid (∃ xs : List Nat, xs.length = j ∧ J xs wr) := (unhide HI).1
   have en : (j : Int) - 1 - (j : Int) = -1 := by omega
   clear HI
   rw [en]
   gi_wp2
   go_end0
   exact ⟨⟨_, rfl⟩, .inl (unhide HF)⟩
end
end Go.Proofs.YtjobgjcfkomhpaaGreat
namespace Go.Proofs.YtjobgjcfkomhpaaGreat
open Go.RowKit Go.Shelf Go.Proofs.Wd
set_option maxRecDepth 10000
theorem slice_toM (ao : Option Addr) (len cap n : Nat) (h : n ≤ cap) (w : World) : (Instr.sliceAt 73 (.slice ao len cap) none (some (.int .i64 n)) none).run Tryz.prog w = .ok (.slice ao n cap) w := by
 have e : Tryz.prog.underlying 73 = some (.slice (Tryz.prog.elem 73)) := by kernel_rfl
 have s1 : (sizeOf (Tryz.prog.elem 73)).run Tryz.prog w = .ok 3 w := by kernel_rfl
 rw [run_sliceAt_slice w 73 _ _ _ _ e, run_slice_h w 73 ao len cap e .i64 n (by omega) (by omega), s1]
 show Result.ok (sliced ao 0 (n : Int).toNat cap 3) w = _
 have a0 : ao.map (fun x => x.add (0 * 3)) = ao := by cases ao <;> simp [Addr.add]
 unfold sliced
 rw [a0]
 simp
def ValP (r c : Int) (len : Nat) (Z : Nat → Int) (err : Int) (X : World → Prop) (w : World) (e : Ending) (w' : World) : Prop :=
 ∃ ao cap B, e = .returned (.tuple #[.agg #[.int .i64 r, .int .i64 c, .slice ao len cap], .int .i64 err]) ∧ len ≤ cap ∧ w.heap.size ≤ B ∧ (len = 0 ∨ (ao = some ⟨B, 0, none⟩ ∧ Own B len Z w')) ∧ X w'
theorem own_own2 {B len : Nat} {Z : Nat → Int} {W W' : World} {row : Option Nat} (h : Own B len Z W) (hg : W.grownBy W' row) (hr : ∀ r, row = some r → ∃ o : Obj, W.heap[r]? = some o ∧ o.isCells = false) : Own B len Z W' := let ⟨cur, h1, h2⟩ := h; ⟨cur, blk_own h1 hg hr, h2⟩
def AtV (w : World) (U r c nn vb : Nat) (t : Int) (c0 : Bool) (n0 : Int) (Z : Nat → Int) (G : Bool) (d : Int) (B cp : Nat) (W : World) : Prop :=
 Blk vb #[.int .i64 r, .int .i64 c, .slice (some ⟨B, 0, none⟩) nn cp] 38 W ∧ Own B nn Z W ∧ nn ≤ cp ∧ w.heap.size ≤ B ∧ UW U (c0 || G) n0 d W ∧ Blk w.heap.size #[.pointer (some ⟨U, 0, none⟩)] 26 W ∧ Blk (w.heap.size + 1) #[.int .i64 t] 3 W ∧ Blk (w.heap.size + 1 + 1) #[.int .i64 0, .int .i64 0, .slice none 0 0] 38 W ∧ Mk U w W ∧ w.heap.size + 3 ≤ vb
theorem AtV.own {w W W' : World} {U r c nn vb B cp b : Nat} {t n0 d : Int} {c0 G : Bool} {Z : Nat → Int} {row : Option Nat} (h : AtV w U r c nn vb t c0 n0 Z G d B cp W) (hB : w.heap.size ≤ b) (hg : W.grownBy W' row) (hr : ∀ r, row = some r → b ≤ r ∧ ∃ o : Obj, W.heap[r]? = some o ∧ o.isCells = false) : AtV w U r c nn vb t c0 n0 Z G d B cp W' := by
 have hr' : ∀ r, row = some r → ∃ o : Obj, W.heap[r]? = some o ∧ o.isCells = false := fun r e => (hr r e).2
 obtain ⟨h1, h2, h3, h4, ⟨q, q1, q2, q3⟩, h5, h6, h7, h8, h9⟩ := h
 exact ⟨blk_own h1 hg hr', own_own2 h2 hg hr', h3, h4, ⟨q, q1, q2, blk_own q3 hg hr'⟩, blk_own h5 hg hr', blk_own h6 hg hr', blk_own h7 hg hr', mk_own h8 hB hg hr, h9⟩
theorem AtV.put {w W W' : World} {U r c nn vb B cp B2 cp2 : Nat} {t n0 d d' q' : Int} {c0 G G' : Bool} {Z Y : Nat → Int} (h : AtV w U r c nn vb t c0 n0 Z G d B cp W) (lU : U < w.heap.size) (m : Mk U W W') (u : UC U (c0 || G') q' W') (hq : n0 ≤ q') (hq2 : q' ≤ n0 + d') (hb : Blk B2 (ints nn Y) 3 W') (hB2 : W.heap.size ≤ B2) (hc : nn ≤ cp2) :
  AtV w U r c nn vb t c0 n0 Y G' d' B2 cp2 (((W'.setCell ⟨vb, 0, none⟩ (.int .i64 r)).setCell ⟨vb, 1, none⟩ (.int .i64 c)).setCell ⟨vb, 2, none⟩ (.slice (some ⟨B2, 0, none⟩) nn cp2)) ∧
   KC (fun k => k = U ∨ k = vb) W (((W'.setCell ⟨vb, 0, none⟩ (.int .i64 r)).setCell ⟨vb, 1, none⟩ (.int .i64 c)).setCell ⟨vb, 2, none⟩ (.slice (some ⟨B2, 0, none⟩) nn cp2)) ∧
   KeepsOthers W (((W'.setCell ⟨vb, 0, none⟩ (.int .i64 r)).setCell ⟨vb, 1, none⟩ (.int .i64 c)).setCell ⟨vb, 2, none⟩ (.slice (some ⟨B2, 0, none⟩) nn cp2)) ∧
   Blk vb #[.int .i64 r, .int .i64 c, .slice (some ⟨B, 0, none⟩) nn cp] 38 W' ∧ Mk U w (((W'.setCell ⟨vb, 0, none⟩ (.int .i64 r)).setCell ⟨vb, 1, none⟩ (.int .i64 c)).setCell ⟨vb, 2, none⟩ (.slice (some ⟨B2, 0, none⟩) nn cp2)) := by
 obtain ⟨h1, h2, h3, h4, ⟨q0, q1, q2, q3⟩, h5, h6, h7, h8, h9⟩ := h
 have lv := Blk.lt h1
 have b1 := Blk.mk h1 m (by omega)
 have P := putM b1 (.int .i64 r) (.int .i64 c) (.slice (some ⟨B2, 0, none⟩) nn cp2)
 have hw := h8.2.2.2
 have K : Mk U w (((W'.setCell ⟨vb, 0, none⟩ (.int .i64 r)).setCell ⟨vb, 1, none⟩ (.int .i64 c)).setCell ⟨vb, 2, none⟩ (.slice (some ⟨B2, 0, none⟩) nn cp2)) := (h8.trans m).new P.2 (by omega)
 refine ⟨⟨P.1, Own.of (Blk.keep hb P.2 (by omega)), hc, by omega, ⟨q', hq, hq2, Blk.keep u P.2 (by omega)⟩, Blk.keep (Blk.mk h5 m (by omega)) P.2 (by omega), Blk.keep (Blk.mk h6 m (by omega)) P.2 (by omega), Blk.keep (Blk.mk h7 m (by omega)) P.2 (by omega), K, h9⟩, ?_, ?_, b1, K⟩
 ·refine KC.of (fun i hi hD => ?_) (Nat.le_trans m.2.2.2 P.2.2.2.2.2)
  rw [P.2.2.2.1 i (by have := m.2.2.2; omega) (fun e => hD (Or.inr e))]
  exact m.2.2.1 i hi (fun e => hD (Or.inl e))
 ·exact ((StT.mk (N := 0) m q3 (Nat.zero_le _)).1.trans (KeepsOthers.setCell _ _ _)).trans ((KeepsOthers.setCell _ _ _).trans (KeepsOthers.setCell _ _ _))
theorem AtV.kp {w W W' : World} {U r c nn vb B cp : Nat} {t n0 d : Int} {c0 G : Bool} {Z : Nat → Int} (h : AtV w U r c nn vb t c0 n0 Z G d B cp W) (k : Kp W W') : AtV w U r c nn vb t c0 n0 Z G d B cp W' := by
 obtain ⟨h1, h2, h3, h4, ⟨q, q1, q2, q3⟩, h5, h6, h7, h8, h9⟩ := h
 exact ⟨Blk.kp h1 k, h2.kp k, h3, h4, ⟨q, q1, q2, Blk.kp q3 k⟩, Blk.kp h5 k, Blk.kp h6 k, Blk.kp h7 k, h8.trans (Mk.kp k), h9⟩
section
attribute [local go_sem] Oper.semAt_some
set_option maxRecDepth 100000 in
set_option maxHeartbeats 16000000 in
theorem polyAt_ok (U r c nn n cap : Nat) (ao : Option Addr) (c0 : Bool) (n0 t : Int) (hn0 : 0 ≤ n0 ∧ n0 < 1000000000000000000) (ht : I64 t) (hr : 1 ≤ r ∧ r ≤ 12) (hc : 1 ≤ c ∧ c ≤ 12) (hnn : r * c = nn) (hn : n ≤ 24) (hcap : n + 1 ≤ cap) (X : Nat → MV) (hX : ∀ i, i ≤ n → (X i).R = r ∧ (X i).C = c ∧ (X i).len = nn) (hI : ∀ i, i ≤ n → ∀ j, j < nn → I64 ((X i).Z j)) (w : World) (h : UC U c0 n0 w) (hm : Mats w ao (n + 1) X) (hrow : ∀ i, i ≤ n → Row w (X i).ao nn (X i).Z) (ho : ∀ i, i ≤ n → Off U nn (X i).ao) (hoM : Off U (n + 1) ao) :
  Calls Tryz.prog 42 #[.pointer (some ⟨U, 0, none⟩), .slice ao (n + 1) cap, .int .i64 t] w fun e w' => ValP r c nn (horZ (fun i => (X i).Z) n t n) 0 (fun w' => UW U (c0 || horC (fun i => (X i).Z) n t nn n) n0 100000 w' ∧ Mk U w w') w e w' := by
 have k2 := mul12n r c hr hc
 rw [hnn] at k2
 have okA : okP (n + 1) X := ⟨⟨by omega, by omega⟩, fun i hi => by
  obtain ⟨e1, e2, e3⟩ := hX i (by omega)
  obtain ⟨f1, f2, f3⟩ := hX 0 (by omega)
  rw [e1, e2, e3, f1, f2]
  exact ⟨⟨by omega, by omega, by rw [← hnn, Int.natCast_mul]⟩, rfl, rfl⟩⟩
 have lU := Blk.lt h
 obtain ⟨b, o, rfl, hcell⟩ := hm.resolve_left (by omega)
 have bU : b ≠ U := hoM (by omega) _ rfl
 obtain ⟨lb, lo, hlo, hlc⟩ := (hrow n (Nat.le_refl _)).some k2.1
 have lU2 : lb ≠ U := ho n (Nat.le_refl _) (by omega) _ hlo
 have PL : Hid (∀ wx, Mk U w wx → Calls Tryz.prog 87 #[.slice (some ⟨b, o, none⟩) (n + 1) cap] wx fun e w' => e = .returned (.bool true) ∧ Grown wx w') := fun wx m => by
  have := polyPolynomial (some ⟨b, o, none⟩) (n + 1) cap X (by omega) wx (Or.inr ⟨b, o, rfl, fun i hi j hj => by
   have e := hcell i hi j hj
   have hs : ∃ v, (X i).cells[j]? = some v := ⟨_, Array.getElem?_eq_getElem (by show j < 3; exact hj)⟩
   obtain ⟨v, hv⟩ := hs
   rw [hv] at e ⊢
   exact m.cell e bU⟩)
  rwa [okPB_yes okA] at this
 have HC : Hid (∀ i, i ≤ n → ∀ wx, Mk U w wx → wx.cell? ⟨b, o + i * 3, none⟩ = some (.int .i64 r) ∧ wx.cell? ⟨b, o + i * 3 + 1, none⟩ = some (.int .i64 c) ∧ wx.cell? ⟨b, o + i * 3 + 2, none⟩ = some (.slice (X i).ao nn (X i).cap)) := fun i hi wx m => by
  obtain ⟨e1, e2, e3⟩ := hX i hi
  have q0 := hcell i (by omega) 0 (by omega)
  have q1 := hcell i (by omega) 1 (by omega)
  have q2 := hcell i (by omega) 2 (by omega)
  rw [show (X i).cells[0]? = some (.int .i64 (X i).R) from rfl, e1] at q0
  rw [show (X i).cells[1]? = some (.int .i64 (X i).C) from rfl, e2] at q1
  rw [show (X i).cells[2]? = some (.slice (X i).ao (X i).len (X i).cap) from rfl, e3] at q2
  exact ⟨m.cell q0 bU, m.cell q1 bU, m.cell q2 bU⟩
 have HM : Hid (∀ wx, Mk U w wx → Mats wx (some ⟨b, o, none⟩) n X) := fun wx m => Or.inr ⟨b, o, rfl, fun i hi j hj => by
  have e := hcell i (by omega) j hj
  have hs : ∃ v, (X i).cells[j]? = some v := ⟨_, Array.getElem?_eq_getElem (by show j < 3; exact hj)⟩
  obtain ⟨v, hv⟩ := hs
  rw [hv] at e ⊢
  exact m.cell e bU⟩
 have HR : Hid (∀ i, i ≤ n → ∀ wx, Mk U w wx → Row wx (X i).ao nn (X i).Z ∧ Off U nn (X i).ao) := fun i hi wx m => ⟨(hrow i hi).mk m (ho i hi), ho i hi⟩
 have CL : Hid (∀ wx, Mk U w wx → Calls Tryz.prog 88 #[.slice (some ⟨lb, lo, none⟩) nn (X n).cap] wx fun e w' => ∃ B cap', e = .returned (.slice (some ⟨B, 0, none⟩) nn cap') ∧ nn ≤ cap' ∧ wx.heap.size ≤ B ∧ Own B nn (X n).Z w' ∧ Kp wx w') := fun wx m => by
  have := (hrow n (Nat.le_refl _)).mk m (ho n (Nat.le_refl _))
  rw [hlo] at this
  exact clonePoly lb lo nn (X n).cap (X n).Z k2.1 (by omega) wx this
 have SC : Hid (∀ Z B cp wx (k : Bool) (q : Int), 0 ≤ q ∧ q < 1152921504606846976 → (∀ j, j < nn → I64 (Z j)) → UC U k q wx → Row wx (some ⟨B, 0, none⟩) nn Z → B ≠ U → Calls Tryz.prog 44 #[.pointer (some ⟨U, 0, none⟩), .agg #[.int .i64 r, .int .i64 c, .slice (some ⟨B, 0, none⟩) nn cp], .int .i64 t] wx fun e w' => MatP r c nn (fun p => m2N (Z p) t) 0 (fun w' => UC U (k || orC (fun p => m2C (Z p) t) nn) (q + 2 * (nn : Int)) w' ∧ Mk U wx w') wx e w') := by
  intro Z B cp wx k q hq hZ hu hr' hB
  have := scaleR U t ht r c hr hc (some ⟨B, 0, none⟩) cp Z (by rw [hnn]; exact hZ) wx (by rw [hnn]; exact ⟨hr', off_blk hB⟩) k q hq hu
  rw [hnn] at this
  exact this
 have SU : Hid (∀ i, i ≤ n → ∀ Z B cp wx (k : Bool) (q : Int), 0 ≤ q ∧ q < 1152921504606846976 → (∀ j, j < nn → I64 (Z j)) → UC U k q wx → Row wx (some ⟨B, 0, none⟩) nn Z → B ≠ U → Mk U w wx → Calls Tryz.prog 31 #[.pointer (some ⟨U, 0, none⟩), .agg #[.int .i64 r, .int .i64 c, .slice (some ⟨B, 0, none⟩) nn cp], .agg #[.int .i64 r, .int .i64 c, .slice (X i).ao nn (X i).cap]] wx fun e w' => MatP r c nn (fun p => s2N (Z p) ((X i).Z p)) 0 (fun w' => UC U (k || orC (fun p => s2C (Z p) ((X i).Z p)) nn) (q + 2 * (nn : Int)) w' ∧ Mk U wx w') wx e w') := by
  intro i hi Z B cp wx k q hq hZ hu hr' hB m
  have := sumR U r c hr hc (some ⟨B, 0, none⟩) (X i).ao cp (X i).cap Z (X i).Z (by rw [hnn]; exact hZ) (by rw [hnn]; exact hI i hi) wx (by rw [hnn]; exact ⟨hr', off_blk hB⟩) (by rw [hnn]; exact ⟨(hrow i hi).mk m (ho i hi), ho i hi⟩) k q hq hu
  rw [hnn] at this
  exact this
 have HH := hide (And.intro h (And.intro lU (And.intro bU (And.intro k2 (And.intro hn0 (And.intro hI hX))))))
 have G : Grown w (((w.alloc (.cells #[.pointer (some ⟨U, 0, none⟩)] 26)).alloc (.cells #[.int .i64 t] 3)).alloc (.cells #[.int .i64 0, .int .i64 0, .slice none 0 0] 38)) := (((Grown.refl _).alloc _ _).alloc _ _).alloc _ _
 have B1 : Hid (Blk w.heap.size #[.pointer (some ⟨U, 0, none⟩)] 26 (((w.alloc (.cells #[.pointer (some ⟨U, 0, none⟩)] 26)).alloc (.cells #[.int .i64 t] 3)).alloc (.cells #[.int .i64 0, .int .i64 0, .slice none 0 0] 38)) ∧ Blk (w.heap.size + 1) #[.int .i64 t] 3 (((w.alloc (.cells #[.pointer (some ⟨U, 0, none⟩)] 26)).alloc (.cells #[.int .i64 t] 3)).alloc (.cells #[.int .i64 0, .int .i64 0, .slice none 0 0] 38)) ∧ Blk (w.heap.size + 1 + 1) #[.int .i64 0, .int .i64 0, .slice none 0 0] 38 (((w.alloc (.cells #[.pointer (some ⟨U, 0, none⟩)] 26)).alloc (.cells #[.int .i64 t] 3)).alloc (.cells #[.int .i64 0, .int .i64 0, .slice none 0 0] 38)) ∧ (((w.alloc (.cells #[.pointer (some ⟨U, 0, none⟩)] 26)).alloc (.cells #[.int .i64 t] 3)).alloc (.cells #[.int .i64 0, .int .i64 0, .slice none 0 0] 38)).heap.size = w.heap.size + 3) := by
  refine ⟨Blk.grown (Blk.grown (Blk.new w _ _) ((Grown.refl _).alloc _ _)) ((Grown.refl _).alloc _ _), Blk.grown (blk_new2 w _ _ _) ((Grown.refl _).alloc _ _), ?_, by simp⟩
  have := Blk.new ((w.alloc (.cells #[.pointer (some ⟨U, 0, none⟩)] 26)).alloc (.cells #[.int .i64 t] 3)) #[.int .i64 0, .int .i64 0, .slice none 0 0] 38
  simp only [World.size_alloc] at this
  exact this
 have HG := hide G
 have i1 : (n : Int) < (n : Int) + 1 := by omega
 have i0 : (0 : Int) ≤ (n : Int) := by omega
 have wn : wrap64 (n : Int) = (n : Int) := by unfold wrap64; omega
 have wn1 : wrap64 ((n : Int) + 1 - 1) = (n : Int) := by unfold wrap64; omega
 have SL := fun w => slice_toM (some ⟨b, o, none⟩) (n + 1) cap n (by omega) w
 have HL := hide (And.intro hlo (And.intro hn hcap))
 clear hm hcell okA hrow ho hoM hlc hlo lU2 G h lU bU k2 hn0 hI hX hr hc hnn ht hn hcap
 refine (callsIn_wide (n := 6)).1 ?_
 refine callsIn_of_wp_marks Tryz.func42 rfl trivial ?_ rfl
 simp only [Tryz.ntmps42, List.size_toArray, List.length_cons, List.length_nil, Nat.reduceAdd, Nat.reduceSub, Array.replicate_succ, Array.replicate_zero, List.push_toArray, List.append_toArray, List.nil_append, List.cons_append]
 gi_wp2_with fail
 generalize (((w.alloc (.cells #[.pointer (some ⟨U, 0, none⟩)] 26)).alloc (.cells #[.int .i64 t] 3)).alloc (.cells #[.int .i64 0, .int .i64 0, .slice none 0 0] 38)) = w1 at *
 refine wpIn_wide.2 ?_
 have y0 : w1.drew.cell? ⟨w.heap.size, 0, none⟩ = some (.pointer (some ⟨U, 0, none⟩)) := Blk.cell (w := w1) (unhide B1).1 0
 refine region_G (fun w' => w'.cell? ⟨w.heap.size, 0, none⟩ = some (.pointer (some ⟨U, 0, none⟩))) 4 (by kernel_rfl) y0 (fun hHeld => ?_)
 refine take_G (i := 0) (d := 13) (v := .pointer (some ⟨U, 0, none⟩)) rfl rfl (by kernel_rfl) (by kernel_rfl) (by kernel_rfl) (by kernel_rfl) (by kernel_rfl) (Or.inl ⟨by rfl, ?_⟩) hHeld ?_
 ·intro wS hSw
  clear hHeld
  go_simp
 (try simp only [Act.put, List.setIfInBounds_toArray, List.set_cons_zero, List.set_cons_succ])
 refine take_G (i := 1) (d := 14) (v := .slice (some ⟨b, o, none⟩) (n + 1) cap) rfl rfl (by kernel_rfl) (by kernel_rfl) (by kernel_rfl) (by kernel_rfl) (by kernel_rfl) (Or.inl ⟨by rfl, ?_⟩) hHeld ?_
 ·intro wS hSw
  clear hHeld
  go_simp
 (try simp only [Act.put, List.setIfInBounds_toArray, List.set_cons_zero, List.set_cons_succ])
 refine step_G (i := 2) (by kernel_rfl) (fun K hK => ?_)
 refine wpOp_of rfl rfl ?_
 unfold Oper.wp
 go_simp
 refine (unhide PL w1.drew (Mk.kp (show Kp w w1 from Kp.of (unhide HG)))).mono ?_
 rintro e w2 ⟨rfl, g2⟩
 have y1 := gat g2 y0
 have GG : Hid (Grown w1 w2) := gtrans ((Grown.refl w1).drew) g2
 refine hK _ _ (fun _ => y1) ?_
 clear hK K g2 y0 hHeld
 have hHeld := y1
 (try simp only [Act.put, List.setIfInBounds_toArray, List.set_cons_zero, List.set_cons_succ])
 have RF := hide (polyRefuse U c0 n0 ⟨(unhide HH).2.2.2.2.1.1, by have := (unhide HH).2.2.2.2.1.2; omega⟩ true w2 (Blk.grown (Blk.grown (unhide HH).1 (unhide HG)) (unhide GG)))
 refine step_G (i := 3) (by kernel_rfl) (fun K hK => ?_)
 refine wpOp_of rfl rfl ?_
 unfold Oper.wp
 go_simp
 refine (unhide RF).mono ?_
 rintro e w3 ⟨rfl, u3, m3⟩
 have hU := (unhide HH).2.1
 have M3 : Mk U w w3 := (Mk.kp (Kp.of (gtrans (unhide HG) (unhide GG)))).trans (Mk.of m3)
 have B3 : Hid (Blk w.heap.size #[.pointer (some ⟨U, 0, none⟩)] 26 w3 ∧ Blk (w.heap.size + 1) #[.int .i64 t] 3 w3 ∧ Blk (w.heap.size + 1 + 1) #[.int .i64 0, .int .i64 0, .slice none 0 0] 38 w3 ∧ UC U c0 n0 w3 ∧ Mk U w w3) := ⟨Blk.keep (Blk.grown (unhide B1).1 (unhide GG)) m3 (by omega), Blk.keep (Blk.grown (unhide B1).2.1 (unhide GG)) m3 (by omega), Blk.keep (Blk.grown (unhide B1).2.2.1 (unhide GG)) m3 (by omega), u3, M3⟩
 refine hK _ _ (fun _ => Blk.cell (unhide B3).1 0) ?_
 clear hK K u3 m3 M3 hU hHeld y1 RF
 simp only [errB, if_true]
 (try simp only [Act.put, List.setIfInBounds_toArray, List.set_cons_zero, List.set_cons_succ])
 refine step_G (i := 4) (by kernel_rfl) (fun K hK => ?_)
 refine wpOp_of rfl rfl ?_
 unfold Oper.wp
 go_simp
 refine hK _ _ (fun h => absurd rfl h) ?_
 clear hK K
 (try simp only [Act.put, List.setIfInBounds_toArray, List.set_cons_zero, List.set_cons_succ])
 refine done_G (by kernel_rfl) ?_
 refine noPanic_normalE ?_
 clear GG B1 PL HG
 obtain ⟨x0, x1, x2⟩ := unhide HC n (Nat.le_refl _) w3 (unhide B3).2.2.2.2

 gi_wp2
 rw [(unhide HL).1]
 have B4 : Hid (Blk w.heap.size #[.pointer (some ⟨U, 0, none⟩)] 26 (w3.alloc (.cells #[.int .i64 r, .int .i64 c, .slice (some ⟨lb, lo, none⟩) nn (X n).cap] 38)) ∧ Blk (w.heap.size + 1) #[.int .i64 t] 3 (w3.alloc (.cells #[.int .i64 r, .int .i64 c, .slice (some ⟨lb, lo, none⟩) nn (X n).cap] 38)) ∧ Blk (w.heap.size + 1 + 1) #[.int .i64 0, .int .i64 0, .slice none 0 0] 38 (w3.alloc (.cells #[.int .i64 r, .int .i64 c, .slice (some ⟨lb, lo, none⟩) nn (X n).cap] 38)) ∧ UC U c0 n0 (w3.alloc (.cells #[.int .i64 r, .int .i64 c, .slice (some ⟨lb, lo, none⟩) nn (X n).cap] 38)) ∧ Mk U w (w3.alloc (.cells #[.int .i64 r, .int .i64 c, .slice (some ⟨lb, lo, none⟩) nn (X n).cap] 38)) ∧ Blk w3.heap.size #[.int .i64 r, .int .i64 c, .slice (some ⟨lb, lo, none⟩) nn (X n).cap] 38 (w3.alloc (.cells #[.int .i64 r, .int .i64 c, .slice (some ⟨lb, lo, none⟩) nn (X n).cap] 38)) ∧ w.heap.size + 3 ≤ w3.heap.size) := by
  have g : Grown w3 (w3.alloc (.cells #[.int .i64 r, .int .i64 c, .slice (some ⟨lb, lo, none⟩) nn (X n).cap] 38)) := (Grown.refl _).alloc _ _
  obtain ⟨b1, b2, b3, b4, b5⟩ := unhide B3
  have := Blk.lt b3
  exact ⟨Blk.grown b1 g, Blk.grown b2 g, Blk.grown b3 g, Blk.grown b4 g, b5.grown g, Blk.new _ _ _, by omega⟩
 clear B3 x0 x1 x2
 generalize w3.alloc (.cells #[.int .i64 r, .int .i64 c, .slice (some ⟨lb, lo, none⟩) nn (X n).cap] 38) = w4 at *
 generalize w3.heap.size = Lx at *
 obtain ⟨q0, hq0⟩ : ∃ q0, q0 = (X n).cap := ⟨_, rfl⟩
 rw [← hq0]
 rw [← hq0] at B4
 have y0 : w4.cell? ⟨Lx, 0, none⟩ = some (.int .i64 r) := Blk.cell (unhide B4).2.2.2.2.2.1 0
 have y1 : w4.cell? ⟨Lx, 1, none⟩ = some (.int .i64 c) := Blk.cell (unhide B4).2.2.2.2.2.1 1
 have y2 : w4.cell? ⟨Lx, 2, none⟩ = some (.slice (some ⟨lb, lo, none⟩) nn q0) := Blk.cell (unhide B4).2.2.2.2.2.1 2
 rw [← hq0] at CL
 clear hq0
 refine wpIn_wide.2 ?_
 refine region_cutP (T := Nat × Nat × Nat) (fun _ u => { tmps := #[.pointer (some ⟨U, 0, none⟩), .slice (some ⟨b, o, none⟩) (n + 1) cap, .int .i64 t, .pointer (some ⟨w.heap.size, 0, none⟩), undef, .pointer (some ⟨w.heap.size + 1, 0, none⟩), .pointer (some ⟨w.heap.size + 1 + 1, 0, none⟩), .int .i64 0, .int .i64 0, .pointer (some ⟨Lx, 0, none⟩), .pointer (some ⟨u.2.2, 0, none⟩), undef, undef, .pointer (some ⟨U, 0, none⟩), .slice (some ⟨b, o, none⟩) (n + 1) cap, .bool true, .int .i64 0, .int .i64 0, .bool false, undef, undef, .slice (some ⟨b, o, none⟩) (n + 1) cap, .slice (some ⟨b, o, none⟩) (n + 1) cap, .int .i64 ((n : Int) + 1), .int .i64 (n : Int), .pointer (some ⟨b, o + n * 3, none⟩), .agg #[.int .i64 r, .int .i64 c, .slice (some ⟨lb, lo, none⟩) nn q0], .pointer (some ⟨Lx, 0, none⟩), .int .i64 r, .pointer (some ⟨Lx, 1, none⟩), .int .i64 c, .pointer (some ⟨Lx, 2, none⟩), .slice (some ⟨lb, lo, none⟩) nn q0, .slice (some ⟨u.1, 0, none⟩) nn u.2.1, .agg #[.int .i64 r, .int .i64 c, .slice (some ⟨u.1, 0, none⟩) nn u.2.1], undef, undef, undef, undef, undef, undef, undef, undef, undef, undef, undef, undef, undef, undef, undef, undef, undef, undef, undef, undef, undef, undef, undef], defers := [] }) (fun u w5 => AtV w U r c nn u.2.2 t c0 n0 (X n).Z false 0 u.1 u.2.1 w5) ?_ ?_
 ·refine region_G (fun w' => w'.cell? ⟨Lx, 0, none⟩ = some (.int .i64 r) ∧ w'.cell? ⟨Lx, 1, none⟩ = some (.int .i64 c) ∧ w'.cell? ⟨Lx, 2, none⟩ = some (.slice (some ⟨lb, lo, none⟩) nn q0)) 9 (by kernel_rfl) ⟨y0, y1, y2⟩ (fun hHeld => ?_)
  refine take_G (i := 0) (d := 27) (v := .pointer (some ⟨Lx, 0, none⟩)) rfl rfl (by kernel_rfl) (by kernel_rfl) (by kernel_rfl) (by kernel_rfl) (by kernel_rfl) (Or.inl ⟨by rfl, ?_⟩) hHeld ?_
  ·intro wS hSw
   obtain ⟨z0, z1, z2⟩ := hSw
   clear hHeld
   go_simp
  (try simp only [Act.put, List.setIfInBounds_toArray, List.set_cons_zero, List.set_cons_succ])
  refine take_G (i := 1) (d := 28) (v := .int .i64 r) rfl rfl (by kernel_rfl) (by kernel_rfl) (by kernel_rfl) (by kernel_rfl) (by kernel_rfl) (Or.inl ⟨by rfl, ?_⟩) hHeld ?_
  ·intro wS hSw
   obtain ⟨z0, z1, z2⟩ := hSw
   clear hHeld
   go_simp
  (try simp only [Act.put, List.setIfInBounds_toArray, List.set_cons_zero, List.set_cons_succ])
  refine take_G (i := 2) (d := 29) (v := .pointer (some ⟨Lx, 1, none⟩)) rfl rfl (by kernel_rfl) (by kernel_rfl) (by kernel_rfl) (by kernel_rfl) (by kernel_rfl) (Or.inl ⟨by rfl, ?_⟩) hHeld ?_
  ·intro wS hSw
   obtain ⟨z0, z1, z2⟩ := hSw
   clear hHeld
   go_simp
  (try simp only [Act.put, List.setIfInBounds_toArray, List.set_cons_zero, List.set_cons_succ])
  refine take_G (i := 3) (d := 30) (v := .int .i64 c) rfl rfl (by kernel_rfl) (by kernel_rfl) (by kernel_rfl) (by kernel_rfl) (by kernel_rfl) (Or.inl ⟨by rfl, ?_⟩) hHeld ?_
  ·intro wS hSw
   obtain ⟨z0, z1, z2⟩ := hSw
   clear hHeld
   go_simp
  (try simp only [Act.put, List.setIfInBounds_toArray, List.set_cons_zero, List.set_cons_succ])
  refine take_G (i := 4) (d := 31) (v := .pointer (some ⟨Lx, 2, none⟩)) rfl rfl (by kernel_rfl) (by kernel_rfl) (by kernel_rfl) (by kernel_rfl) (by kernel_rfl) (Or.inl ⟨by rfl, ?_⟩) hHeld ?_
  ·intro wS hSw
   obtain ⟨z0, z1, z2⟩ := hSw
   clear hHeld
   go_simp
  (try simp only [Act.put, List.setIfInBounds_toArray, List.set_cons_zero, List.set_cons_succ])
  refine take_G (i := 5) (d := 32) (v := .slice (some ⟨lb, lo, none⟩) nn q0) rfl rfl (by kernel_rfl) (by kernel_rfl) (by kernel_rfl) (by kernel_rfl) (by kernel_rfl) (Or.inl ⟨by rfl, ?_⟩) hHeld ?_
  ·intro wS hSw
   obtain ⟨z0, z1, z2⟩ := hSw
   clear hHeld
   go_simp
  (try simp only [Act.put, List.setIfInBounds_toArray, List.set_cons_zero, List.set_cons_succ])
  refine pick2_GP (i := 6) (j := 8) (by kernel_rfl) (fun K hK => ?_) (fun K hK => ?_)
  ·refine wpOp_of rfl rfl ?_
   unfold Oper.wp
   go_simp
   refine (unhide CL w4.drew (unhide B4).2.2.2.2.1).mono ?_
   rintro e w5 ⟨Bl, cap2, rfl, hc, hB, own, k3⟩
   have k45 : Kp w4 w5 := k3
   have hb0 := Blk.kp (unhide B4).2.2.2.2.2.1 k45
   have d0 : w5.cell? ⟨Lx, 0, none⟩ = some (.int .i64 r) := Blk.cell hb0 0
   have d1 : w5.cell? ⟨Lx, 1, none⟩ = some (.int .i64 c) := Blk.cell hb0 1
   have d2 : w5.cell? ⟨Lx, 2, none⟩ = some (.slice (some ⟨lb, lo, none⟩) nn q0) := Blk.cell hb0 2
   have R3 : Hid (nn ≤ cap2 ∧ w4.heap.size ≤ Bl ∧ Own Bl nn (X n).Z w5 ∧ Kp w4 w5) := ⟨hc, hB, own, k45⟩
   clear hc hB own k3 hb0 k45 hHeld y0 y1 y2
   refine hK _ _ (fun _ => ⟨d0, d1, d2⟩) ?_
   clear hK K
   have hHeld := And.intro d0 (And.intro d1 d2)
   (try simp only [Act.put, List.setIfInBounds_toArray, List.set_cons_zero, List.set_cons_succ])
   refine take_G (i := 7) (d := 34) (v := .agg #[.int .i64 r, .int .i64 c, .slice (some ⟨Bl, 0, none⟩) nn cap2]) rfl rfl (by kernel_rfl) (by kernel_rfl) (by kernel_rfl) (by kernel_rfl) (by kernel_rfl) (Or.inl ⟨by rfl, ?_⟩) hHeld ?_
   ·intro wS hSw
    obtain ⟨z0, z1, z2⟩ := hSw
    clear hHeld
    go_simp
   (try simp only [Act.put, List.setIfInBounds_toArray, List.set_cons_zero, List.set_cons_succ])
   refine step_G (i := 8) (by kernel_rfl) (fun K hK => ?_)
   refine wpOp_of rfl rfl ?_
   unfold Oper.wp
   go_simp
   have gz : Grown w5 (w5.alloc (.cells #[.int .i64 0, .int .i64 0, .slice none 0 0] 38)) := (Grown.refl _).alloc _ _
   refine hK _ _ (fun _ => ⟨gat gz d0, gat gz d1, gat gz d2⟩) ?_
   clear hK K
   (try simp only [Act.put, List.setIfInBounds_toArray, List.set_cons_zero, List.set_cons_succ])
   refine step_G (i := 9) (by kernel_rfl) (fun K hK => ?_)
   refine wpOp_of rfl rfl ?_
   unfold Oper.wp
   go_simp
   refine hK _ _ (fun h => absurd rfl h) ?_
   clear hK K
   (try simp only [Act.put, List.setIfInBounds_toArray, List.set_cons_zero, List.set_cons_succ])
   refine done_G (by kernel_rfl) ?_
   refine noPanic_normalE ?_
   obtain ⟨hc, hB, own, k45⟩ := unhide R3
   obtain ⟨b1, b2, b3, b4, b5, b6, b7⟩ := unhide B4
   have lb6 := Blk.lt b6
   have s3 := k45.2.2.2
   have hw := b5.2.2.2
   have g5 : Kp w4 (w5.alloc (.cells #[.int .i64 r, .int .i64 c, .slice (some ⟨Bl, 0, none⟩) nn cap2] 38)) := k45.alloc _ _
   exact ⟨rfl, (Bl, cap2, w5.heap.size), ⟨Blk.new w5 _ _, own.kp ((Kp.refl w5).alloc _ _), hc, by show w.heap.size ≤ Bl; omega, ⟨n0, by omega, by omega, by rw [Bool.or_false]; exact Blk.kp b4 g5⟩, Blk.kp b1 g5, Blk.kp b2 g5, Blk.kp b3 g5, b5.trans (Mk.kp g5), by show w.heap.size + 3 ≤ w5.heap.size; omega⟩, rfl⟩
  ·refine wpOp_of rfl rfl ?_
   unfold Oper.wp
   go_simp
   have gz : Grown w4 (w4.alloc (.cells #[.int .i64 0, .int .i64 0, .slice none 0 0] 38)).drew := (show Grown w4 (w4.drew.alloc (.cells #[.int .i64 0, .int .i64 0, .slice none 0 0] 38)) from ((Grown.refl w4).drew).alloc _ _)
   have bz : Blk w4.heap.size #[.int .i64 0, .int .i64 0, .slice none 0 0] 38 (w4.alloc (.cells #[.int .i64 0, .int .i64 0, .slice none 0 0] 38)).drew := (show Blk w4.heap.size #[.int .i64 0, .int .i64 0, .slice none 0 0] 38 (w4.alloc (.cells #[.int .i64 0, .int .i64 0, .slice none 0 0] 38)) from Blk.new w4 _ _)
   generalize (w4.alloc (.cells #[.int .i64 0, .int .i64 0, .slice none 0 0] 38)).drew = wz at *
   have d0 := gat gz y0
   have d1 := gat gz y1
   have d2 := gat gz y2
   have K2 : Hid (Mk U w wz ∧ Kp w4 wz ∧ Blk w4.heap.size #[.int .i64 0, .int .i64 0, .slice none 0 0] 38 wz) := ⟨(unhide B4).2.2.2.2.1.grown gz, Kp.of gz, bz⟩
   refine hK _ _ (fun _ => ⟨d0, d1, d2⟩) ?_
   clear hK K gz bz hHeld y0 y1 y2
   (try simp only [Act.put, List.setIfInBounds_toArray, List.set_cons_zero, List.set_cons_succ])
   refine step_G (i := 6) (by kernel_rfl) (fun K hK => ?_)
   refine wpOp_of rfl rfl ?_
   unfold Oper.wp
   go_simp
   refine (unhide CL _ (unhide K2).1).mono ?_
   rintro e w5 ⟨Bl, cap2, rfl, hc, hB, own, k3⟩
   have k45 : Kp w4 w5 := (unhide K2).2.1.trans k3
   have bz := Blk.kp (unhide K2).2.2 k3
   have hb0 := Blk.kp (unhide B4).2.2.2.2.2.1 k45
   have d0 : w5.cell? ⟨Lx, 0, none⟩ = some (.int .i64 r) := Blk.cell hb0 0
   have d1 : w5.cell? ⟨Lx, 1, none⟩ = some (.int .i64 c) := Blk.cell hb0 1
   have d2 : w5.cell? ⟨Lx, 2, none⟩ = some (.slice (some ⟨lb, lo, none⟩) nn q0) := Blk.cell hb0 2
   have l2 : w4.heap.size < wz.heap.size := Blk.lt (unhide K2).2.2
   have e0 : w5.cell? ⟨w4.heap.size, 0, none⟩ = some (.int .i64 0) := Blk.cell bz 0
   have e1 : w5.cell? ⟨w4.heap.size, 1, none⟩ = some (.int .i64 0) := Blk.cell bz 1
   have e2 : w5.cell? ⟨w4.heap.size, 2, none⟩ = some (.slice none 0 0) := Blk.cell bz 2
   have ff := Blk.free bz
   have R3 : Hid (nn ≤ cap2 ∧ wz.heap.size ≤ Bl ∧ Own Bl nn (X n).Z w5 ∧ Kp w4 w5 ∧ Blk w4.heap.size #[.int .i64 0, .int .i64 0, .slice none 0 0] 38 w5 ∧ w4.heap.size < wz.heap.size) := ⟨hc, hB, own, k45, bz, l2⟩
   clear hc hB own k3 hb0 k45 bz l2
   refine hK _ _ (fun _ => ⟨d0, d1, d2⟩) ?_
   clear hK K
   (try simp only [Act.put, List.setIfInBounds_toArray, List.set_cons_zero, List.set_cons_succ])
   have hHeld := And.intro d0 (And.intro d1 d2)
   refine take_G (i := 7) (d := 34) (v := .agg #[.int .i64 r, .int .i64 c, .slice (some ⟨Bl, 0, none⟩) nn cap2]) rfl rfl (by kernel_rfl) (by kernel_rfl) (by kernel_rfl) (by kernel_rfl) (by kernel_rfl) (Or.inl ⟨by rfl, ?_⟩) hHeld ?_
   ·intro wS hSw
    obtain ⟨z0, z1, z2⟩ := hSw
    clear hHeld
    go_simp
   (try simp only [Act.put, List.setIfInBounds_toArray, List.set_cons_zero, List.set_cons_succ])
   refine step_G (i := 9) (by kernel_rfl) (fun K hK => ?_)
   refine wpOp_of rfl rfl ?_
   unfold Oper.wp
   go_simp
   refine hK _ _ (fun h => absurd rfl h) ?_
   clear hK K
   (try simp only [Act.put, List.setIfInBounds_toArray, List.set_cons_zero, List.set_cons_succ])
   refine done_G (by kernel_rfl) ?_
   refine noPanic_normalE ?_
   obtain ⟨hc, hB, own, k45, bz, l2⟩ := unhide R3
   obtain ⟨b1, b2, b3, b4, b5, b6, b7⟩ := unhide B4
   have lb6 := Blk.lt b6
   have s3 := k45.2.2.2
   have hw := b5.2.2.2
   have hU := (unhide HH).2.1
   have P := putM bz (.int .i64 r) (.int .i64 c) (.slice (some ⟨Bl, 0, none⟩) nn cap2)
   have g5 : Kp w4 (((w5.setCell ⟨w4.heap.size, 0, none⟩ (.int .i64 r)).setCell ⟨w4.heap.size, 1, none⟩ (.int .i64 c)).setCell ⟨w4.heap.size, 2, none⟩ (.slice (some ⟨Bl, 0, none⟩) nn cap2)) := k45.mod P.2 (Nat.le_refl _)
   exact ⟨rfl, (Bl, cap2, w4.heap.size), ⟨P.1, own.mk (Mk.of P.2) (by show Bl ≠ w4.heap.size; omega), hc, by show w.heap.size ≤ Bl; omega, ⟨n0, by omega, by omega, by rw [Bool.or_false]; exact Blk.kp b4 g5⟩, Blk.kp b1 g5, Blk.kp b2 g5, Blk.kp b3 g5, b5.trans (Mk.kp g5), by show w.heap.size + 3 ≤ w4.heap.size; omega⟩, rfl⟩

 ·rintro ⟨Bl, cap2, vb⟩ w5 hV
  dsimp only at hV ⊢
  have V5 := hide hV
  clear hV y0 y1 y2 CL B4
  have SL2 := fun w => (by rw [wn]; exact SL w : (Instr.sliceAt 73 (.slice (some ⟨b, o, none⟩) (n + 1) cap) none (some (.int .i64 (wrap64 (n : Int)))) none).run Tryz.prog w = .ok (.slice (some ⟨b, o, none⟩) n cap) w)
  clear wn wn1
  gi_wp2_with fail
  refine ⟨trivial, ?_⟩
  refine (callsIn_wide.2 (backMk _ _ _ _)).mono ?_
  rintro e w6 ⟨rfl, rfl⟩
  gi_wp2_with fail
  obtain ⟨W0, hW0⟩ : ∃ W0, w5.alloc (.cells #[.slice (some ⟨b, o, none⟩) n cap] 73) = W0 := ⟨_, rfl⟩
  rw [hW0]
  have ST : Hid (AtV w U r c nn vb t c0 n0 (X n).Z false 0 Bl cap2 W0 ∧ Blk w5.heap.size #[.slice (some ⟨b, o, none⟩) n cap] 73 W0 ∧ W0.heap.size = w5.heap.size + 1 ∧ vb < w5.heap.size) := by
   have k : Kp w5 W0 := by rw [← hW0]; exact Kp.of ((Grown.refl _).alloc _ _)
   have b9 := Blk.new w5 #[.slice (some ⟨b, o, none⟩) n cap] 73
   rw [hW0] at b9
   exact ⟨(unhide V5).kp k, b9, by rw [← hW0]; simp, Blk.lt (unhide V5).1⟩
  clear hW0 V5 SL SL2
  obtain ⟨hV0, hsb, hsz, lvb⟩ := unhide ST
  obtain ⟨_, lU, bU, k2, hn0, hI, hX⟩ := unhide HH
  generalize w5.heap.size = sb at *
  have hvb : w.heap.size + 3 ≤ vb := hV0.2.2.2.2.2.2.2.2.2
  have hM0 : Mk U w W0 := hV0.2.2.2.2.2.2.2.2.1
  refine range_own (P := Tryz.prog) (encs := encB X) (St := fun _ _ => False) (D := fun q => q = U ∨ q = vb) (Px := nextB n) (Pp := fun _ => True) (S := fun xs _ => xs.length = n) (Sp := fun _ _ => True) rfl (by omega) (gf := 124) (lb := #[.pointer (some ⟨sb, 0, none⟩)]) rfl trivial (enters_of Tryz.func124 (by kernel_rfl) rfl) (fun _ => rfl)
   (fun _ _ _ _ h => h.elim)
   (fun l J Jx W hg hJ hY h0 => ?seq)
   (fun pre W => pre.length ≤ n ∧ W0.heap.size ≤ W.heap.size ∧ ∃ B cp, AtV w U r c nn vb t c0 n0 (horZ (fun i => (X i).Z) n t pre.length) (horC (fun i => (X i).Z) n t nn pre.length) ((pre.length : Int) * 1000) B cp W)
   (fun _ _ _ => False)
   (fun pre W W' row h hg hr => let ⟨h1, hs, B, cp, h2⟩ := h; ⟨h1, Nat.le_trans hs hg.size, B, cp, h2.own (by have := hM0.2.2.2; omega) hg hr⟩)
   (fun c pre W W' row h hg hr => h.elim)
   (fun _ _ _ _ h _ _ => h)
   (fun _ _ _ _ h _ _ => h)
   (fun pre X Y h s => s.elim)
   (fun pre W h => trivial)
   ⟨Nat.zero_le _, Nat.le_refl _, Bl, cap2, by simpa [horZ, horC] using hV0⟩
   (fun x a' W => ∃ Bx, W0.heap.size ≤ Bx ∧ Blk Bx (X x).cells 38 W ∧ a' = { tmps := #[.pointer (some ⟨U, 0, none⟩), .slice (some ⟨b, o, none⟩) (n + 1) cap, .int .i64 t, .pointer (some ⟨w.heap.size, 0, none⟩), undef, .pointer (some ⟨w.heap.size + 1, 0, none⟩), .pointer (some ⟨w.heap.size + 1 + 1, 0, none⟩), .int .i64 0, .int .i64 0, .pointer (some ⟨Lx, 0, none⟩), .pointer (some ⟨vb, 0, none⟩), undef, .pointer (some ⟨Bx, 0, none⟩), .pointer (some ⟨U, 0, none⟩), .slice (some ⟨b, o, none⟩) (n + 1) cap, .bool true, .int .i64 0, .int .i64 0, .bool false, undef, undef, .slice (some ⟨b, o, none⟩) (n + 1) cap, .slice (some ⟨b, o, none⟩) (n + 1) cap, .int .i64 ((n : Int) + 1), .int .i64 (n : Int), .pointer (some ⟨b, o + n * 3, none⟩), .agg #[.int .i64 r, .int .i64 c, .slice (some ⟨lb, lo, none⟩) nn q0], .pointer (some ⟨Lx, 0, none⟩), .int .i64 r, .pointer (some ⟨Lx, 1, none⟩), .int .i64 c, .pointer (some ⟨Lx, 2, none⟩), .slice (some ⟨lb, lo, none⟩) nn q0, .slice (some ⟨Bl, 0, none⟩) nn cap2, .agg #[.int .i64 r, .int .i64 c, .slice (some ⟨Bl, 0, none⟩) nn cap2], .slice (some ⟨b, o, none⟩) (n + 1) cap, .slice (some ⟨b, o, none⟩) (n + 1) cap, .int .i64 ((n : Int) + 1), .int .i64 (wrap64 (n : Int)), .slice (some ⟨b, o, none⟩) n cap, .func (.func 124) #[] #[.pointer (some ⟨sb, 0, none⟩)], .int .i64 (x : Int), .agg #[.int .i64 (X x).R, .int .i64 (X x).C, .slice (X x).ao (X x).len (X x).cap], undef, undef, undef, undef, undef, undef, undef, undef, undef, undef, undef, undef, undef, undef, undef], defers := [] })
   (fun x a' _ W W' row h hg hr => let ⟨Bx, h1, h2, h3⟩ := h; ⟨Bx, h1, blk_own h2 hg (fun r e => (hr r e).2), h3⟩)
   ?assign ?body ?done ?stop
  case seq =>
   have gk : ∀ c cs T, Blk c cs T W0 → Blk c cs T W := fun c cs T h => (hg.block c (Blk.lt h) (by simp)).trans h
   exact back1_in _ l sb n cap (some ⟨b, o, none⟩) X (by omega) (by have := (unhide HL).2.1; omega) _ (by omega) (fun _ _ => False) J Jx (fun q hq h => by obtain ⟨o', e⟩ := hq h; cases e; have lb : b < w.heap.size := heap_gt ((unhide HC n (Nat.le_refl _) w (Mk.refl _ _)).1); omega) hY W (gk _ _ _ hsb) ((unhide HM W0 hM0).cells fun q o' v _ hv => hg.cell hv (by simp)) h0
  case assign =>
   intro l pre x W K hI2 hK
   dsimp only [encB]
   have HI := hide hI2
   have HKK := hide hK
   clear hK
   clear hI hX hV0 hsb k2 hn0 hM0 hI2
   gi_wp2
   obtain ⟨h1, hs, B, cp, h2⟩ := unhide HI
   exact (unhide HKK) _ _ ((KeepsOthers.alloc _ _).from _) (KC.of (fun q hq _ => gblock ((Grown.refl _).alloc _ _) hq) (by simp)) ⟨h1, Nat.le_trans hs (by simp), B, cp, h2.kp (Kp.of ((Grown.refl _).alloc _ _))⟩ ⟨W.heap.size, hs, Blk.new _ _ _, rfl⟩
  case body =>
   rintro l pre x a' W ⟨h1, hs, B, cp, h2⟩ ⟨Bx, hBx, bX, rfl⟩ hnx
   obtain ⟨j, hj⟩ : ∃ j, pre.length = j := ⟨_, rfl⟩
   have hxj : x = n - (j + 1) ∧ x ≤ n ∧ j + 1 ≤ n := by unfold nextB at hnx; omega
   rw [hj] at h1 h2
   have hb := Blk.lt bX
   have h24 := (unhide HL).2.1
   obtain ⟨e1, e2, e3⟩ := hX x hxj.2.1
   dsimp only
   rw [e1, e2, e3]
   have bX2 : Blk Bx #[.int .i64 r, .int .i64 c, .slice (X x).ao nn (X x).cap] 38 W := by
    have t := bX
    unfold MV.cells at t
    rw [e1, e2, e3] at t
    exact t
   obtain ⟨cnt, q1, q2, hu⟩ := h2.2.2.2.2.1
   have hB := h2.2.2.2.1
   have z0 : W.cell? ⟨vb, 0, none⟩ = some (.int .i64 r) := Blk.cell h2.1 0
   have z1 : W.cell? ⟨vb, 1, none⟩ = some (.int .i64 c) := Blk.cell h2.1 1
   have z2 : W.cell? ⟨vb, 2, none⟩ = some (.slice (some ⟨B, 0, none⟩) nn cp) := Blk.cell h2.1 2
   have u0 : W.cell? ⟨w.heap.size, 0, none⟩ = some (.pointer (some ⟨U, 0, none⟩)) := Blk.cell h2.2.2.2.2.2.1 0
   have t0 : W.cell? ⟨w.heap.size + 1, 0, none⟩ = some (.int .i64 t) := Blk.cell h2.2.2.2.2.2.2.1 0
   have hIj : ∀ p, p < nn → I64 (horZ (fun i => (X i).Z) n t j p) := horZ_I64 _ n t nn (fun p hp => hI n (Nat.le_refl _) p hp) j
   obtain ⟨V, hV⟩ : ∃ V, horZ (fun i => (X i).Z) n t j = V := ⟨_, rfl⟩
   obtain ⟨G, hG⟩ : ∃ G, horC (fun i => (X i).Z) n t nn j = G := ⟨_, rfl⟩
   rw [hV] at h2 hIj
   rw [hG] at h2 hu
   have EV : Hid (horZ (fun i => (X i).Z) n t (j + 1) = hoZ V (X x).Z t ∧ horC (fun i => (X i).Z) n t nn (j + 1) = (G || hoC V (X x).Z t nn)) := by
    rw [← hV, ← hG, hxj.1]
    exact ⟨rfl, rfl⟩
   have S1 := hide (unhide SC V B cp W (c0 || G) cnt (by omega) hIj hu (h2.2.1.row) (by have := Blk.lt hu; omega))
   have HS := hide (And.intro h2 (And.intro hu (And.intro q1 (And.intro q2 (And.intro bX2 (And.intro hBx (And.intro hs (And.intro hj (And.intro hxj h1)))))))))
   have HN := hide (And.intro hn0 (And.intro k2 (And.intro lU (And.intro hvb (And.intro lvb (And.intro hsz hM0))))))
   have HNE : Hid (w.heap.size ≠ vb ∧ w.heap.size + 1 ≠ vb ∧ Bx ≠ vb ∧ Bx ≠ U ∧ w.heap.size ≠ U ∧ w.heap.size + 1 ≠ U) := by
    have := hM0.2.2.2
    refine ⟨?_, ?_, ?_, ?_, ?_, ?_⟩ <;> omega
   have n1 : w.heap.size ≠ vb := (unhide HNE).1
   have n2 : w.heap.size + 1 ≠ vb := (unhide HNE).2.1
   have n3 : Bx ≠ vb := (unhide HNE).2.2.1
   have nn0 : nn ≠ 0 := by omega
   clear h24 h1 h2 hu q1 q2 bX bX2 hBx hs hj hxj hnx hb e1 e2 e3 hB hV hG hIj hI hX hV0 hsb hM0 hn0 k2 lU bU hvb lvb hsz ST
   gi_wp2_with fail
   refine ⟨trivial, ?_⟩
   refine (CallsIn.inRound l (callsIn_wide (n := 3).2 (unhide S1))).mono ?_
   rintro e w6 ⟨_, cp2, B2, rfl, hB2, hb2, hcp2, hu2, m2⟩
   obtain ⟨rfl, hbn⟩ := hb2.resolve_left nn0
   have P := hide ((unhide HS).1.put (G' := G || orC (fun p => m2C (V p) t) nn) (d' := (j : Int) * 1000 + 288) (unhide HN).2.2.1 m2 (by rw [← Bool.or_assoc]; exact hu2) (by have := (unhide HS).2.2.1; omega) (by have := (unhide HS).2.2.2.1; have := (unhide HN).2.1.2; omega) hbn hB2 hcp2)
   have z0 : w6.cell? ⟨vb, 0, none⟩ = some (.int .i64 r) := Blk.cell (unhide P).2.2.2.1 0
   have z1 : w6.cell? ⟨vb, 1, none⟩ = some (.int .i64 c) := Blk.cell (unhide P).2.2.2.1 1
   have z2 : w6.cell? ⟨vb, 2, none⟩ = some (.slice (some ⟨B, 0, none⟩) nn cp) := Blk.cell (unhide P).2.2.2.1 2
   have ff := Blk.free (unhide P).2.2.2.1
   have u0 : w6.cell? ⟨w.heap.size, 0, none⟩ = some (.pointer (some ⟨U, 0, none⟩)) := m2.cell (Blk.cell (unhide HS).1.2.2.2.2.2.1 0) (unhide HNE).2.2.2.2.1
   have bX6 := Blk.mk (unhide HS).2.2.2.2.1 m2 (unhide HNE).2.2.2.1
   have x0 : w6.cell? ⟨Bx, 0, none⟩ = some (.int .i64 r) := Blk.cell bX6 0
   have x1 : w6.cell? ⟨Bx, 1, none⟩ = some (.int .i64 c) := Blk.cell bX6 1
   have x2 : w6.cell? ⟨Bx, 2, none⟩ = some (.slice (X x).ao nn (X x).cap) := Blk.cell bX6 2
   clear hB2 hb2 hbn hcp2 hu2 m2 S1 bX6
   gi_wp2_with fail
   obtain ⟨cn2, r1, r2, hu6⟩ := (unhide P).1.2.2.2.2.1
   have hm6 := (unhide P).2.2.2.2
   have hr6 := (unhide P).1.2.1.row
   have S2 := hide (unhide SU x (unhide HS).2.2.2.2.2.2.2.2.1.2.1 (fun p => m2N (V p) t) B2 cp2 _ (c0 || (G || orC (fun p => m2C (V p) t) nn)) cn2 ⟨by have := (unhide HN).1.1; omega, by have := (unhide HN).1.2; have := (unhide HL).2.1; have := (unhide HS).2.2.2.2.2.2.2.2.1.2.2; omega⟩ (fun p _ => m2N_I64 _ _) hu6 hr6 (by have := Blk.lt hu6; have := (unhide P).1.2.2.2.1; have := (unhide HN).2.2.1; omega) hm6)
   have R6 := hide (And.intro r1 r2)
   clear hu6 hm6 hr6 r1 r2 z0 z1 z2 ff u0 t0 x0 x1 x2
   refine ⟨trivial, ?_⟩
   refine (CallsIn.inRound l (callsIn_wide (n := 3).2 (unhide S2))).mono ?_
   rintro e w7 ⟨_, cp3, B3, rfl, hB3, hb3, hcp3, hu3, m3⟩
   obtain ⟨rfl, hbn⟩ := hb3.resolve_left nn0
   have P2 := hide ((unhide P).1.put (G' := G || orC (fun p => m2C (V p) t) nn || orC (fun p => s2C (m2N (V p) t) ((X x).Z p)) nn) (d' := ((j + 1 : Nat) : Int) * 1000) (unhide HN).2.2.1 m3 (by rw [← Bool.or_assoc]; exact hu3) (by have := (unhide R6).1; omega) (by have := (unhide R6).2; have := (unhide HN).2.1.2; omega) hbn hB3 hcp3)
   clear hB3 hb3 hbn hcp3 hu3 m3 S2
   have z0 : w7.cell? ⟨vb, 0, none⟩ = some (.int .i64 r) := Blk.cell (unhide P2).2.2.2.1 0
   have z1 : w7.cell? ⟨vb, 1, none⟩ = some (.int .i64 c) := Blk.cell (unhide P2).2.2.2.1 1
   have z2 : w7.cell? ⟨vb, 2, none⟩ = some (.slice (some ⟨B2, 0, none⟩) nn cp2) := Blk.cell (unhide P2).2.2.2.1 2
   have ff := Blk.free (unhide P2).2.2.2.1
   generalize (((w6.setCell ⟨vb, 0, none⟩ (.int .i64 r)).setCell ⟨vb, 1, none⟩ (.int .i64 c)).setCell ⟨vb, 2, none⟩ (.slice (some ⟨B2, 0, none⟩) nn cp2)) = wa at *
   gi_wp2
   obtain ⟨_, _, _, _, _, _, s7, s8, s9, s10⟩ := unhide HS
   refine ⟨((unhide P).2.2.1.trans (unhide P2).2.2.1).from _, (unhide P).2.1.trans (unhide P2).2.1, by rw [List.length_append, s8]; exact s9.2.2, Nat.le_trans s7 ((unhide P).2.1.trans (unhide P2).2.1).2, B3, cp3, ?_⟩
   have e1 : (pre ++ [x]).length = j + 1 := by rw [List.length_append, s8]; rfl
   rw [e1, (unhide EV).1, (unhide EV).2]
   have t := (unhide P2).1
   rw [Bool.or_assoc] at t
   exact t
  case done =>
   rintro d xs W hd hl ⟨h1, hs, B, cp, h2⟩ hDf
   rw [hl] at h2
   have h24 := (unhide HL).2.1
   have z0 : W.cell? ⟨vb, 0, none⟩ = some (.int .i64 r) := Blk.cell h2.1 0
   have z1 : W.cell? ⟨vb, 1, none⟩ = some (.int .i64 c) := Blk.cell h2.1 1
   have z2 : W.cell? ⟨vb, 2, none⟩ = some (.slice (some ⟨B, 0, none⟩) nn cp) := Blk.cell h2.1 2
   have y0 : W.cell? ⟨w.heap.size + 1 + 1, 0, none⟩ = some (.int .i64 0) := Blk.cell h2.2.2.2.2.2.2.2.1 0
   have y1 : W.cell? ⟨w.heap.size + 1 + 1, 1, none⟩ = some (.int .i64 0) := Blk.cell h2.2.2.2.2.2.2.2.1 1
   have y2 : W.cell? ⟨w.heap.size + 1 + 1, 2, none⟩ = some (.slice none 0 0) := Blk.cell h2.2.2.2.2.2.2.2.1 2
   have ff := Blk.free h2.2.2.2.2.2.2.2.1
   have HS := hide (And.intro h2 (And.intro hs (And.intro (show w.heap.size + 3 ≤ W0.heap.size by omega) (And.intro lU (And.intro h24 hM0)))))
   clear h1 hs h2 hI hX hV0 hsb hM0 hn0 k2 lU bU hvb lvb hsz ST h24
   gi_wp2
   obtain ⟨h2, hs, hvb, lU, h24, hM0⟩ := unhide HS
   obtain ⟨v1, v2, v3, v4, ⟨cnt, q1, q2, hu⟩, v6, v7, v8, v9, v10⟩ := h2
   have P := putM v8 (.int .i64 r) (.int .i64 c) (.slice (some ⟨B, 0, none⟩) nn cp)
   have hz := v9.2.2.2
   have lB : B < W.heap.size := by obtain ⟨cur, c1, _⟩ := v2; exact Blk.lt c1
   have oB : B ≠ w.heap.size + 1 + 1 := by obtain ⟨cur, c1, _⟩ := v2; exact blk_ne c1 v8 (by decide +kernel)
   have kD := (((KeepsOthers.setCell W ⟨w.heap.size + 1 + 1, 0, none⟩ (.int .i64 r)).trans (KeepsOthers.setCell _ ⟨w.heap.size + 1 + 1, 1, none⟩ (.int .i64 c))).trans (KeepsOthers.setCell _ ⟨w.heap.size + 1 + 1, 2, none⟩ (.slice (some ⟨B, 0, none⟩) nn cp))).same d _ hDf rfl
   have hd2 : w.heap.size + 3 ≤ d := by omega
   generalize (((W.setCell ⟨w.heap.size + 1 + 1, 0, none⟩ (.int .i64 r)).setCell ⟨w.heap.size + 1 + 1, 1, none⟩ (.int .i64 c)).setCell ⟨w.heap.size + 1 + 1, 2, none⟩ (.slice (some ⟨B, 0, none⟩) nn cp)) = WW at *
   have gD := grownBy_putObj' WW d (.deferred none)
   have b2 := Blk.by P.1 gD (fun e => by cases e; omega)
   have oD : B ≠ d := by
    intro e
    obtain ⟨cur, c1, _⟩ := v2.mk (Mk.of P.2) oB
    rw [← e] at kD
    rw [show WW.heap[B]? = _ from c1] at kD
    cases kD
   have o2 := (v2.mk (Mk.of P.2) oB).by gD (fun e => oD (by simpa using e))
   have u2 := Blk.by (Blk.keep hu P.2 (by omega)) gD (fun e => by cases e; omega)
   have m2 := (v9.new P.2 (by omega)).by gD (fun k e => by cases e; omega)
   refine ⟨by simp, .inl ⟨_, _, rfl, run_takeDeferred kD, ?_⟩⟩
   have c0' : (WW.putObj d (.deferred none)).cell? ⟨w.heap.size + 1 + 1, 0, none⟩ = some (.int .i64 r) := Blk.cell b2 0
   have c1' : (WW.putObj d (.deferred none)).cell? ⟨w.heap.size + 1 + 1, 1, none⟩ = some (.int .i64 c) := Blk.cell b2 1
   have c2' : (WW.putObj d (.deferred none)).cell? ⟨w.heap.size + 1 + 1, 2, none⟩ = some (.slice (some ⟨B, 0, none⟩) nn cp) := Blk.cell b2 2
   generalize WW.putObj d (.deferred none) = WP at *
   refine ⟨.tuple #[.agg #[.int .i64 r, .int .i64 c, .slice (some ⟨B, 0, none⟩) nn cp], .int .i64 0], by simp [results, Tryz.results42, go_sem, c0', c1', c2'], ?_⟩
   exact ⟨_, _, B, rfl, v3, v4, Or.inr ⟨rfl, o2⟩, ⟨cnt, q1, by omega, u2⟩, m2⟩
  case stop =>
   rintro d c pre W hd _ h
   exact h.elim
end
end Go.Proofs.YtjobgjcfkomhpaaGreat
namespace Go.Proofs.YtjobgjcfkomhpaaGreat
open Go.RowKit Go.Shelf Go.Proofs.Wd
set_option maxRecDepth 10000
def flowZ (A : Nat → Int) (n : Nat) (t : Int) : Nat → Int := horZ (termZ A n) (n - 1) t (n - 1)
def flowC (A : Nat → Int) (n : Nat) (t : Int) : Bool := termC A n (n - 1) || horC (termZ A n) (n - 1) t (n * n) (n - 1)
theorem listT_at (n nn : Nat) (A : Nat → Int) (pre : List (Nat × Nat)) (i : Nat) (x : Nat × Nat) (h : pre[i]? = some x) : ixM (listT n nn A pre) i = XT n nn A i x := by
 refine ixM_at ?_
 unfold listT
 rw [List.getElem?_mapIdx, h]
 rfl
set_option maxRecDepth 20000 in
set_option maxHeartbeats 4000000 in
theorem polyFlow_ok (U n b o cap : Nat) (c0 : Bool) (n0 t : Int) (ht : I64 t) (hn0 : 0 ≤ n0 ∧ n0 < 100000000000000000) (A : Nat → Int) (hn : 1 ≤ n ∧ n ≤ 12) (hcap : n * n ≤ cap) (hA : ∀ j, j < n * n → I64 (A j)) (hup : upTo A n n = true) (w : World) (h : UC U c0 n0 w) (za : ∀ j, j < n * n → w.cell? ⟨b, o + j, none⟩ = some (.int .i64 (A j))) (hb : b ≠ U) :
  Calls Tryz.prog 38 #[.pointer (some ⟨U, 0, none⟩), .agg #[.int .i64 n, .int .i64 n, .slice (some ⟨b, o, none⟩) (n * n) cap], .int .i64 t] w fun e w' => ValP n n (n * n) (flowZ A n t) 0 (fun w' => UW U (c0 || flowC A n t) n0 200000 w' ∧ Mk U w w') w e w' := by
 have SQ := hide (fun w => polySquare n n (some ⟨b, o, none⟩) (n * n) cap w)
 rw [sqB_yes (sqA_of hn)] at SQ
 have k2 := mul12n n n hn hn
 have lU := Blk.lt h
 have UPP : Hid (∀ wx, Mk U w wx → Calls Tryz.prog 81 #[.agg #[.int .i64 n, .int .i64 n, .slice (some ⟨b, o, none⟩) (n * n) cap]] wx fun e w' => e = .returned (.bool true) ∧ Grown wx w') := fun wx m => by
  have := polyUpper_ok n b o cap A hn wx (fun j hj => m.cell (za j hj) hb)
  rwa [hup] at this
 have TM : Hid (∀ wx, UC U c0 n0 wx → Mk U w wx → Calls Tryz.prog 82 #[.pointer (some ⟨U, 0, none⟩), .agg #[.int .i64 n, .int .i64 n, .slice (some ⟨b, o, none⟩) (n * n) cap], .int .i64 ((n - 1 : Nat) : Int)] wx fun e w' => TermP U n (n * n) c0 n0 A (n - 1) wx e w') := fun wx u m =>
  polyTerms_ok U n (n * n) b o cap (n - 1) c0 n0 ⟨hn0.1, by omega⟩ A hn rfl (by omega) hcap hA wx u (fun j hj => m.cell (za j hj) hb) hb
 obtain ⟨nn, hnn⟩ : ∃ nn, n * n = nn := ⟨_, rfl⟩
 obtain ⟨k, hk⟩ : ∃ k, n = k + 1 := ⟨n - 1, by omega⟩
 have hk1 : n - 1 = k := by omega
 rw [hk1] at TM
 have eF : Hid (flowZ A n t = horZ (termZ A n) k t k ∧ flowC A n t = (termC A n k || horC (termZ A n) k t nn k)) := by
  unfold flowZ flowC
  rw [hk1, hnn]
  exact ⟨rfl, rfl⟩
 have tI : ∀ m p, p < nn → I64 (termZ A n m p) := fun m p hp => termZ_I64 A n m p (by rw [hnn]; exact hp)
 rw [hnn] at SQ k2 UPP TM
 rw [hnn]
 have G : Grown w ((w.alloc (.cells #[.int .i64 n, .int .i64 n, .slice (some ⟨b, o, none⟩) nn cap] 38)).alloc (.cells #[.int .i64 0, .int .i64 0, .slice none 0 0] 38)) := ((Grown.refl _).alloc _ _).alloc _ _
 have HB : Hid (Blk w.heap.size #[.int .i64 n, .int .i64 n, .slice (some ⟨b, o, none⟩) nn cap] 38 ((w.alloc (.cells #[.int .i64 n, .int .i64 n, .slice (some ⟨b, o, none⟩) nn cap] 38)).alloc (.cells #[.int .i64 0, .int .i64 0, .slice none 0 0] 38)) ∧ Blk (w.heap.size + 1) #[.int .i64 0, .int .i64 0, .slice none 0 0] 38 ((w.alloc (.cells #[.int .i64 n, .int .i64 n, .slice (some ⟨b, o, none⟩) nn cap] 38)).alloc (.cells #[.int .i64 0, .int .i64 0, .slice none 0 0] 38))) := ⟨Blk.grown (Blk.new w _ _) ((Grown.refl _).alloc _ _), blk_new2 w _ _ _⟩
 have HG := hide (And.intro G (And.intro (Blk.grown h G) (And.intro hn0 (And.intro lU (And.intro k2 (And.intro tI (And.intro ht (And.intro hn (And.intro hk hnn)))))))))
 have wk : wrap64 ((n : Int) - 1) = (k : Int) := by unfold wrap64; omega
 clear G h hn0 lU za hb hA hup hcap k2 hk1 tI ht hn hk hnn
 go_enter Tryz.func38, Tryz.ntmps38
 go_wp2_with fail
 generalize (w.alloc (.cells #[.int .i64 n, .int .i64 n, .slice (some ⟨b, o, none⟩) nn cap] 38)).alloc (.cells #[.int .i64 0, .int .i64 0, .slice none 0 0] 38) = w1 at *
 refine (unhide SQ _).mono ?_
 rintro e w2 ⟨rfl, g2⟩
 have RF := hide (polyRefuse U c0 n0 ⟨(unhide HG).2.2.1.1, by have := (unhide HG).2.2.1.2; omega⟩ true w2 (Blk.grown (unhide HG).2.1 g2))
 have G2 := hide g2
 clear g2 SQ
 go_wp2_with fail
 refine (unhide RF).mono ?_
 rintro e w3 ⟨rfl, u3, m3⟩
 have lU := (unhide HG).2.2.2.1
 have b3 := Blk.keep (Blk.grown (unhide HB).1 (unhide G2)) m3 (by omega)
 have r3 := Blk.keep (Blk.grown (unhide HB).2 (unhide G2)) m3 (by omega)
 have M3 : Mk U w w3 := (Mk.kp (Kp.of (gtrans (unhide HG).1 (unhide G2)))).trans (Mk.of m3)
 have x0 : w3.cell? ⟨w.heap.size, 0, none⟩ = some (.int .i64 n) := Blk.cell b3 0
 have x1 : w3.cell? ⟨w.heap.size, 1, none⟩ = some (.int .i64 n) := Blk.cell b3 1
 have x2 : w3.cell? ⟨w.heap.size, 2, none⟩ = some (.slice (some ⟨b, o, none⟩) nn cap) := Blk.cell b3 2
 have S3 := hide (And.intro u3 (And.intro M3 (And.intro b3 r3)))
 simp only [errB, if_true]
 clear u3 m3 b3 r3 M3 RF lU
 go_wp2_with fail
 refine (unhide UPP _ (unhide S3).2.1).mono ?_
 rintro e w4 ⟨rfl, g4⟩
 have S4 := hide (And.intro (Blk.grown (unhide S3).1 g4) (And.intro ((unhide S3).2.1.grown g4) (And.intro (Blk.grown (unhide S3).2.2.1 g4) (Blk.grown (unhide S3).2.2.2 g4))))
 clear g4 S3 x0 x1 x2 UPP
 have x0 : w4.cell? ⟨w.heap.size, 0, none⟩ = some (.int .i64 n) := Blk.cell (unhide S4).2.2.1 0
 have x1 : w4.cell? ⟨w.heap.size, 1, none⟩ = some (.int .i64 n) := Blk.cell (unhide S4).2.2.1 1
 have x2 : w4.cell? ⟨w.heap.size, 2, none⟩ = some (.slice (some ⟨b, o, none⟩) nn cap) := Blk.cell (unhide S4).2.2.1 2
 have T4 := hide (unhide TM _ (unhide S4).1 (unhide S4).2.1)
 clear TM
 go_wp2_with fail
 refine (unhide T4).mono ?_
 rintro e w5 ⟨Lb, pre, rfl, hl, hL, hT, ⟨cnt, q1, q2, hu⟩, hm⟩
 clear T4 x0 x1 x2
 have AT : Hid (Calls Tryz.prog 42 #[.pointer (some ⟨U, 0, none⟩), .slice (some ⟨Lb, 0, none⟩) (k + 1) (k + 1), .int .i64 t] w5 fun e w' => ValP n n nn (flowZ A n t) 0 (fun w' => UW U (c0 || flowC A n t) n0 200000 w' ∧ Mk U w5 w') w5 e w') := by
  obtain ⟨_, _, hn0, lU, k2, tI, ht, hn, hk, hnn⟩ := unhide HG
  have lw : w.heap.size ≤ w4.heap.size := (unhide S4).2.1.2.2.2
  obtain ⟨ao', cap', e, hM, hc, hoff⟩ := hL.mats
  rw [listT_len, hl] at e hM hc hoff
  cases e
  have hat : ∀ i, i ≤ k → ∃ x, pre[i]? = some x ∧ ixM (listT n nn A pre) i = XT n nn A i x := fun i hi => by
   have : i < pre.length := by omega
   exact ⟨pre[i], List.getElem?_eq_getElem this, listT_at n nn A pre i _ (List.getElem?_eq_getElem this)⟩
  have hZ : ∀ i, i ≤ k → ∀ p, p < nn → (ixM (listT n nn A pre) i).Z p = termZ A n i p := fun i hi p _ => by
   obtain ⟨x, _, e⟩ := hat i hi
   rw [e]
   rfl
  have hc' := hor_congr (fun i => (ixM (listT n nn A pre) i).Z) (termZ A n) k t nn hZ k
  refine (polyAt_ok U n n nn k (k + 1) (some ⟨Lb, 0, none⟩) (c0 || termC A n k) cnt t ⟨by omega, by omega⟩ ht hn hn hnn (by omega) (Nat.le_refl _) (ixM (listT n nn A pre)) (fun i hi => ?_) (fun i hi j hj => ?_) w5 hu hM (fun i hi => ?_) (fun i hi => ?_) (hoff U (by omega))).mono ?_
  ·obtain ⟨x, _, e⟩ := hat i hi
   rw [e]
   exact ⟨rfl, rfl, rfl⟩
  ·rw [hZ i hi j hj]
   exact tI i j hj
  ·obtain ⟨x, hx, e⟩ := hat i hi
   rw [e]
   exact (hT.1 i x hx).1.row
  ·obtain ⟨x, hx, e⟩ := hat i hi
   rw [e]
   have := (hT.1 i x hx).2.1
   exact off_blk (show x.1 ≠ U by omega)
  ·rintro e w6 ⟨a6, c6, B6, rfl, h2, h3, h4, ⟨c', r1, r2, hu6⟩, h6⟩
   refine ⟨a6, c6, B6, rfl, h2, h3, h4.imp id fun h => ⟨h.1, h.2.congr fun p hp => ?_⟩, ⟨c', by omega, by omega, ?_⟩, h6⟩
   ·rw [(unhide eF).2, ← Bool.or_assoc, ← hc'.2]
    exact hu6
   ·rw [hc'.1 p hp, (unhide eF).1]
 have S5 : Hid (Mk U w w5 ∧ Blk (w.heap.size + 1) #[.int .i64 0, .int .i64 0, .slice none 0 0] 38 w5) := ⟨(unhide S4).2.1.trans hm, Blk.mk (unhide S4).2.2.2 hm (by have := (unhide HG).2.2.2.1; omega)⟩
 clear hl hL hT q1 q2 hu hm S4
 go_wp2_with fail
 refine (unhide AT).mono ?_
 rintro e w6 ⟨a6, c6, B6, rfl, h2, h3, h4, hu6, h6⟩
 have r6 := Blk.mk (unhide S5).2 h6 (by have := (unhide HG).2.2.2.1; omega)
 have M6 : Mk U w w6 := (unhide S5).1.trans h6
 have e0 : w6.cell? ⟨w.heap.size + 1, 0, none⟩ = some (.int .i64 0) := Blk.cell r6 0
 have e1 : w6.cell? ⟨w.heap.size + 1, 1, none⟩ = some (.int .i64 0) := Blk.cell r6 1
 have e2 : w6.cell? ⟨w.heap.size + 1, 2, none⟩ = some (.slice none 0 0) := Blk.cell r6 2
 have f := Blk.free r6
 have R := hide (And.intro h2 (And.intro (Nat.le_trans (unhide S5).1.2.2.2 h3) (And.intro h4 (And.intro hu6 (And.intro M6 (And.intro r6 (unhide HG).2.2.2.1))))))
 have R2 : Hid (w.heap.size + 1 < w5.heap.size ∧ w5.heap.size ≤ B6) := ⟨Blk.lt (unhide S5).2, h3⟩
 clear h2 h3 h4 hu6 h6 r6 M6 AT S5 HB HG G2
 go_wp2
 obtain ⟨h2, h3, h4, ⟨c', r1, r2, hu6⟩, M6, r6, lU⟩ := unhide R
 have P := putM r6 (.int .i64 n) (.int .i64 n) (.slice a6 nn c6)
 generalize (((w6.setCell ⟨w.heap.size + 1, 0, none⟩ (.int .i64 n)).setCell ⟨w.heap.size + 1, 1, none⟩ (.int .i64 n)).setCell ⟨w.heap.size + 1, 2, none⟩ (.slice a6 nn c6)) = wE at *
 have c0' : wE.cell? ⟨w.heap.size + 1, 0, none⟩ = some (.int .i64 n) := Blk.cell P.1 0
 have c1' : wE.cell? ⟨w.heap.size + 1, 1, none⟩ = some (.int .i64 n) := Blk.cell P.1 1
 have c2' : wE.cell? ⟨w.heap.size + 1, 2, none⟩ = some (.slice a6 nn c6) := Blk.cell P.1 2
 refine bodyPost_ret (v := .tuple #[.agg #[.int .i64 n, .int .i64 n, .slice a6 nn c6], .int .i64 0]) (by simp [results, Tryz.results38, go_sem, c0', c1', c2']) rfl ?_
 exact ⟨a6, c6, B6, rfl, h2, h3, h4.imp id fun h => ⟨h.1, h.2.mk (Mk.of P.2) (by have := unhide R2; omega)⟩, ⟨c', r1, r2, Blk.keep hu6 P.2 (by omega)⟩, M6.new P.2 (by omega)⟩
def DocP (r c : Int) (len : Nat) (Z : Nat → Int) (err : Int) (X : World → Prop) (w : World) (e : Ending) (w' : World) : Prop :=
 ∃ ao cap, e = .returned (.tuple #[.agg #[.int .i64 r, .int .i64 c, .slice ao len cap], .int .i64 err]) ∧ len ≤ cap ∧ Row w' ao len Z ∧ (∀ U, U < w.heap.size → Off U len ao) ∧ X w'
set_option maxHeartbeats 2000000 in
theorem refMCheck (r c : Int) (ao : Option Addr) (len cap : Nat) (w : World) : Calls Tryz.prog 100 #[.agg #[.int .i64 r, .int .i64 c, .slice ao len cap]] w fun e w' => e = .returned (.int .i64 (chk r c len)) ∧ Grown w w' := by
 have H : True := trivial
 by_cases h1 : r < 1
 ·have E := hide (chk_bad (r := r) (c := c) (len := len) (fun h => by have := h.1; omega))
  clear H
  skip
  go_enter Tryz.func100, Tryz.ntmps100
  go_wp2
  go_ret
  exact ⟨by rw [unhide E]; rfl, (Grown.refl _).alloc _ _⟩
 by_cases h2 : 12 < r
 ·have E := hide (chk_bad (r := r) (c := c) (len := len) (fun h => by have := h.1; omega))
  clear H
  have g1 : 1 ≤ r := by omega
  go_enter Tryz.func100, Tryz.ntmps100
  go_wp2
  go_ret
  exact ⟨by rw [unhide E]; rfl, (Grown.refl _).alloc _ _⟩
 by_cases h3 : c < 1
 ·have E := hide (chk_bad (r := r) (c := c) (len := len) (fun h => by have := h.2.1; omega))
  clear H
  have g1 : 1 ≤ r := by omega
  have g2 : r ≤ 12 := by omega
  go_enter Tryz.func100, Tryz.ntmps100
  go_wp2
  go_ret
  exact ⟨by rw [unhide E]; rfl, (Grown.refl _).alloc _ _⟩
 by_cases h4 : 12 < c
 ·have E := hide (chk_bad (r := r) (c := c) (len := len) (fun h => by have := h.2.1; omega))
  clear H
  have g1 : 1 ≤ r := by omega
  have g2 : r ≤ 12 := by omega
  have g3 : 1 ≤ c := by omega
  go_enter Tryz.func100, Tryz.ntmps100
  go_wp2
  go_ret
  exact ⟨by rw [unhide E]; rfl, (Grown.refl _).alloc _ _⟩
 have g1 : 1 ≤ r := by omega
 have g2 : r ≤ 12 := by omega
 have g3 : 1 ≤ c := by omega
 have g4 : c ≤ 12 := by omega
 have hw : wrap64 (r * c) = r * c := by
  have := mul12 r c ⟨g1, g2⟩ ⟨g3, g4⟩
  unfold wrap64
  omega
 by_cases h5 : (len : Int) = r * c
 ·have E := hide (chk_ok (r := r) (c := c) (len := len) ⟨⟨g1, g2⟩, ⟨g3, g4⟩, h5⟩)
  clear H
  have b3 : ((len : Int) != r * c) = false := by simpa using h5
  have H5 := hide h5
  clear h5
  go_enter Tryz.func100, Tryz.ntmps100
  go_wp2
  go_ret
  exact ⟨by rw [unhide E]; rfl, (Grown.refl _).alloc _ _⟩
 ·have E := hide (chk_bad (r := r) (c := c) (len := len) (fun h => h5 h.2.2))
  clear H
  have b3 : ((len : Int) != r * c) = true := by simpa using h5
  have H5 := hide h5
  clear h5
  go_enter Tryz.func100, Tryz.ntmps100
  go_wp2
  go_ret
  exact ⟨by rw [unhide E]; rfl, (Grown.refl _).alloc _ _⟩
open Classical in
set_option maxHeartbeats 2000000 in
theorem refAlike (R1 C1 R2 C2 : Int) (a1 a2 : Option Addr) (l1 p1 l2 p2 : Nat) (w : World) : Calls Tryz.prog 126 #[.agg #[.int .i64 R1, .int .i64 C1, .slice a1 l1 p1], .agg #[.int .i64 R2, .int .i64 C2, .slice a2 l2 p2]] w fun e w' => e = .returned (.bool (decide (okM R1 C1 l1 ∧ okM R2 C2 l2 ∧ R1 = R2 ∧ C1 = C2))) ∧ Grown w w' := by
 have K1 := hide (fun w => refMCheck R1 C1 a1 l1 p1 w)
 have K2 := hide (fun w => refMCheck R2 C2 a2 l2 p2 w)
 have G : Grown w ((w.alloc (.cells #[.int .i64 R1, .int .i64 C1, .slice a1 l1 p1] 38)).alloc (.cells #[.int .i64 R2, .int .i64 C2, .slice a2 l2 p2] 38)) := ((Grown.refl _).alloc _ _).alloc _ _
 have X1 : Blk w.heap.size #[.int .i64 R1, .int .i64 C1, .slice a1 l1 p1] 38 ((w.alloc (.cells #[.int .i64 R1, .int .i64 C1, .slice a1 l1 p1] 38)).alloc (.cells #[.int .i64 R2, .int .i64 C2, .slice a2 l2 p2] 38)) := Blk.grown (Blk.new w _ _) ((Grown.refl _).alloc _ _)
 have X2 : Blk (w.heap.size + 1) #[.int .i64 R2, .int .i64 C2, .slice a2 l2 p2] 38 ((w.alloc (.cells #[.int .i64 R1, .int .i64 C1, .slice a1 l1 p1] 38)).alloc (.cells #[.int .i64 R2, .int .i64 C2, .slice a2 l2 p2] 38)) := blk_new2 w _ _ _
 have CW : Hid (∀ wx, Grown ((w.alloc (.cells #[.int .i64 R1, .int .i64 C1, .slice a1 l1 p1] 38)).alloc (.cells #[.int .i64 R2, .int .i64 C2, .slice a2 l2 p2] 38)) wx → wx.cell? ⟨w.heap.size, 0, none⟩ = some (.int .i64 R1) ∧ wx.cell? ⟨w.heap.size, 1, none⟩ = some (.int .i64 C1) ∧ wx.cell? ⟨w.heap.size, 2, none⟩ = some (.slice a1 l1 p1) ∧ wx.cell? ⟨w.heap.size + 1, 0, none⟩ = some (.int .i64 R2) ∧ wx.cell? ⟨w.heap.size + 1, 1, none⟩ = some (.int .i64 C2) ∧ wx.cell? ⟨w.heap.size + 1, 2, none⟩ = some (.slice a2 l2 p2)) := fun wx g => ⟨Blk.cell (Blk.grown X1 g) 0, Blk.cell (Blk.grown X1 g) 1, Blk.cell (Blk.grown X1 g) 2, Blk.cell (Blk.grown X2 g) 0, Blk.cell (Blk.grown X2 g) 1, Blk.cell (Blk.grown X2 g) 2⟩
 have HG := hide G
 clear X1 X2 G
 by_cases h1 : okM R1 C1 l1
 ·rw [chk_ok h1] at K1
  by_cases h2 : okM R2 C2 l2
  ·rw [chk_ok h2] at K2
   by_cases h3 : R1 = R2
   ·by_cases h4 : C1 = C2
    ·have E : Hid (decide (okM R1 C1 l1 ∧ okM R2 C2 l2 ∧ R1 = R2 ∧ C1 = C2) = true) := decide_eq_true ⟨h1, h2, h3, h4⟩
     generalize decide (okM R1 C1 l1 ∧ okM R2 C2 l2 ∧ R1 = R2 ∧ C1 = C2) = D at *
     clear h1 h2
     subst h3 h4
     go_enter Tryz.func126, Tryz.ntmps126
     go_wp2_with fail
     refine (unhide K1 _).mono ?_
     rintro e w1 ⟨rfl, g1⟩
     obtain ⟨x0, x1, x2, y0, y1, y2⟩ := unhide CW w1 g1
     have GG := hide (gtrans (unhide HG) g1)
     clear g1
     have CW1 := hide (fun wx (g : Grown w1 wx) => And.intro (gat g x0) (And.intro (gat g x1) (And.intro (gat g y0) (gat g y1))))
     go_wp2_with fail
     refine (unhide K2 _).mono ?_
     rintro e w2 ⟨rfl, g2⟩
     obtain ⟨z0, z1, t0, t1⟩ := unhide CW1 w2 g2
     have GH := hide (gtrans (unhide GG) g2)
     clear x0 x1 x2 y0 y1 y2 g2
     go_wp2
     go_ret
     exact ⟨by rw [unhide E]; rfl, unhide GH⟩
    ·have E : Hid (decide (okM R1 C1 l1 ∧ okM R2 C2 l2 ∧ R1 = R2 ∧ C1 = C2) = false) := decide_eq_false (fun h => h4 h.2.2.2)
     generalize decide (okM R1 C1 l1 ∧ okM R2 C2 l2 ∧ R1 = R2 ∧ C1 = C2) = D at *
     have b4 : (C1 == C2) = false := by simpa using h4
     clear h1 h2 h4
     subst h3
     go_enter Tryz.func126, Tryz.ntmps126
     go_wp2_with fail
     refine (unhide K1 _).mono ?_
     rintro e w1 ⟨rfl, g1⟩
     obtain ⟨x0, x1, x2, y0, y1, y2⟩ := unhide CW w1 g1
     have GG := hide (gtrans (unhide HG) g1)
     clear g1
     have CW1 := hide (fun wx (g : Grown w1 wx) => And.intro (gat g x0) (And.intro (gat g x1) (And.intro (gat g y0) (gat g y1))))
     go_wp2_with fail
     refine (unhide K2 _).mono ?_
     rintro e w2 ⟨rfl, g2⟩
     obtain ⟨z0, z1, t0, t1⟩ := unhide CW1 w2 g2
     have GH := hide (gtrans (unhide GG) g2)
     clear x0 x1 x2 y0 y1 y2 g2
     go_wp2
     go_ret
     exact ⟨by rw [unhide E]; rfl, unhide GH⟩
   ·have E : Hid (decide (okM R1 C1 l1 ∧ okM R2 C2 l2 ∧ R1 = R2 ∧ C1 = C2) = false) := decide_eq_false (fun h => h3 h.2.2.1)
    generalize decide (okM R1 C1 l1 ∧ okM R2 C2 l2 ∧ R1 = R2 ∧ C1 = C2) = D at *
    have b3 : (R1 == R2) = false := by simpa using h3
    clear h1 h2 h3
    go_enter Tryz.func126, Tryz.ntmps126
    go_wp2_with fail
    refine (unhide K1 _).mono ?_
    rintro e w1 ⟨rfl, g1⟩
    obtain ⟨x0, x1, x2, y0, y1, y2⟩ := unhide CW w1 g1
    have GG := hide (gtrans (unhide HG) g1)
    clear g1
    have CW1 := hide (fun wx (g : Grown w1 wx) => And.intro (gat g x0) (And.intro (gat g x1) (And.intro (gat g y0) (gat g y1))))
    go_wp2_with fail
    refine (unhide K2 _).mono ?_
    rintro e w2 ⟨rfl, g2⟩
    obtain ⟨z0, z1, t0, t1⟩ := unhide CW1 w2 g2
    have GH := hide (gtrans (unhide GG) g2)
    clear x0 x1 x2 y0 y1 y2 g2
    go_wp2
    go_ret
    exact ⟨by rw [unhide E]; rfl, unhide GH⟩
  ·rw [chk_bad h2] at K2
   have E : Hid (decide (okM R1 C1 l1 ∧ okM R2 C2 l2 ∧ R1 = R2 ∧ C1 = C2) = false) := decide_eq_false (fun h => h2 h.2.1)
   generalize decide (okM R1 C1 l1 ∧ okM R2 C2 l2 ∧ R1 = R2 ∧ C1 = C2) = D at *
   clear h1 h2
   go_enter Tryz.func126, Tryz.ntmps126
   go_wp2_with fail
   refine (unhide K1 _).mono ?_
   rintro e w1 ⟨rfl, g1⟩
   obtain ⟨x0, x1, x2, y0, y1, y2⟩ := unhide CW w1 g1
   have GG := hide (gtrans (unhide HG) g1)
   clear g1
   have CW1 := hide (fun wx (g : Grown w1 wx) => And.intro (gat g x0) (And.intro (gat g x1) (And.intro (gat g y0) (gat g y1))))
   go_wp2_with fail
   refine (unhide K2 _).mono ?_
   rintro e w2 ⟨rfl, g2⟩
   obtain ⟨z0, z1, t0, t1⟩ := unhide CW1 w2 g2
   have GH := hide (gtrans (unhide GG) g2)
   clear x0 x1 x2 y0 y1 y2 g2
   go_wp2
   go_ret
   exact ⟨by rw [unhide E]; rfl, unhide GH⟩
 ·rw [chk_bad h1] at K1
  have E : Hid (decide (okM R1 C1 l1 ∧ okM R2 C2 l2 ∧ R1 = R2 ∧ C1 = C2) = false) := decide_eq_false (fun h => h1 h.1)
  generalize decide (okM R1 C1 l1 ∧ okM R2 C2 l2 ∧ R1 = R2 ∧ C1 = C2) = D at *
  clear h1
  go_enter Tryz.func126, Tryz.ntmps126
  go_wp2_with fail
  refine (unhide K1 _).mono ?_
  rintro e w1 ⟨rfl, g1⟩
  obtain ⟨x0, x1, x2, y0, y1, y2⟩ := unhide CW w1 g1
  have GG := hide (gtrans (unhide HG) g1)
  clear g1
  go_wp2
  go_ret
  exact ⟨by rw [unhide E]; rfl, unhide GG⟩
open Classical in
theorem refAlike_ok (R1 C1 R2 C2 : Int) (a1 a2 : Option Addr) (l1 p1 l2 p2 : Nat) (h : okM R1 C1 l1 ∧ okM R2 C2 l2 ∧ R1 = R2 ∧ C1 = C2) (w : World) : Calls Tryz.prog 126 #[.agg #[.int .i64 R1, .int .i64 C1, .slice a1 l1 p1], .agg #[.int .i64 R2, .int .i64 C2, .slice a2 l2 p2]] w fun e w' => e = .returned (.bool true) ∧ Grown w w' := by
 have := refAlike R1 C1 R2 C2 a1 a2 l1 p1 l2 p2 w
 rwa [decide_eq_true h] at this
theorem take_slotP {P : Program} {ops : Array Oper} {Q : Exit → Act → World → Prop} {md : Region.Mode} {S : World → Prop} {i d : Nat} {oi : Oper} {v : Value} {fuel : Nat} {listed : Array Bool} {a : Act} {w : World} (hi : ops[i]? = some oi) (hd : oi.dst = some d)
  (hs : Region.noSelect ops = true) (hf : Region.free md ops listed i = true) (hr : (Region.ready md ops listed).contains i = true)
  (hQ : ∀ c a w, Q (.panic c) (a.put (some d) v) w → Q (.panic c) a w) (hy : YieldsIf P ops S oi v a) (hS : S w)
  (h : wpAnyH P md ops Q S fuel (listed.setIfInBounds i true) (a.put (some d) v) w) : wpAnyH P md ops Q S (fuel + 1) listed a w :=
 wpAnyH_take hi hs hf hr (by rw [hd]; exact hQ) hy hS (by rw [hd]; exact h)
set_option maxRecDepth 50000 in
set_option maxHeartbeats 16000000 in
theorem pRefFine (ao0 : Option Addr) (n cap : Nat) (X : Nat → MV) (hl : n ≤ 9223372036854775807) (w : World) (hm : Mats w ao0 n X) :
  Calls Tryz.prog 94 #[.slice ao0 n cap] w fun e w' => e = .returned (.bool (okPB n X)) ∧ Grown w w' := by
 have HM := hide hm
 clear hm
 by_cases h0 : n = 0
 ·subst h0
  have GE := hide (okPB_no (n := 0) (X := X) (fun h => by have := h.1.1; omega))
  go_enter Tryz.func94, Tryz.ntmps94
  go_wp2
  go_ret
  exact ⟨by rw [unhide GE]; rfl, Grown.refl _⟩
 have d0 : ((n : Int) == 0) = false := by simp; omega
 by_cases h25 : 25 < n
 ·have d25 : decide ((25 : Int) < (n : Int)) = true := decide_eq_true (by omega)
  have GE := hide (okPB_no (n := n) (X := X) (fun h => by have := h.1.2; omega))
  clear h0 h25
  go_enter Tryz.func94, Tryz.ntmps94
  go_wp2
  go_ret
  exact ⟨by rw [unhide GE]; rfl, Grown.refl _⟩
 have d25 : decide ((25 : Int) < (n : Int)) = false := decide_eq_false (by omega)
 have HN : Hid (1 ≤ n ∧ n ≤ 25) := ⟨by omega, by omega⟩
 obtain ⟨b, o, rfl, hc⟩ := (unhide HM).resolve_left h0
 have HC := hide hc
 clear h0 h25 hl hc
 go_enter Tryz.func94, Tryz.ntmps94
 go_wp2_with fail
 clear d0 d25
 go_loopw [3] (fun i wr => ∃ k : Nat, k ≤ n ∧ i = .int .i64 k ∧ Hid (Grown w wr ∧ ∀ i, i < k → likeM (X i).R (X i).C (X i).len (X 0).R (X 0).C)) (fun i _ => n - (intOf i).toNat)
 case atStart => exact ⟨0, Nat.zero_le _, rfl, Grown.refl _, fun i hi => absurd hi (Nat.not_lt_zero _)⟩
 case round =>
  obtain ⟨k, hk, rfl, HI⟩ := hrel
  by_cases hlt : k < n
  ·have i0 : (0 : Int) ≤ (k : Int) := Int.natCast_nonneg _
   have n25 := (unhide HN).2
   have i1 : (k : Int) < (n : Int) := Int.ofNat_lt.2 hlt
   have i2 : (0 : Int) < (n : Int) := by omega
   have HH : Hid ((fun w' => w'.cell? ⟨b, o + k * 3, none⟩ = some (.int .i64 (X k).R) ∧ w'.cell? ⟨b, o + k * 3 + 1, none⟩ = some (.int .i64 (X k).C) ∧ w'.cell? ⟨b, o + k * 3 + 2, none⟩ = some (.slice (X k).ao (X k).len (X k).cap) ∧ w'.cell? ⟨b, o, none⟩ = some (.int .i64 (X 0).R) ∧ w'.cell? ⟨b, o + 1, none⟩ = some (.int .i64 (X 0).C)) wr.drew) := by
    have c := fun i hi j hj => gat (v := (X i).cells[j]'(show j < 3 from hj)) (unhide HI).1 ((unhide HC i hi j hj).trans (Array.getElem?_eq_getElem _))
    have n1 := (unhide HN).1
    have q0 := c 0 (by omega) 0 (by omega)
    have q1 := c 0 (by omega) 1 (by omega)
    rw [Nat.zero_mul, Nat.add_zero] at q0 q1
    exact ⟨c k hlt 0 (by omega), c k hlt 1 (by omega), c k hlt 2 (by omega), q0, q1⟩
   have CK := hide (fun w => refMCheck (X k).R (X k).C (X k).ao (X k).len (X k).cap w)
   have LK : Hid (likeM (X k).R (X k).C (X k).len (X 0).R (X 0).C ↔ (okM (X k).R (X k).C (X k).len ∧ (X k).R = (X 0).R ∧ (X k).C = (X 0).C)) := Iff.rfl
   have YN : Hid (∀ p : Prop, p → (p ↔ likeM (X k).R (X k).C (X k).len (X 0).R (X 0).C) → likeM (X k).R (X k).C (X k).len (X 0).R (X 0).C) := fun p h k => k.1 h
   obtain ⟨lk, hlk⟩ : ∃ p : Prop, p = likeM (X k).R (X k).C (X k).len (X 0).R (X 0).C := ⟨_, rfl⟩
   rw [← hlk] at LK
   have TOL : Hid (lk → likeM (X k).R (X k).C (X k).len (X 0).R (X 0).C) := fun h => hlk ▸ h
   have TOK : Hid (likeM (X k).R (X k).C (X k).len (X 0).R (X 0).C → lk) := fun h => hlk ▸ h
   clear hlk YN
   generalize (X k).R = R at HH CK LK
   generalize (X k).C = C at HH CK LK
   generalize (X k).ao = ao at HH CK LK
   generalize (X k).len = len at HH CK LK
   generalize (X k).cap = lc at HH CK LK
   generalize hr0 : (X 0).R = R0 at HH CK LK ⊢
   generalize hc0 : (X 0).C = C0 at HH CK LK ⊢
   have ER := hide (And.intro hr0 hc0)
   clear hr0 hc0
   by_cases hb : okM R C len
   ·rw [chk_ok hb] at CK
    by_cases hR : R = R0
    ·have e2 : (R != R0) = false := by simpa using hR
     by_cases hC : C = C0
     ·have e3 : (C != C0) = false := by simpa using hC
      have YES : Hid (likeM (X k).R (X k).C (X k).len (X 0).R (X 0).C) := unhide TOL ((unhide LK).2 ⟨hb, hR, hC⟩)
      clear hb hR hC LK TOL TOK
      go_wp2_with fail
      refine wp_region_noPanic ?_
      refine wp_region_held_drew (S := fun w' => w'.cell? ⟨b, o + k * 3, none⟩ = some (.int .i64 R) ∧ w'.cell? ⟨b, o + k * 3 + 1, none⟩ = some (.int .i64 C) ∧ w'.cell? ⟨b, o + k * 3 + 2, none⟩ = some (.slice ao len lc) ∧ w'.cell? ⟨b, o, none⟩ = some (.int .i64 R0) ∧ w'.cell? ⟨b, o + 1, none⟩ = some (.int .i64 C0)) (by kernel_rfl) (unhide HH) (fun hHeld => ?_)
      refine take_slotP (i := 0) (d := 18) (v := .slice (some ⟨b, o, none⟩) n cap) rfl rfl (by kernel_rfl) (by kernel_rfl) (by kernel_rfl) (fun _ _ _ h => h) (Or.inl ⟨by rfl, ?_⟩) hHeld ?_
      ·intro wS hSw
       obtain ⟨z0, z1, z2, z3, z4⟩ := hSw
       clear hHeld
       go_simp
       (try (intro hz; omega))
      (try simp only [Act.put, List.setIfInBounds_toArray, List.set_cons_zero, List.set_cons_succ])
      refine take_slotP (i := 1) (d := 19) (v := .int .i64 (k : Int)) rfl rfl (by kernel_rfl) (by kernel_rfl) (by kernel_rfl) (fun _ _ _ h => h) (Or.inl ⟨by rfl, ?_⟩) hHeld ?_
      ·intro wS hSw
       obtain ⟨z0, z1, z2, z3, z4⟩ := hSw
       clear hHeld
       go_simp
       (try (intro hz; omega))
      (try simp only [Act.put, List.setIfInBounds_toArray, List.set_cons_zero, List.set_cons_succ])
      refine take_slotP (i := 2) (d := 20) (v := .pointer (some ⟨b, o + k * 3, none⟩)) rfl rfl (by kernel_rfl) (by kernel_rfl) (by kernel_rfl) (fun _ _ _ h => h) (Or.inl ⟨by rfl, ?_⟩) hHeld ?_
      ·intro wS hSw
       obtain ⟨z0, z1, z2, z3, z4⟩ := hSw
       clear hHeld
       go_simp
       (try (intro hz; omega))
      (try simp only [Act.put, List.setIfInBounds_toArray, List.set_cons_zero, List.set_cons_succ])
      refine take_slotP (i := 3) (d := 21) (v := .agg #[.int .i64 R, .int .i64 C, .slice ao len lc]) rfl rfl (by kernel_rfl) (by kernel_rfl) (by kernel_rfl) (fun _ _ _ h => h) (Or.inl ⟨by rfl, ?_⟩) hHeld ?_
      ·intro wS hSw
       obtain ⟨z0, z1, z2, z3, z4⟩ := hSw
       clear hHeld
       go_simp
       (try (intro hz; omega))
      (try simp only [Act.put, List.setIfInBounds_toArray, List.set_cons_zero, List.set_cons_succ])
      refine wpAnyH_ready (rs := [4]) (by kernel_rfl) (by simp) ?_
      refine AllReadyH.cons rfl (fun K hK => ?_) AllReadyH.nil
      go_simp
      refine (unhide CK _).mono ?_
      rintro e w3 ⟨rfl, g3⟩
      have hHeld : (fun w' => w'.cell? ⟨b, o + k * 3, none⟩ = some (.int .i64 R) ∧ w'.cell? ⟨b, o + k * 3 + 1, none⟩ = some (.int .i64 C) ∧ w'.cell? ⟨b, o + k * 3 + 2, none⟩ = some (.slice ao len lc) ∧ w'.cell? ⟨b, o, none⟩ = some (.int .i64 R0) ∧ w'.cell? ⟨b, o + 1, none⟩ = some (.int .i64 C0)) w3 := ⟨gat g3 hHeld.1, gat g3 hHeld.2.1, gat g3 hHeld.2.2.1, gat g3 hHeld.2.2.2.1, gat g3 hHeld.2.2.2.2⟩
      have GG : Hid (Grown w w3) := gtrans (show Grown w wr.drew from (unhide HI).1) g3
      clear g3
      refine hK.out _ _ hHeld (fun hHeld => ?_)
      clear hK K
      (try simp only [Act.put, List.setIfInBounds_toArray, List.set_cons_zero, List.set_cons_succ])
      refine take_slotP (i := 5) (d := 23) (v := .bool false) rfl rfl (by kernel_rfl) (by kernel_rfl) (by kernel_rfl) (fun _ _ _ h => h) (Or.inl ⟨by rfl, ?_⟩) hHeld ?_
      ·intro wS hSw
       obtain ⟨z0, z1, z2, z3, z4⟩ := hSw
       clear hHeld
       go_simp
       (try (intro hz; omega))
      (try simp only [Act.put, List.setIfInBounds_toArray, List.set_cons_zero, List.set_cons_succ])
      refine take_slotP (i := 6) (d := 24) (v := .bool false) rfl rfl (by kernel_rfl) (by kernel_rfl) (by kernel_rfl) (fun _ _ _ h => h) (Or.inl ⟨by rfl, ?_⟩) hHeld ?_
      ·intro wS hSw
       obtain ⟨z0, z1, z2, z3, z4⟩ := hSw
       clear hHeld
       go_simp
       (try (intro hz; omega))
      (try simp only [Act.put, List.setIfInBounds_toArray, List.set_cons_zero, List.set_cons_succ])
      refine take_slotP (i := 7) (d := 25) (v := .slice (some ⟨b, o, none⟩) n cap) rfl rfl (by kernel_rfl) (by kernel_rfl) (by kernel_rfl) (fun _ _ _ h => h) (Or.inl ⟨by rfl, ?_⟩) hHeld ?_
      ·intro wS hSw
       obtain ⟨z0, z1, z2, z3, z4⟩ := hSw
       clear hHeld
       go_simp
       (try (intro hz; omega))
      (try simp only [Act.put, List.setIfInBounds_toArray, List.set_cons_zero, List.set_cons_succ])
      refine take_slotP (i := 8) (d := 26) (v := .int .i64 (k : Int)) rfl rfl (by kernel_rfl) (by kernel_rfl) (by kernel_rfl) (fun _ _ _ h => h) (Or.inl ⟨by rfl, ?_⟩) hHeld ?_
      ·intro wS hSw
       obtain ⟨z0, z1, z2, z3, z4⟩ := hSw
       clear hHeld
       go_simp
       (try (intro hz; omega))
      (try simp only [Act.put, List.setIfInBounds_toArray, List.set_cons_zero, List.set_cons_succ])
      refine take_slotP (i := 9) (d := 27) (v := .pointer (some ⟨b, o + k * 3, none⟩)) rfl rfl (by kernel_rfl) (by kernel_rfl) (by kernel_rfl) (fun _ _ _ h => h) (Or.inl ⟨by rfl, ?_⟩) hHeld ?_
      ·intro wS hSw
       obtain ⟨z0, z1, z2, z3, z4⟩ := hSw
       clear hHeld
       go_simp
       (try (intro hz; omega))
      (try simp only [Act.put, List.setIfInBounds_toArray, List.set_cons_zero, List.set_cons_succ])
      refine take_slotP (i := 10) (d := 28) (v := .pointer (some ⟨b, o + k * 3, none⟩)) rfl rfl (by kernel_rfl) (by kernel_rfl) (by kernel_rfl) (fun _ _ _ h => h) (Or.inl ⟨by rfl, ?_⟩) hHeld ?_
      ·intro wS hSw
       obtain ⟨z0, z1, z2, z3, z4⟩ := hSw
       clear hHeld
       go_simp
       (try (intro hz; omega))
      (try simp only [Act.put, List.setIfInBounds_toArray, List.set_cons_zero, List.set_cons_succ])
      refine take_slotP (i := 11) (d := 29) (v := .int .i64 R) rfl rfl (by kernel_rfl) (by kernel_rfl) (by kernel_rfl) (fun _ _ _ h => h) (Or.inl ⟨by rfl, ?_⟩) hHeld ?_
      ·intro wS hSw
       obtain ⟨z0, z1, z2, z3, z4⟩ := hSw
       clear hHeld
       go_simp
       (try (intro hz; omega))
      (try simp only [Act.put, List.setIfInBounds_toArray, List.set_cons_zero, List.set_cons_succ])
      refine take_slotP (i := 12) (d := 30) (v := .slice (some ⟨b, o, none⟩) n cap) rfl rfl (by kernel_rfl) (by kernel_rfl) (by kernel_rfl) (fun _ _ _ h => h) (Or.inl ⟨by rfl, ?_⟩) hHeld ?_
      ·intro wS hSw
       obtain ⟨z0, z1, z2, z3, z4⟩ := hSw
       clear hHeld
       go_simp
       (try (intro hz; omega))
      (try simp only [Act.put, List.setIfInBounds_toArray, List.set_cons_zero, List.set_cons_succ])
      refine take_slotP (i := 13) (d := 31) (v := .pointer (some ⟨b, o, none⟩)) rfl rfl (by kernel_rfl) (by kernel_rfl) (by kernel_rfl) (fun _ _ _ h => h) (Or.inl ⟨by rfl, ?_⟩) hHeld ?_
      ·intro wS hSw
       obtain ⟨z0, z1, z2, z3, z4⟩ := hSw
       clear hHeld
       go_simp
       (try (intro hz; omega))
      (try simp only [Act.put, List.setIfInBounds_toArray, List.set_cons_zero, List.set_cons_succ])
      refine take_slotP (i := 14) (d := 32) (v := .pointer (some ⟨b, o, none⟩)) rfl rfl (by kernel_rfl) (by kernel_rfl) (by kernel_rfl) (fun _ _ _ h => h) (Or.inl ⟨by rfl, ?_⟩) hHeld ?_
      ·intro wS hSw
       obtain ⟨z0, z1, z2, z3, z4⟩ := hSw
       clear hHeld
       go_simp
       (try (intro hz; omega))
      (try simp only [Act.put, List.setIfInBounds_toArray, List.set_cons_zero, List.set_cons_succ])
      refine take_slotP (i := 15) (d := 33) (v := .int .i64 R0) rfl rfl (by kernel_rfl) (by kernel_rfl) (by kernel_rfl) (fun _ _ _ h => h) (Or.inl ⟨by rfl, ?_⟩) hHeld ?_
      ·intro wS hSw
       obtain ⟨z0, z1, z2, z3, z4⟩ := hSw
       clear hHeld
       go_simp
       (try (intro hz; omega))
      (try simp only [Act.put, List.setIfInBounds_toArray, List.set_cons_zero, List.set_cons_succ])
      refine take_slotP (i := 16) (d := 34) (v := .bool false) rfl rfl (by kernel_rfl) (by kernel_rfl) (by kernel_rfl) (fun _ _ _ h => h) (Or.inl ⟨by rfl, ?_⟩) hHeld ?_
      ·intro wS hSw
       obtain ⟨z0, z1, z2, z3, z4⟩ := hSw
       clear hHeld
       go_simp
       (try (intro hz; omega))
      (try simp only [Act.put, List.setIfInBounds_toArray, List.set_cons_zero, List.set_cons_succ])
      refine take_slotP (i := 17) (d := 35) (v := .bool false) rfl rfl (by kernel_rfl) (by kernel_rfl) (by kernel_rfl) (fun _ _ _ h => h) (Or.inl ⟨by rfl, ?_⟩) hHeld ?_
      ·intro wS hSw
       obtain ⟨z0, z1, z2, z3, z4⟩ := hSw
       clear hHeld
       go_simp
       (try (intro hz; omega))
      (try simp only [Act.put, List.setIfInBounds_toArray, List.set_cons_zero, List.set_cons_succ])
      refine take_slotP (i := 18) (d := 36) (v := .bool false) rfl rfl (by kernel_rfl) (by kernel_rfl) (by kernel_rfl) (fun _ _ _ h => h) (Or.inl ⟨by rfl, ?_⟩) hHeld ?_
      ·intro wS hSw
       obtain ⟨z0, z1, z2, z3, z4⟩ := hSw
       clear hHeld
       go_simp
       (try (intro hz; omega))
      (try simp only [Act.put, List.setIfInBounds_toArray, List.set_cons_zero, List.set_cons_succ])
      refine take_slotP (i := 19) (d := 37) (v := .slice (some ⟨b, o, none⟩) n cap) rfl rfl (by kernel_rfl) (by kernel_rfl) (by kernel_rfl) (fun _ _ _ h => h) (Or.inl ⟨by rfl, ?_⟩) hHeld ?_
      ·intro wS hSw
       obtain ⟨z0, z1, z2, z3, z4⟩ := hSw
       clear hHeld
       go_simp
       (try (intro hz; omega))
      (try simp only [Act.put, List.setIfInBounds_toArray, List.set_cons_zero, List.set_cons_succ])
      refine take_slotP (i := 20) (d := 38) (v := .int .i64 (k : Int)) rfl rfl (by kernel_rfl) (by kernel_rfl) (by kernel_rfl) (fun _ _ _ h => h) (Or.inl ⟨by rfl, ?_⟩) hHeld ?_
      ·intro wS hSw
       obtain ⟨z0, z1, z2, z3, z4⟩ := hSw
       clear hHeld
       go_simp
       (try (intro hz; omega))
      (try simp only [Act.put, List.setIfInBounds_toArray, List.set_cons_zero, List.set_cons_succ])
      refine take_slotP (i := 21) (d := 39) (v := .pointer (some ⟨b, o + k * 3, none⟩)) rfl rfl (by kernel_rfl) (by kernel_rfl) (by kernel_rfl) (fun _ _ _ h => h) (Or.inl ⟨by rfl, ?_⟩) hHeld ?_
      ·intro wS hSw
       obtain ⟨z0, z1, z2, z3, z4⟩ := hSw
       clear hHeld
       go_simp
       (try (intro hz; omega))
      (try simp only [Act.put, List.setIfInBounds_toArray, List.set_cons_zero, List.set_cons_succ])
      refine take_slotP (i := 22) (d := 40) (v := .pointer (some ⟨b, o + k * 3 + 1, none⟩)) rfl rfl (by kernel_rfl) (by kernel_rfl) (by kernel_rfl) (fun _ _ _ h => h) (Or.inl ⟨by rfl, ?_⟩) hHeld ?_
      ·intro wS hSw
       obtain ⟨z0, z1, z2, z3, z4⟩ := hSw
       clear hHeld
       go_simp
       (try (intro hz; omega))
      (try simp only [Act.put, List.setIfInBounds_toArray, List.set_cons_zero, List.set_cons_succ])
      refine take_slotP (i := 23) (d := 41) (v := .int .i64 C) rfl rfl (by kernel_rfl) (by kernel_rfl) (by kernel_rfl) (fun _ _ _ h => h) (Or.inl ⟨by rfl, ?_⟩) hHeld ?_
      ·intro wS hSw
       obtain ⟨z0, z1, z2, z3, z4⟩ := hSw
       clear hHeld
       go_simp
       (try (intro hz; omega))
      (try simp only [Act.put, List.setIfInBounds_toArray, List.set_cons_zero, List.set_cons_succ])
      refine take_slotP (i := 24) (d := 42) (v := .slice (some ⟨b, o, none⟩) n cap) rfl rfl (by kernel_rfl) (by kernel_rfl) (by kernel_rfl) (fun _ _ _ h => h) (Or.inl ⟨by rfl, ?_⟩) hHeld ?_
      ·intro wS hSw
       obtain ⟨z0, z1, z2, z3, z4⟩ := hSw
       clear hHeld
       go_simp
       (try (intro hz; omega))
      (try simp only [Act.put, List.setIfInBounds_toArray, List.set_cons_zero, List.set_cons_succ])
      refine take_slotP (i := 25) (d := 43) (v := .pointer (some ⟨b, o, none⟩)) rfl rfl (by kernel_rfl) (by kernel_rfl) (by kernel_rfl) (fun _ _ _ h => h) (Or.inl ⟨by rfl, ?_⟩) hHeld ?_
      ·intro wS hSw
       obtain ⟨z0, z1, z2, z3, z4⟩ := hSw
       clear hHeld
       go_simp
       (try (intro hz; omega))
      (try simp only [Act.put, List.setIfInBounds_toArray, List.set_cons_zero, List.set_cons_succ])
      refine take_slotP (i := 26) (d := 44) (v := .pointer (some ⟨b, o + 1, none⟩)) rfl rfl (by kernel_rfl) (by kernel_rfl) (by kernel_rfl) (fun _ _ _ h => h) (Or.inl ⟨by rfl, ?_⟩) hHeld ?_
      ·intro wS hSw
       obtain ⟨z0, z1, z2, z3, z4⟩ := hSw
       clear hHeld
       go_simp
       (try (intro hz; omega))
      (try simp only [Act.put, List.setIfInBounds_toArray, List.set_cons_zero, List.set_cons_succ])
      refine take_slotP (i := 27) (d := 45) (v := .int .i64 C0) rfl rfl (by kernel_rfl) (by kernel_rfl) (by kernel_rfl) (fun _ _ _ h => h) (Or.inl ⟨by rfl, ?_⟩) hHeld ?_
      ·intro wS hSw
       obtain ⟨z0, z1, z2, z3, z4⟩ := hSw
       clear hHeld
       go_simp
       (try (intro hz; omega))
      (try simp only [Act.put, List.setIfInBounds_toArray, List.set_cons_zero, List.set_cons_succ])
      refine take_slotP (i := 28) (d := 46) (v := .bool false) rfl rfl (by kernel_rfl) (by kernel_rfl) (by kernel_rfl) (fun _ _ _ h => h) (Or.inl ⟨by rfl, ?_⟩) hHeld ?_
      ·intro wS hSw
       obtain ⟨z0, z1, z2, z3, z4⟩ := hSw
       clear hHeld
       go_simp
       (try (intro hz; omega))
      (try simp only [Act.put, List.setIfInBounds_toArray, List.set_cons_zero, List.set_cons_succ])
      refine take_slotP (i := 29) (d := 47) (v := .bool false) rfl rfl (by kernel_rfl) (by kernel_rfl) (by kernel_rfl) (fun _ _ _ h => h) (Or.inl ⟨by rfl, ?_⟩) hHeld ?_
      ·intro wS hSw
       obtain ⟨z0, z1, z2, z3, z4⟩ := hSw
       clear hHeld
       go_simp
       (try (intro hz; omega))
      (try simp only [Act.put, List.setIfInBounds_toArray, List.set_cons_zero, List.set_cons_succ])
      clear hHeld
      refine wpAnyH_done (by kernel_rfl) (NoPanic.normal ?_) _
      clear CK
      have RR : Hid (Grown w w3 ∧ ∀ i, i < k + 1 → likeM (X i).R (X i).C (X i).len R0 C0) := by
       rw [← (unhide ER).1, ← (unhide ER).2]
       exact ⟨unhide GG, fun i hi => by
        by_cases e : i = k
        ·subst e; exact unhide YES
        ·exact (unhide HI).2 i (by omega)⟩
      clear HI
      go_wp2
      go_roundw
      case rel => exact ⟨k + 1, by omega, by go_num, RR⟩
      case measure => simp [intOf]; omega
     ·have e3 : (C != C0) = true := by simpa using hC
      have NO : Hid (¬ likeM (X k).R (X k).C (X k).len (X 0).R (X 0).C) := fun h => hC ((unhide LK).1 (unhide TOK h)).2.2
      clear hb hR hC LK TOL TOK
      go_wp2_with fail
      refine wp_region_noPanic ?_
      refine wp_region_held_drew (S := fun w' => w'.cell? ⟨b, o + k * 3, none⟩ = some (.int .i64 R) ∧ w'.cell? ⟨b, o + k * 3 + 1, none⟩ = some (.int .i64 C) ∧ w'.cell? ⟨b, o + k * 3 + 2, none⟩ = some (.slice ao len lc) ∧ w'.cell? ⟨b, o, none⟩ = some (.int .i64 R0) ∧ w'.cell? ⟨b, o + 1, none⟩ = some (.int .i64 C0)) (by kernel_rfl) (unhide HH) (fun hHeld => ?_)
      refine take_slotP (i := 0) (d := 18) (v := .slice (some ⟨b, o, none⟩) n cap) rfl rfl (by kernel_rfl) (by kernel_rfl) (by kernel_rfl) (fun _ _ _ h => h) (Or.inl ⟨by rfl, ?_⟩) hHeld ?_
      ·intro wS hSw
       obtain ⟨z0, z1, z2, z3, z4⟩ := hSw
       clear hHeld
       go_simp
       (try (intro hz; omega))
      (try simp only [Act.put, List.setIfInBounds_toArray, List.set_cons_zero, List.set_cons_succ])
      refine take_slotP (i := 1) (d := 19) (v := .int .i64 (k : Int)) rfl rfl (by kernel_rfl) (by kernel_rfl) (by kernel_rfl) (fun _ _ _ h => h) (Or.inl ⟨by rfl, ?_⟩) hHeld ?_
      ·intro wS hSw
       obtain ⟨z0, z1, z2, z3, z4⟩ := hSw
       clear hHeld
       go_simp
       (try (intro hz; omega))
      (try simp only [Act.put, List.setIfInBounds_toArray, List.set_cons_zero, List.set_cons_succ])
      refine take_slotP (i := 2) (d := 20) (v := .pointer (some ⟨b, o + k * 3, none⟩)) rfl rfl (by kernel_rfl) (by kernel_rfl) (by kernel_rfl) (fun _ _ _ h => h) (Or.inl ⟨by rfl, ?_⟩) hHeld ?_
      ·intro wS hSw
       obtain ⟨z0, z1, z2, z3, z4⟩ := hSw
       clear hHeld
       go_simp
       (try (intro hz; omega))
      (try simp only [Act.put, List.setIfInBounds_toArray, List.set_cons_zero, List.set_cons_succ])
      refine take_slotP (i := 3) (d := 21) (v := .agg #[.int .i64 R, .int .i64 C, .slice ao len lc]) rfl rfl (by kernel_rfl) (by kernel_rfl) (by kernel_rfl) (fun _ _ _ h => h) (Or.inl ⟨by rfl, ?_⟩) hHeld ?_
      ·intro wS hSw
       obtain ⟨z0, z1, z2, z3, z4⟩ := hSw
       clear hHeld
       go_simp
       (try (intro hz; omega))
      (try simp only [Act.put, List.setIfInBounds_toArray, List.set_cons_zero, List.set_cons_succ])
      refine wpAnyH_ready (rs := [4]) (by kernel_rfl) (by simp) ?_
      refine AllReadyH.cons rfl (fun K hK => ?_) AllReadyH.nil
      go_simp
      refine (unhide CK _).mono ?_
      rintro e w3 ⟨rfl, g3⟩
      have hHeld : (fun w' => w'.cell? ⟨b, o + k * 3, none⟩ = some (.int .i64 R) ∧ w'.cell? ⟨b, o + k * 3 + 1, none⟩ = some (.int .i64 C) ∧ w'.cell? ⟨b, o + k * 3 + 2, none⟩ = some (.slice ao len lc) ∧ w'.cell? ⟨b, o, none⟩ = some (.int .i64 R0) ∧ w'.cell? ⟨b, o + 1, none⟩ = some (.int .i64 C0)) w3 := ⟨gat g3 hHeld.1, gat g3 hHeld.2.1, gat g3 hHeld.2.2.1, gat g3 hHeld.2.2.2.1, gat g3 hHeld.2.2.2.2⟩
      have GG : Hid (Grown w w3) := gtrans (show Grown w wr.drew from (unhide HI).1) g3
      clear g3
      refine hK.out _ _ hHeld (fun hHeld => ?_)
      clear hK K
      (try simp only [Act.put, List.setIfInBounds_toArray, List.set_cons_zero, List.set_cons_succ])
      refine take_slotP (i := 5) (d := 23) (v := .bool false) rfl rfl (by kernel_rfl) (by kernel_rfl) (by kernel_rfl) (fun _ _ _ h => h) (Or.inl ⟨by rfl, ?_⟩) hHeld ?_
      ·intro wS hSw
       obtain ⟨z0, z1, z2, z3, z4⟩ := hSw
       clear hHeld
       go_simp
       (try (intro hz; omega))
      (try simp only [Act.put, List.setIfInBounds_toArray, List.set_cons_zero, List.set_cons_succ])
      refine take_slotP (i := 6) (d := 24) (v := .bool false) rfl rfl (by kernel_rfl) (by kernel_rfl) (by kernel_rfl) (fun _ _ _ h => h) (Or.inl ⟨by rfl, ?_⟩) hHeld ?_
      ·intro wS hSw
       obtain ⟨z0, z1, z2, z3, z4⟩ := hSw
       clear hHeld
       go_simp
       (try (intro hz; omega))
      (try simp only [Act.put, List.setIfInBounds_toArray, List.set_cons_zero, List.set_cons_succ])
      refine take_slotP (i := 7) (d := 25) (v := .slice (some ⟨b, o, none⟩) n cap) rfl rfl (by kernel_rfl) (by kernel_rfl) (by kernel_rfl) (fun _ _ _ h => h) (Or.inl ⟨by rfl, ?_⟩) hHeld ?_
      ·intro wS hSw
       obtain ⟨z0, z1, z2, z3, z4⟩ := hSw
       clear hHeld
       go_simp
       (try (intro hz; omega))
      (try simp only [Act.put, List.setIfInBounds_toArray, List.set_cons_zero, List.set_cons_succ])
      refine take_slotP (i := 8) (d := 26) (v := .int .i64 (k : Int)) rfl rfl (by kernel_rfl) (by kernel_rfl) (by kernel_rfl) (fun _ _ _ h => h) (Or.inl ⟨by rfl, ?_⟩) hHeld ?_
      ·intro wS hSw
       obtain ⟨z0, z1, z2, z3, z4⟩ := hSw
       clear hHeld
       go_simp
       (try (intro hz; omega))
      (try simp only [Act.put, List.setIfInBounds_toArray, List.set_cons_zero, List.set_cons_succ])
      refine take_slotP (i := 9) (d := 27) (v := .pointer (some ⟨b, o + k * 3, none⟩)) rfl rfl (by kernel_rfl) (by kernel_rfl) (by kernel_rfl) (fun _ _ _ h => h) (Or.inl ⟨by rfl, ?_⟩) hHeld ?_
      ·intro wS hSw
       obtain ⟨z0, z1, z2, z3, z4⟩ := hSw
       clear hHeld
       go_simp
       (try (intro hz; omega))
      (try simp only [Act.put, List.setIfInBounds_toArray, List.set_cons_zero, List.set_cons_succ])
      refine take_slotP (i := 10) (d := 28) (v := .pointer (some ⟨b, o + k * 3, none⟩)) rfl rfl (by kernel_rfl) (by kernel_rfl) (by kernel_rfl) (fun _ _ _ h => h) (Or.inl ⟨by rfl, ?_⟩) hHeld ?_
      ·intro wS hSw
       obtain ⟨z0, z1, z2, z3, z4⟩ := hSw
       clear hHeld
       go_simp
       (try (intro hz; omega))
      (try simp only [Act.put, List.setIfInBounds_toArray, List.set_cons_zero, List.set_cons_succ])
      refine take_slotP (i := 11) (d := 29) (v := .int .i64 R) rfl rfl (by kernel_rfl) (by kernel_rfl) (by kernel_rfl) (fun _ _ _ h => h) (Or.inl ⟨by rfl, ?_⟩) hHeld ?_
      ·intro wS hSw
       obtain ⟨z0, z1, z2, z3, z4⟩ := hSw
       clear hHeld
       go_simp
       (try (intro hz; omega))
      (try simp only [Act.put, List.setIfInBounds_toArray, List.set_cons_zero, List.set_cons_succ])
      refine take_slotP (i := 12) (d := 30) (v := .slice (some ⟨b, o, none⟩) n cap) rfl rfl (by kernel_rfl) (by kernel_rfl) (by kernel_rfl) (fun _ _ _ h => h) (Or.inl ⟨by rfl, ?_⟩) hHeld ?_
      ·intro wS hSw
       obtain ⟨z0, z1, z2, z3, z4⟩ := hSw
       clear hHeld
       go_simp
       (try (intro hz; omega))
      (try simp only [Act.put, List.setIfInBounds_toArray, List.set_cons_zero, List.set_cons_succ])
      refine take_slotP (i := 13) (d := 31) (v := .pointer (some ⟨b, o, none⟩)) rfl rfl (by kernel_rfl) (by kernel_rfl) (by kernel_rfl) (fun _ _ _ h => h) (Or.inl ⟨by rfl, ?_⟩) hHeld ?_
      ·intro wS hSw
       obtain ⟨z0, z1, z2, z3, z4⟩ := hSw
       clear hHeld
       go_simp
       (try (intro hz; omega))
      (try simp only [Act.put, List.setIfInBounds_toArray, List.set_cons_zero, List.set_cons_succ])
      refine take_slotP (i := 14) (d := 32) (v := .pointer (some ⟨b, o, none⟩)) rfl rfl (by kernel_rfl) (by kernel_rfl) (by kernel_rfl) (fun _ _ _ h => h) (Or.inl ⟨by rfl, ?_⟩) hHeld ?_
      ·intro wS hSw
       obtain ⟨z0, z1, z2, z3, z4⟩ := hSw
       clear hHeld
       go_simp
       (try (intro hz; omega))
      (try simp only [Act.put, List.setIfInBounds_toArray, List.set_cons_zero, List.set_cons_succ])
      refine take_slotP (i := 15) (d := 33) (v := .int .i64 R0) rfl rfl (by kernel_rfl) (by kernel_rfl) (by kernel_rfl) (fun _ _ _ h => h) (Or.inl ⟨by rfl, ?_⟩) hHeld ?_
      ·intro wS hSw
       obtain ⟨z0, z1, z2, z3, z4⟩ := hSw
       clear hHeld
       go_simp
       (try (intro hz; omega))
      (try simp only [Act.put, List.setIfInBounds_toArray, List.set_cons_zero, List.set_cons_succ])
      refine take_slotP (i := 16) (d := 34) (v := .bool false) rfl rfl (by kernel_rfl) (by kernel_rfl) (by kernel_rfl) (fun _ _ _ h => h) (Or.inl ⟨by rfl, ?_⟩) hHeld ?_
      ·intro wS hSw
       obtain ⟨z0, z1, z2, z3, z4⟩ := hSw
       clear hHeld
       go_simp
       (try (intro hz; omega))
      (try simp only [Act.put, List.setIfInBounds_toArray, List.set_cons_zero, List.set_cons_succ])
      refine take_slotP (i := 17) (d := 35) (v := .bool false) rfl rfl (by kernel_rfl) (by kernel_rfl) (by kernel_rfl) (fun _ _ _ h => h) (Or.inl ⟨by rfl, ?_⟩) hHeld ?_
      ·intro wS hSw
       obtain ⟨z0, z1, z2, z3, z4⟩ := hSw
       clear hHeld
       go_simp
       (try (intro hz; omega))
      (try simp only [Act.put, List.setIfInBounds_toArray, List.set_cons_zero, List.set_cons_succ])
      refine take_slotP (i := 18) (d := 36) (v := .bool false) rfl rfl (by kernel_rfl) (by kernel_rfl) (by kernel_rfl) (fun _ _ _ h => h) (Or.inl ⟨by rfl, ?_⟩) hHeld ?_
      ·intro wS hSw
       obtain ⟨z0, z1, z2, z3, z4⟩ := hSw
       clear hHeld
       go_simp
       (try (intro hz; omega))
      (try simp only [Act.put, List.setIfInBounds_toArray, List.set_cons_zero, List.set_cons_succ])
      refine take_slotP (i := 19) (d := 37) (v := .slice (some ⟨b, o, none⟩) n cap) rfl rfl (by kernel_rfl) (by kernel_rfl) (by kernel_rfl) (fun _ _ _ h => h) (Or.inl ⟨by rfl, ?_⟩) hHeld ?_
      ·intro wS hSw
       obtain ⟨z0, z1, z2, z3, z4⟩ := hSw
       clear hHeld
       go_simp
       (try (intro hz; omega))
      (try simp only [Act.put, List.setIfInBounds_toArray, List.set_cons_zero, List.set_cons_succ])
      refine take_slotP (i := 20) (d := 38) (v := .int .i64 (k : Int)) rfl rfl (by kernel_rfl) (by kernel_rfl) (by kernel_rfl) (fun _ _ _ h => h) (Or.inl ⟨by rfl, ?_⟩) hHeld ?_
      ·intro wS hSw
       obtain ⟨z0, z1, z2, z3, z4⟩ := hSw
       clear hHeld
       go_simp
       (try (intro hz; omega))
      (try simp only [Act.put, List.setIfInBounds_toArray, List.set_cons_zero, List.set_cons_succ])
      refine take_slotP (i := 21) (d := 39) (v := .pointer (some ⟨b, o + k * 3, none⟩)) rfl rfl (by kernel_rfl) (by kernel_rfl) (by kernel_rfl) (fun _ _ _ h => h) (Or.inl ⟨by rfl, ?_⟩) hHeld ?_
      ·intro wS hSw
       obtain ⟨z0, z1, z2, z3, z4⟩ := hSw
       clear hHeld
       go_simp
       (try (intro hz; omega))
      (try simp only [Act.put, List.setIfInBounds_toArray, List.set_cons_zero, List.set_cons_succ])
      refine take_slotP (i := 22) (d := 40) (v := .pointer (some ⟨b, o + k * 3 + 1, none⟩)) rfl rfl (by kernel_rfl) (by kernel_rfl) (by kernel_rfl) (fun _ _ _ h => h) (Or.inl ⟨by rfl, ?_⟩) hHeld ?_
      ·intro wS hSw
       obtain ⟨z0, z1, z2, z3, z4⟩ := hSw
       clear hHeld
       go_simp
       (try (intro hz; omega))
      (try simp only [Act.put, List.setIfInBounds_toArray, List.set_cons_zero, List.set_cons_succ])
      refine take_slotP (i := 23) (d := 41) (v := .int .i64 C) rfl rfl (by kernel_rfl) (by kernel_rfl) (by kernel_rfl) (fun _ _ _ h => h) (Or.inl ⟨by rfl, ?_⟩) hHeld ?_
      ·intro wS hSw
       obtain ⟨z0, z1, z2, z3, z4⟩ := hSw
       clear hHeld
       go_simp
       (try (intro hz; omega))
      (try simp only [Act.put, List.setIfInBounds_toArray, List.set_cons_zero, List.set_cons_succ])
      refine take_slotP (i := 24) (d := 42) (v := .slice (some ⟨b, o, none⟩) n cap) rfl rfl (by kernel_rfl) (by kernel_rfl) (by kernel_rfl) (fun _ _ _ h => h) (Or.inl ⟨by rfl, ?_⟩) hHeld ?_
      ·intro wS hSw
       obtain ⟨z0, z1, z2, z3, z4⟩ := hSw
       clear hHeld
       go_simp
       (try (intro hz; omega))
      (try simp only [Act.put, List.setIfInBounds_toArray, List.set_cons_zero, List.set_cons_succ])
      refine take_slotP (i := 25) (d := 43) (v := .pointer (some ⟨b, o, none⟩)) rfl rfl (by kernel_rfl) (by kernel_rfl) (by kernel_rfl) (fun _ _ _ h => h) (Or.inl ⟨by rfl, ?_⟩) hHeld ?_
      ·intro wS hSw
       obtain ⟨z0, z1, z2, z3, z4⟩ := hSw
       clear hHeld
       go_simp
       (try (intro hz; omega))
      (try simp only [Act.put, List.setIfInBounds_toArray, List.set_cons_zero, List.set_cons_succ])
      refine take_slotP (i := 26) (d := 44) (v := .pointer (some ⟨b, o + 1, none⟩)) rfl rfl (by kernel_rfl) (by kernel_rfl) (by kernel_rfl) (fun _ _ _ h => h) (Or.inl ⟨by rfl, ?_⟩) hHeld ?_
      ·intro wS hSw
       obtain ⟨z0, z1, z2, z3, z4⟩ := hSw
       clear hHeld
       go_simp
       (try (intro hz; omega))
      (try simp only [Act.put, List.setIfInBounds_toArray, List.set_cons_zero, List.set_cons_succ])
      refine take_slotP (i := 27) (d := 45) (v := .int .i64 C0) rfl rfl (by kernel_rfl) (by kernel_rfl) (by kernel_rfl) (fun _ _ _ h => h) (Or.inl ⟨by rfl, ?_⟩) hHeld ?_
      ·intro wS hSw
       obtain ⟨z0, z1, z2, z3, z4⟩ := hSw
       clear hHeld
       go_simp
       (try (intro hz; omega))
      (try simp only [Act.put, List.setIfInBounds_toArray, List.set_cons_zero, List.set_cons_succ])
      refine take_slotP (i := 28) (d := 46) (v := .bool true) rfl rfl (by kernel_rfl) (by kernel_rfl) (by kernel_rfl) (fun _ _ _ h => h) (Or.inl ⟨by rfl, ?_⟩) hHeld ?_
      ·intro wS hSw
       obtain ⟨z0, z1, z2, z3, z4⟩ := hSw
       clear hHeld
       go_simp
       (try (intro hz; omega))
      (try simp only [Act.put, List.setIfInBounds_toArray, List.set_cons_zero, List.set_cons_succ])
      refine take_slotP (i := 29) (d := 47) (v := .bool true) rfl rfl (by kernel_rfl) (by kernel_rfl) (by kernel_rfl) (fun _ _ _ h => h) (Or.inl ⟨by rfl, ?_⟩) hHeld ?_
      ·intro wS hSw
       obtain ⟨z0, z1, z2, z3, z4⟩ := hSw
       clear hHeld
       go_simp
       (try (intro hz; omega))
      (try simp only [Act.put, List.setIfInBounds_toArray, List.set_cons_zero, List.set_cons_succ])
      clear hHeld
      refine wpAnyH_done (by kernel_rfl) (NoPanic.normal ?_) _
      clear CK
      have GE := hide (okPB_no (X := X) (fun h => unhide NO (h.2 k hlt)))
      go_wp2
      go_ret
      exact ⟨by rw [unhide GE]; rfl, unhide GG⟩
    ·have e2 : (R != R0) = true := by simpa using hR
     have NO : Hid (¬ likeM (X k).R (X k).C (X k).len (X 0).R (X 0).C) := fun h => hR ((unhide LK).1 (unhide TOK h)).2.1
     clear hb hR LK TOL TOK
     go_wp2_with fail
     refine wp_region_noPanic ?_
     refine wp_region_held_drew (S := fun w' => w'.cell? ⟨b, o + k * 3, none⟩ = some (.int .i64 R) ∧ w'.cell? ⟨b, o + k * 3 + 1, none⟩ = some (.int .i64 C) ∧ w'.cell? ⟨b, o + k * 3 + 2, none⟩ = some (.slice ao len lc) ∧ w'.cell? ⟨b, o, none⟩ = some (.int .i64 R0) ∧ w'.cell? ⟨b, o + 1, none⟩ = some (.int .i64 C0)) (by kernel_rfl) (unhide HH) (fun hHeld => ?_)
     refine take_slotP (i := 0) (d := 18) (v := .slice (some ⟨b, o, none⟩) n cap) rfl rfl (by kernel_rfl) (by kernel_rfl) (by kernel_rfl) (fun _ _ _ h => h) (Or.inl ⟨by rfl, ?_⟩) hHeld ?_
     ·intro wS hSw
      obtain ⟨z0, z1, z2, z3, z4⟩ := hSw
      clear hHeld
      go_simp
      (try (intro hz; omega))
     (try simp only [Act.put, List.setIfInBounds_toArray, List.set_cons_zero, List.set_cons_succ])
     refine take_slotP (i := 1) (d := 19) (v := .int .i64 (k : Int)) rfl rfl (by kernel_rfl) (by kernel_rfl) (by kernel_rfl) (fun _ _ _ h => h) (Or.inl ⟨by rfl, ?_⟩) hHeld ?_
     ·intro wS hSw
      obtain ⟨z0, z1, z2, z3, z4⟩ := hSw
      clear hHeld
      go_simp
      (try (intro hz; omega))
     (try simp only [Act.put, List.setIfInBounds_toArray, List.set_cons_zero, List.set_cons_succ])
     refine take_slotP (i := 2) (d := 20) (v := .pointer (some ⟨b, o + k * 3, none⟩)) rfl rfl (by kernel_rfl) (by kernel_rfl) (by kernel_rfl) (fun _ _ _ h => h) (Or.inl ⟨by rfl, ?_⟩) hHeld ?_
     ·intro wS hSw
      obtain ⟨z0, z1, z2, z3, z4⟩ := hSw
      clear hHeld
      go_simp
      (try (intro hz; omega))
     (try simp only [Act.put, List.setIfInBounds_toArray, List.set_cons_zero, List.set_cons_succ])
     refine take_slotP (i := 3) (d := 21) (v := .agg #[.int .i64 R, .int .i64 C, .slice ao len lc]) rfl rfl (by kernel_rfl) (by kernel_rfl) (by kernel_rfl) (fun _ _ _ h => h) (Or.inl ⟨by rfl, ?_⟩) hHeld ?_
     ·intro wS hSw
      obtain ⟨z0, z1, z2, z3, z4⟩ := hSw
      clear hHeld
      go_simp
      (try (intro hz; omega))
     (try simp only [Act.put, List.setIfInBounds_toArray, List.set_cons_zero, List.set_cons_succ])
     refine wpAnyH_ready (rs := [4]) (by kernel_rfl) (by simp) ?_
     refine AllReadyH.cons rfl (fun K hK => ?_) AllReadyH.nil
     go_simp
     refine (unhide CK _).mono ?_
     rintro e w3 ⟨rfl, g3⟩
     have hHeld : (fun w' => w'.cell? ⟨b, o + k * 3, none⟩ = some (.int .i64 R) ∧ w'.cell? ⟨b, o + k * 3 + 1, none⟩ = some (.int .i64 C) ∧ w'.cell? ⟨b, o + k * 3 + 2, none⟩ = some (.slice ao len lc) ∧ w'.cell? ⟨b, o, none⟩ = some (.int .i64 R0) ∧ w'.cell? ⟨b, o + 1, none⟩ = some (.int .i64 C0)) w3 := ⟨gat g3 hHeld.1, gat g3 hHeld.2.1, gat g3 hHeld.2.2.1, gat g3 hHeld.2.2.2.1, gat g3 hHeld.2.2.2.2⟩
     have GG : Hid (Grown w w3) := gtrans (show Grown w wr.drew from (unhide HI).1) g3
     clear g3
     refine hK.out _ _ hHeld (fun hHeld => ?_)
     clear hK K
     (try simp only [Act.put, List.setIfInBounds_toArray, List.set_cons_zero, List.set_cons_succ])
     refine take_slotP (i := 5) (d := 23) (v := .bool false) rfl rfl (by kernel_rfl) (by kernel_rfl) (by kernel_rfl) (fun _ _ _ h => h) (Or.inl ⟨by rfl, ?_⟩) hHeld ?_
     ·intro wS hSw
      obtain ⟨z0, z1, z2, z3, z4⟩ := hSw
      clear hHeld
      go_simp
      (try (intro hz; omega))
     (try simp only [Act.put, List.setIfInBounds_toArray, List.set_cons_zero, List.set_cons_succ])
     refine take_slotP (i := 6) (d := 24) (v := .bool false) rfl rfl (by kernel_rfl) (by kernel_rfl) (by kernel_rfl) (fun _ _ _ h => h) (Or.inl ⟨by rfl, ?_⟩) hHeld ?_
     ·intro wS hSw
      obtain ⟨z0, z1, z2, z3, z4⟩ := hSw
      clear hHeld
      go_simp
      (try (intro hz; omega))
     (try simp only [Act.put, List.setIfInBounds_toArray, List.set_cons_zero, List.set_cons_succ])
     refine take_slotP (i := 7) (d := 25) (v := .slice (some ⟨b, o, none⟩) n cap) rfl rfl (by kernel_rfl) (by kernel_rfl) (by kernel_rfl) (fun _ _ _ h => h) (Or.inl ⟨by rfl, ?_⟩) hHeld ?_
     ·intro wS hSw
      obtain ⟨z0, z1, z2, z3, z4⟩ := hSw
      clear hHeld
      go_simp
      (try (intro hz; omega))
     (try simp only [Act.put, List.setIfInBounds_toArray, List.set_cons_zero, List.set_cons_succ])
     refine take_slotP (i := 8) (d := 26) (v := .int .i64 (k : Int)) rfl rfl (by kernel_rfl) (by kernel_rfl) (by kernel_rfl) (fun _ _ _ h => h) (Or.inl ⟨by rfl, ?_⟩) hHeld ?_
     ·intro wS hSw
      obtain ⟨z0, z1, z2, z3, z4⟩ := hSw
      clear hHeld
      go_simp
      (try (intro hz; omega))
     (try simp only [Act.put, List.setIfInBounds_toArray, List.set_cons_zero, List.set_cons_succ])
     refine take_slotP (i := 9) (d := 27) (v := .pointer (some ⟨b, o + k * 3, none⟩)) rfl rfl (by kernel_rfl) (by kernel_rfl) (by kernel_rfl) (fun _ _ _ h => h) (Or.inl ⟨by rfl, ?_⟩) hHeld ?_
     ·intro wS hSw
      obtain ⟨z0, z1, z2, z3, z4⟩ := hSw
      clear hHeld
      go_simp
      (try (intro hz; omega))
     (try simp only [Act.put, List.setIfInBounds_toArray, List.set_cons_zero, List.set_cons_succ])
     refine take_slotP (i := 10) (d := 28) (v := .pointer (some ⟨b, o + k * 3, none⟩)) rfl rfl (by kernel_rfl) (by kernel_rfl) (by kernel_rfl) (fun _ _ _ h => h) (Or.inl ⟨by rfl, ?_⟩) hHeld ?_
     ·intro wS hSw
      obtain ⟨z0, z1, z2, z3, z4⟩ := hSw
      clear hHeld
      go_simp
      (try (intro hz; omega))
     (try simp only [Act.put, List.setIfInBounds_toArray, List.set_cons_zero, List.set_cons_succ])
     refine take_slotP (i := 11) (d := 29) (v := .int .i64 R) rfl rfl (by kernel_rfl) (by kernel_rfl) (by kernel_rfl) (fun _ _ _ h => h) (Or.inl ⟨by rfl, ?_⟩) hHeld ?_
     ·intro wS hSw
      obtain ⟨z0, z1, z2, z3, z4⟩ := hSw
      clear hHeld
      go_simp
      (try (intro hz; omega))
     (try simp only [Act.put, List.setIfInBounds_toArray, List.set_cons_zero, List.set_cons_succ])
     refine take_slotP (i := 12) (d := 30) (v := .slice (some ⟨b, o, none⟩) n cap) rfl rfl (by kernel_rfl) (by kernel_rfl) (by kernel_rfl) (fun _ _ _ h => h) (Or.inl ⟨by rfl, ?_⟩) hHeld ?_
     ·intro wS hSw
      obtain ⟨z0, z1, z2, z3, z4⟩ := hSw
      clear hHeld
      go_simp
      (try (intro hz; omega))
     (try simp only [Act.put, List.setIfInBounds_toArray, List.set_cons_zero, List.set_cons_succ])
     refine take_slotP (i := 13) (d := 31) (v := .pointer (some ⟨b, o, none⟩)) rfl rfl (by kernel_rfl) (by kernel_rfl) (by kernel_rfl) (fun _ _ _ h => h) (Or.inl ⟨by rfl, ?_⟩) hHeld ?_
     ·intro wS hSw
      obtain ⟨z0, z1, z2, z3, z4⟩ := hSw
      clear hHeld
      go_simp
      (try (intro hz; omega))
     (try simp only [Act.put, List.setIfInBounds_toArray, List.set_cons_zero, List.set_cons_succ])
     refine take_slotP (i := 14) (d := 32) (v := .pointer (some ⟨b, o, none⟩)) rfl rfl (by kernel_rfl) (by kernel_rfl) (by kernel_rfl) (fun _ _ _ h => h) (Or.inl ⟨by rfl, ?_⟩) hHeld ?_
     ·intro wS hSw
      obtain ⟨z0, z1, z2, z3, z4⟩ := hSw
      clear hHeld
      go_simp
      (try (intro hz; omega))
     (try simp only [Act.put, List.setIfInBounds_toArray, List.set_cons_zero, List.set_cons_succ])
     refine take_slotP (i := 15) (d := 33) (v := .int .i64 R0) rfl rfl (by kernel_rfl) (by kernel_rfl) (by kernel_rfl) (fun _ _ _ h => h) (Or.inl ⟨by rfl, ?_⟩) hHeld ?_
     ·intro wS hSw
      obtain ⟨z0, z1, z2, z3, z4⟩ := hSw
      clear hHeld
      go_simp
      (try (intro hz; omega))
     (try simp only [Act.put, List.setIfInBounds_toArray, List.set_cons_zero, List.set_cons_succ])
     refine take_slotP (i := 16) (d := 34) (v := .bool true) rfl rfl (by kernel_rfl) (by kernel_rfl) (by kernel_rfl) (fun _ _ _ h => h) (Or.inl ⟨by rfl, ?_⟩) hHeld ?_
     ·intro wS hSw
      obtain ⟨z0, z1, z2, z3, z4⟩ := hSw
      clear hHeld
      go_simp
      (try (intro hz; omega))
     (try simp only [Act.put, List.setIfInBounds_toArray, List.set_cons_zero, List.set_cons_succ])
     refine take_slotP (i := 17) (d := 35) (v := .bool true) rfl rfl (by kernel_rfl) (by kernel_rfl) (by kernel_rfl) (fun _ _ _ h => h) (Or.inl ⟨by rfl, ?_⟩) hHeld ?_
     ·intro wS hSw
      obtain ⟨z0, z1, z2, z3, z4⟩ := hSw
      clear hHeld
      go_simp
      (try (intro hz; omega))
     (try simp only [Act.put, List.setIfInBounds_toArray, List.set_cons_zero, List.set_cons_succ])
     refine take_slotP (i := 18) (d := 36) (v := .bool true) rfl rfl (by kernel_rfl) (by kernel_rfl) (by kernel_rfl) (fun _ _ _ h => h) (Or.inl ⟨by rfl, ?_⟩) hHeld ?_
     ·intro wS hSw
      obtain ⟨z0, z1, z2, z3, z4⟩ := hSw
      clear hHeld
      go_simp
      (try (intro hz; omega))
     (try simp only [Act.put, List.setIfInBounds_toArray, List.set_cons_zero, List.set_cons_succ])
     refine take_slotP (i := 19) (d := 37) (v := undef) rfl rfl (by kernel_rfl) (by kernel_rfl) (by kernel_rfl) (fun _ _ _ h => h) (Or.inr ⟨by rfl, rfl⟩) hHeld ?_
     (try simp only [Act.put, List.setIfInBounds_toArray, List.set_cons_zero, List.set_cons_succ])
     refine take_slotP (i := 20) (d := 38) (v := undef) rfl rfl (by kernel_rfl) (by kernel_rfl) (by kernel_rfl) (fun _ _ _ h => h) (Or.inr ⟨by rfl, rfl⟩) hHeld ?_
     (try simp only [Act.put, List.setIfInBounds_toArray, List.set_cons_zero, List.set_cons_succ])
     refine take_slotP (i := 21) (d := 39) (v := undef) rfl rfl (by kernel_rfl) (by kernel_rfl) (by kernel_rfl) (fun _ _ _ h => h) (Or.inr ⟨by rfl, rfl⟩) hHeld ?_
     (try simp only [Act.put, List.setIfInBounds_toArray, List.set_cons_zero, List.set_cons_succ])
     refine take_slotP (i := 22) (d := 40) (v := undef) rfl rfl (by kernel_rfl) (by kernel_rfl) (by kernel_rfl) (fun _ _ _ h => h) (Or.inr ⟨by rfl, rfl⟩) hHeld ?_
     (try simp only [Act.put, List.setIfInBounds_toArray, List.set_cons_zero, List.set_cons_succ])
     refine take_slotP (i := 23) (d := 41) (v := undef) rfl rfl (by kernel_rfl) (by kernel_rfl) (by kernel_rfl) (fun _ _ _ h => h) (Or.inr ⟨by rfl, rfl⟩) hHeld ?_
     (try simp only [Act.put, List.setIfInBounds_toArray, List.set_cons_zero, List.set_cons_succ])
     refine take_slotP (i := 24) (d := 42) (v := undef) rfl rfl (by kernel_rfl) (by kernel_rfl) (by kernel_rfl) (fun _ _ _ h => h) (Or.inr ⟨by rfl, rfl⟩) hHeld ?_
     (try simp only [Act.put, List.setIfInBounds_toArray, List.set_cons_zero, List.set_cons_succ])
     refine take_slotP (i := 25) (d := 43) (v := undef) rfl rfl (by kernel_rfl) (by kernel_rfl) (by kernel_rfl) (fun _ _ _ h => h) (Or.inr ⟨by rfl, rfl⟩) hHeld ?_
     (try simp only [Act.put, List.setIfInBounds_toArray, List.set_cons_zero, List.set_cons_succ])
     refine take_slotP (i := 26) (d := 44) (v := undef) rfl rfl (by kernel_rfl) (by kernel_rfl) (by kernel_rfl) (fun _ _ _ h => h) (Or.inr ⟨by rfl, rfl⟩) hHeld ?_
     (try simp only [Act.put, List.setIfInBounds_toArray, List.set_cons_zero, List.set_cons_succ])
     refine take_slotP (i := 27) (d := 45) (v := undef) rfl rfl (by kernel_rfl) (by kernel_rfl) (by kernel_rfl) (fun _ _ _ h => h) (Or.inr ⟨by rfl, rfl⟩) hHeld ?_
     (try simp only [Act.put, List.setIfInBounds_toArray, List.set_cons_zero, List.set_cons_succ])
     refine take_slotP (i := 28) (d := 46) (v := undef) rfl rfl (by kernel_rfl) (by kernel_rfl) (by kernel_rfl) (fun _ _ _ h => h) (Or.inr ⟨by rfl, rfl⟩) hHeld ?_
     (try simp only [Act.put, List.setIfInBounds_toArray, List.set_cons_zero, List.set_cons_succ])
     refine take_slotP (i := 29) (d := 47) (v := .bool true) rfl rfl (by kernel_rfl) (by kernel_rfl) (by kernel_rfl) (fun _ _ _ h => h) (Or.inl ⟨by rfl, ?_⟩) hHeld ?_
     ·intro wS hSw
      obtain ⟨z0, z1, z2, z3, z4⟩ := hSw
      clear hHeld
      go_simp
      (try (intro hz; omega))
     (try simp only [Act.put, List.setIfInBounds_toArray, List.set_cons_zero, List.set_cons_succ])
     clear hHeld
     refine wpAnyH_done (by kernel_rfl) (NoPanic.normal ?_) _
     clear CK
     have GE := hide (okPB_no (X := X) (fun h => unhide NO (h.2 k hlt)))
     go_wp2
     go_ret
     exact ⟨by rw [unhide GE]; rfl, unhide GG⟩
   ·rw [chk_bad hb] at CK
    have NO : Hid (¬ likeM (X k).R (X k).C (X k).len (X 0).R (X 0).C) := fun h => hb ((unhide LK).1 (unhide TOK h)).1
    clear hb LK TOL TOK
    go_wp2_with fail
    refine wp_region_noPanic ?_
    refine wp_region_held_drew (S := fun w' => w'.cell? ⟨b, o + k * 3, none⟩ = some (.int .i64 R) ∧ w'.cell? ⟨b, o + k * 3 + 1, none⟩ = some (.int .i64 C) ∧ w'.cell? ⟨b, o + k * 3 + 2, none⟩ = some (.slice ao len lc) ∧ w'.cell? ⟨b, o, none⟩ = some (.int .i64 R0) ∧ w'.cell? ⟨b, o + 1, none⟩ = some (.int .i64 C0)) (by kernel_rfl) (unhide HH) (fun hHeld => ?_)
    refine take_slotP (i := 0) (d := 18) (v := .slice (some ⟨b, o, none⟩) n cap) rfl rfl (by kernel_rfl) (by kernel_rfl) (by kernel_rfl) (fun _ _ _ h => h) (Or.inl ⟨by rfl, ?_⟩) hHeld ?_
    ·intro wS hSw
     obtain ⟨z0, z1, z2, z3, z4⟩ := hSw
     clear hHeld
     go_simp
     (try (intro hz; omega))
    (try simp only [Act.put, List.setIfInBounds_toArray, List.set_cons_zero, List.set_cons_succ])
    refine take_slotP (i := 1) (d := 19) (v := .int .i64 (k : Int)) rfl rfl (by kernel_rfl) (by kernel_rfl) (by kernel_rfl) (fun _ _ _ h => h) (Or.inl ⟨by rfl, ?_⟩) hHeld ?_
    ·intro wS hSw
     obtain ⟨z0, z1, z2, z3, z4⟩ := hSw
     clear hHeld
     go_simp
     (try (intro hz; omega))
    (try simp only [Act.put, List.setIfInBounds_toArray, List.set_cons_zero, List.set_cons_succ])
    refine take_slotP (i := 2) (d := 20) (v := .pointer (some ⟨b, o + k * 3, none⟩)) rfl rfl (by kernel_rfl) (by kernel_rfl) (by kernel_rfl) (fun _ _ _ h => h) (Or.inl ⟨by rfl, ?_⟩) hHeld ?_
    ·intro wS hSw
     obtain ⟨z0, z1, z2, z3, z4⟩ := hSw
     clear hHeld
     go_simp
     (try (intro hz; omega))
    (try simp only [Act.put, List.setIfInBounds_toArray, List.set_cons_zero, List.set_cons_succ])
    refine take_slotP (i := 3) (d := 21) (v := .agg #[.int .i64 R, .int .i64 C, .slice ao len lc]) rfl rfl (by kernel_rfl) (by kernel_rfl) (by kernel_rfl) (fun _ _ _ h => h) (Or.inl ⟨by rfl, ?_⟩) hHeld ?_
    ·intro wS hSw
     obtain ⟨z0, z1, z2, z3, z4⟩ := hSw
     clear hHeld
     go_simp
     (try (intro hz; omega))
    (try simp only [Act.put, List.setIfInBounds_toArray, List.set_cons_zero, List.set_cons_succ])
    refine wpAnyH_ready (rs := [4]) (by kernel_rfl) (by simp) ?_
    refine AllReadyH.cons rfl (fun K hK => ?_) AllReadyH.nil
    go_simp
    refine (unhide CK _).mono ?_
    rintro e w3 ⟨rfl, g3⟩
    have hHeld : (fun w' => w'.cell? ⟨b, o + k * 3, none⟩ = some (.int .i64 R) ∧ w'.cell? ⟨b, o + k * 3 + 1, none⟩ = some (.int .i64 C) ∧ w'.cell? ⟨b, o + k * 3 + 2, none⟩ = some (.slice ao len lc) ∧ w'.cell? ⟨b, o, none⟩ = some (.int .i64 R0) ∧ w'.cell? ⟨b, o + 1, none⟩ = some (.int .i64 C0)) w3 := ⟨gat g3 hHeld.1, gat g3 hHeld.2.1, gat g3 hHeld.2.2.1, gat g3 hHeld.2.2.2.1, gat g3 hHeld.2.2.2.2⟩
    have GG : Hid (Grown w w3) := gtrans (show Grown w wr.drew from (unhide HI).1) g3
    clear g3
    refine hK.out _ _ hHeld (fun hHeld => ?_)
    clear hK K
    (try simp only [Act.put, List.setIfInBounds_toArray, List.set_cons_zero, List.set_cons_succ])
    refine take_slotP (i := 5) (d := 23) (v := .bool true) rfl rfl (by kernel_rfl) (by kernel_rfl) (by kernel_rfl) (fun _ _ _ h => h) (Or.inl ⟨by rfl, ?_⟩) hHeld ?_
    ·intro wS hSw
     obtain ⟨z0, z1, z2, z3, z4⟩ := hSw
     clear hHeld
     go_simp
     (try (intro hz; omega))
    (try simp only [Act.put, List.setIfInBounds_toArray, List.set_cons_zero, List.set_cons_succ])
    refine take_slotP (i := 6) (d := 24) (v := .bool true) rfl rfl (by kernel_rfl) (by kernel_rfl) (by kernel_rfl) (fun _ _ _ h => h) (Or.inl ⟨by rfl, ?_⟩) hHeld ?_
    ·intro wS hSw
     obtain ⟨z0, z1, z2, z3, z4⟩ := hSw
     clear hHeld
     go_simp
     (try (intro hz; omega))
    (try simp only [Act.put, List.setIfInBounds_toArray, List.set_cons_zero, List.set_cons_succ])
    refine take_slotP (i := 7) (d := 25) (v := undef) rfl rfl (by kernel_rfl) (by kernel_rfl) (by kernel_rfl) (fun _ _ _ h => h) (Or.inr ⟨by rfl, rfl⟩) hHeld ?_
    (try simp only [Act.put, List.setIfInBounds_toArray, List.set_cons_zero, List.set_cons_succ])
    refine take_slotP (i := 8) (d := 26) (v := undef) rfl rfl (by kernel_rfl) (by kernel_rfl) (by kernel_rfl) (fun _ _ _ h => h) (Or.inr ⟨by rfl, rfl⟩) hHeld ?_
    (try simp only [Act.put, List.setIfInBounds_toArray, List.set_cons_zero, List.set_cons_succ])
    refine take_slotP (i := 9) (d := 27) (v := undef) rfl rfl (by kernel_rfl) (by kernel_rfl) (by kernel_rfl) (fun _ _ _ h => h) (Or.inr ⟨by rfl, rfl⟩) hHeld ?_
    (try simp only [Act.put, List.setIfInBounds_toArray, List.set_cons_zero, List.set_cons_succ])
    refine take_slotP (i := 10) (d := 28) (v := undef) rfl rfl (by kernel_rfl) (by kernel_rfl) (by kernel_rfl) (fun _ _ _ h => h) (Or.inr ⟨by rfl, rfl⟩) hHeld ?_
    (try simp only [Act.put, List.setIfInBounds_toArray, List.set_cons_zero, List.set_cons_succ])
    refine take_slotP (i := 11) (d := 29) (v := undef) rfl rfl (by kernel_rfl) (by kernel_rfl) (by kernel_rfl) (fun _ _ _ h => h) (Or.inr ⟨by rfl, rfl⟩) hHeld ?_
    (try simp only [Act.put, List.setIfInBounds_toArray, List.set_cons_zero, List.set_cons_succ])
    refine take_slotP (i := 12) (d := 30) (v := undef) rfl rfl (by kernel_rfl) (by kernel_rfl) (by kernel_rfl) (fun _ _ _ h => h) (Or.inr ⟨by rfl, rfl⟩) hHeld ?_
    (try simp only [Act.put, List.setIfInBounds_toArray, List.set_cons_zero, List.set_cons_succ])
    refine take_slotP (i := 13) (d := 31) (v := undef) rfl rfl (by kernel_rfl) (by kernel_rfl) (by kernel_rfl) (fun _ _ _ h => h) (Or.inr ⟨by rfl, rfl⟩) hHeld ?_
    (try simp only [Act.put, List.setIfInBounds_toArray, List.set_cons_zero, List.set_cons_succ])
    refine take_slotP (i := 14) (d := 32) (v := undef) rfl rfl (by kernel_rfl) (by kernel_rfl) (by kernel_rfl) (fun _ _ _ h => h) (Or.inr ⟨by rfl, rfl⟩) hHeld ?_
    (try simp only [Act.put, List.setIfInBounds_toArray, List.set_cons_zero, List.set_cons_succ])
    refine take_slotP (i := 15) (d := 33) (v := undef) rfl rfl (by kernel_rfl) (by kernel_rfl) (by kernel_rfl) (fun _ _ _ h => h) (Or.inr ⟨by rfl, rfl⟩) hHeld ?_
    (try simp only [Act.put, List.setIfInBounds_toArray, List.set_cons_zero, List.set_cons_succ])
    refine take_slotP (i := 16) (d := 34) (v := undef) rfl rfl (by kernel_rfl) (by kernel_rfl) (by kernel_rfl) (fun _ _ _ h => h) (Or.inr ⟨by rfl, rfl⟩) hHeld ?_
    (try simp only [Act.put, List.setIfInBounds_toArray, List.set_cons_zero, List.set_cons_succ])
    refine take_slotP (i := 17) (d := 35) (v := .bool true) rfl rfl (by kernel_rfl) (by kernel_rfl) (by kernel_rfl) (fun _ _ _ h => h) (Or.inl ⟨by rfl, ?_⟩) hHeld ?_
    ·intro wS hSw
     obtain ⟨z0, z1, z2, z3, z4⟩ := hSw
     clear hHeld
     go_simp
     (try (intro hz; omega))
    (try simp only [Act.put, List.setIfInBounds_toArray, List.set_cons_zero, List.set_cons_succ])
    refine take_slotP (i := 18) (d := 36) (v := .bool true) rfl rfl (by kernel_rfl) (by kernel_rfl) (by kernel_rfl) (fun _ _ _ h => h) (Or.inl ⟨by rfl, ?_⟩) hHeld ?_
    ·intro wS hSw
     obtain ⟨z0, z1, z2, z3, z4⟩ := hSw
     clear hHeld
     go_simp
     (try (intro hz; omega))
    (try simp only [Act.put, List.setIfInBounds_toArray, List.set_cons_zero, List.set_cons_succ])
    refine take_slotP (i := 19) (d := 37) (v := undef) rfl rfl (by kernel_rfl) (by kernel_rfl) (by kernel_rfl) (fun _ _ _ h => h) (Or.inr ⟨by rfl, rfl⟩) hHeld ?_
    (try simp only [Act.put, List.setIfInBounds_toArray, List.set_cons_zero, List.set_cons_succ])
    refine take_slotP (i := 20) (d := 38) (v := undef) rfl rfl (by kernel_rfl) (by kernel_rfl) (by kernel_rfl) (fun _ _ _ h => h) (Or.inr ⟨by rfl, rfl⟩) hHeld ?_
    (try simp only [Act.put, List.setIfInBounds_toArray, List.set_cons_zero, List.set_cons_succ])
    refine take_slotP (i := 21) (d := 39) (v := undef) rfl rfl (by kernel_rfl) (by kernel_rfl) (by kernel_rfl) (fun _ _ _ h => h) (Or.inr ⟨by rfl, rfl⟩) hHeld ?_
    (try simp only [Act.put, List.setIfInBounds_toArray, List.set_cons_zero, List.set_cons_succ])
    refine take_slotP (i := 22) (d := 40) (v := undef) rfl rfl (by kernel_rfl) (by kernel_rfl) (by kernel_rfl) (fun _ _ _ h => h) (Or.inr ⟨by rfl, rfl⟩) hHeld ?_
    (try simp only [Act.put, List.setIfInBounds_toArray, List.set_cons_zero, List.set_cons_succ])
    refine take_slotP (i := 23) (d := 41) (v := undef) rfl rfl (by kernel_rfl) (by kernel_rfl) (by kernel_rfl) (fun _ _ _ h => h) (Or.inr ⟨by rfl, rfl⟩) hHeld ?_
    (try simp only [Act.put, List.setIfInBounds_toArray, List.set_cons_zero, List.set_cons_succ])
    refine take_slotP (i := 24) (d := 42) (v := undef) rfl rfl (by kernel_rfl) (by kernel_rfl) (by kernel_rfl) (fun _ _ _ h => h) (Or.inr ⟨by rfl, rfl⟩) hHeld ?_
    (try simp only [Act.put, List.setIfInBounds_toArray, List.set_cons_zero, List.set_cons_succ])
    refine take_slotP (i := 25) (d := 43) (v := undef) rfl rfl (by kernel_rfl) (by kernel_rfl) (by kernel_rfl) (fun _ _ _ h => h) (Or.inr ⟨by rfl, rfl⟩) hHeld ?_
    (try simp only [Act.put, List.setIfInBounds_toArray, List.set_cons_zero, List.set_cons_succ])
    refine take_slotP (i := 26) (d := 44) (v := undef) rfl rfl (by kernel_rfl) (by kernel_rfl) (by kernel_rfl) (fun _ _ _ h => h) (Or.inr ⟨by rfl, rfl⟩) hHeld ?_
    (try simp only [Act.put, List.setIfInBounds_toArray, List.set_cons_zero, List.set_cons_succ])
    refine take_slotP (i := 27) (d := 45) (v := undef) rfl rfl (by kernel_rfl) (by kernel_rfl) (by kernel_rfl) (fun _ _ _ h => h) (Or.inr ⟨by rfl, rfl⟩) hHeld ?_
    (try simp only [Act.put, List.setIfInBounds_toArray, List.set_cons_zero, List.set_cons_succ])
    refine take_slotP (i := 28) (d := 46) (v := undef) rfl rfl (by kernel_rfl) (by kernel_rfl) (by kernel_rfl) (fun _ _ _ h => h) (Or.inr ⟨by rfl, rfl⟩) hHeld ?_
    (try simp only [Act.put, List.setIfInBounds_toArray, List.set_cons_zero, List.set_cons_succ])
    refine take_slotP (i := 29) (d := 47) (v := .bool true) rfl rfl (by kernel_rfl) (by kernel_rfl) (by kernel_rfl) (fun _ _ _ h => h) (Or.inl ⟨by rfl, ?_⟩) hHeld ?_
    ·intro wS hSw
     obtain ⟨z0, z1, z2, z3, z4⟩ := hSw
     clear hHeld
     go_simp
     (try (intro hz; omega))
    (try simp only [Act.put, List.setIfInBounds_toArray, List.set_cons_zero, List.set_cons_succ])
    clear hHeld
    refine wpAnyH_done (by kernel_rfl) (NoPanic.normal ?_) _
    clear CK
    have GE := hide (okPB_no (X := X) (fun h => unhide NO (h.2 k hlt)))
    go_wp2
    go_ret
    exact ⟨by rw [unhide GE]; rfl, unhide GG⟩
  ·obtain rfl : k = n := by omega
   have GE := hide (okPB_yes (X := X) ⟨unhide HN, (unhide HI).2⟩)
   have GG := hide (unhide HI).1
   clear HI
   go_wp2
   go_ret
   exact ⟨by rw [unhide GE]; rfl, unhide GG⟩
def inTime (ticks : Int) : Prop := -1099511627776 ≤ ticks ∧ ticks ≤ 1099511627776
open Classical in
noncomputable def rfD (m : DV) (ticks : Int) : Int := if okD m then (if inTime ticks then 0 else 4) else 2
theorem rfD_time {m : DV} {ticks : Int} (h : okD m) (h2 : inTime ticks) : rfD m ticks = 0 := by unfold rfD; rw [if_pos h, if_pos h2]
theorem rfD_late {m : DV} {ticks : Int} (h : okD m) (h2 : ¬ inTime ticks) : rfD m ticks = 4 := by unfold rfD; rw [if_pos h, if_neg h2]
theorem rfD_no {m : DV} {ticks : Int} (h : ¬ okD m) : rfD m ticks = 2 := by unfold rfD; rw [if_neg h]
theorem Blk.cellsM {A : Nat} {m : DV} {W : World} (h : Blk A m.cells 25 W) : W.cell? ⟨A, 0, none⟩ = some (.int .i64 m.N) ∧ W.cell? ⟨A, 1, none⟩ = some (.slice m.A.ao m.A.len m.A.cap) ∧ W.cell? ⟨A, 2, none⟩ = some (.slice m.Q.ao m.Q.len m.Q.cap) ∧ W.cell? ⟨A, 3, none⟩ = some (.int .i64 m.tick) ∧ W.cell? ⟨A, 4, none⟩ = some (.int .i64 m.gate) ∧ W.cell? ⟨A, 5, none⟩ = some (.int .i64 m.rmin) ∧ W.cell? ⟨A, 6, none⟩ = some (.slice m.ro m.rl m.rc) :=
 ⟨Blk.cell h 0, Blk.cell h 1, Blk.cell h 2, Blk.cell h 3, Blk.cell h 4, Blk.cell h 5, Blk.cell h 6⟩
set_option maxRecDepth 20000 in
set_option maxHeartbeats 4000000 in
theorem refRefuses (m : DV) (ticks : Int) (w : World) (hm : m.good w) :
  Calls Tryz.prog 35 #[.agg m.cells, .int .i64 ticks] w fun e w' => e = .returned (.int .i64 (rfD m ticks)) ∧ Grown w w' := by
 have S0 : Hid (Grown w (w.alloc (.cells #[.int .i64 m.N, .slice m.A.ao m.A.len m.A.cap, .slice m.Q.ao m.Q.len m.Q.cap, .int .i64 m.tick, .int .i64 m.gate, .int .i64 m.rmin, .slice m.ro m.rl m.rc] 25)) ∧ Blk w.heap.size m.cells 25 (w.alloc (.cells #[.int .i64 m.N, .slice m.A.ao m.A.len m.A.cap, .slice m.Q.ao m.Q.len m.Q.cap, .int .i64 m.tick, .int .i64 m.gate, .int .i64 m.rmin, .slice m.ro m.rl m.rc] 25))) := ⟨(Grown.refl _).alloc _ _, Blk.new w _ _⟩
 have CK : Hid (∀ W, Grown w W → Calls Tryz.prog 75 #[.agg #[.int .i64 m.N, .slice m.A.ao m.A.len m.A.cap, .slice m.Q.ao m.Q.len m.Q.cap, .int .i64 m.tick, .int .i64 m.gate, .int .i64 m.rmin, .slice m.ro m.rl m.rc]] W fun e w' => e = .returned (.int .i64 (chkD m)) ∧ Grown W w') := fun W g => refCheck m W (hm.kp (Kp.of g)).rows
 clear hm
 unfold DV.cells
 obtain ⟨y0, y1, y2, y3, y4, y5, y6⟩ := (unhide S0).2.cellsM
 by_cases hok : okD m
 ·have E1 : Hid (chkD m = 0) := if_pos hok
  rw [unhide E1] at CK
  clear E1
  by_cases h1 : ticks < -1099511627776
  ·have d1 : decide (ticks < -1099511627776) = true := decide_eq_true h1
   rw [rfD_late hok (fun h => by have := h.1; omega)]
   clear h1 hok
   go_enter Tryz.func35, Tryz.ntmps35
   go_wp2_with fail
   generalize (w.alloc (.cells #[.int .i64 m.N, .slice m.A.ao m.A.len m.A.cap, .slice m.Q.ao m.Q.len m.Q.cap, .int .i64 m.tick, .int .i64 m.gate, .int .i64 m.rmin, .slice m.ro m.rl m.rc] 25)) = w1 at *
   refine (unhide CK w1 (unhide S0).1).mono ?_
   rintro e w2 ⟨rfl, g2⟩
   have G := hide (gtrans (unhide S0).1 g2)
   clear g2 S0 CK y0 y1 y2 y3 y4 y5 y6
   go_wp2
   go_ret
   exact ⟨rfl, unhide G⟩
  ·have d1 : decide (ticks < -1099511627776) = false := decide_eq_false h1
   by_cases h2 : 1099511627776 < ticks
   ·have d2 : decide (1099511627776 < ticks) = true := decide_eq_true h2
    rw [rfD_late hok (fun h => by have := h.2; omega)]
    clear h1 h2 hok
    go_enter Tryz.func35, Tryz.ntmps35
    go_wp2_with fail
    generalize (w.alloc (.cells #[.int .i64 m.N, .slice m.A.ao m.A.len m.A.cap, .slice m.Q.ao m.Q.len m.Q.cap, .int .i64 m.tick, .int .i64 m.gate, .int .i64 m.rmin, .slice m.ro m.rl m.rc] 25)) = w1 at *
    refine (unhide CK w1 (unhide S0).1).mono ?_
    rintro e w2 ⟨rfl, g2⟩
    have G := hide (gtrans (unhide S0).1 g2)
    clear g2 S0 CK y0 y1 y2 y3 y4 y5 y6
    go_wp2
    go_ret
    exact ⟨rfl, unhide G⟩
   ·have d2 : decide (1099511627776 < ticks) = false := decide_eq_false h2
    rw [rfD_time hok (show inTime ticks from ⟨by omega, by omega⟩)]
    clear h1 h2 hok
    go_enter Tryz.func35, Tryz.ntmps35
    go_wp2_with fail
    generalize (w.alloc (.cells #[.int .i64 m.N, .slice m.A.ao m.A.len m.A.cap, .slice m.Q.ao m.Q.len m.Q.cap, .int .i64 m.tick, .int .i64 m.gate, .int .i64 m.rmin, .slice m.ro m.rl m.rc] 25)) = w1 at *
    refine (unhide CK w1 (unhide S0).1).mono ?_
    rintro e w2 ⟨rfl, g2⟩
    have G := hide (gtrans (unhide S0).1 g2)
    clear g2 S0 CK y0 y1 y2 y3 y4 y5 y6
    go_wp2
    go_ret
    exact ⟨rfl, unhide G⟩
 ·have E1 : Hid (chkD m = 2) := if_neg hok
  rw [unhide E1] at CK
  rw [rfD_no hok]
  clear hok E1
  go_enter Tryz.func35, Tryz.ntmps35
  go_wp2_with fail
  generalize (w.alloc (.cells #[.int .i64 m.N, .slice m.A.ao m.A.len m.A.cap, .slice m.Q.ao m.Q.len m.Q.cap, .int .i64 m.tick, .int .i64 m.gate, .int .i64 m.rmin, .slice m.ro m.rl m.rc] 25)) = w1 at *
  refine (unhide CK w1 (unhide S0).1).mono ?_
  rintro e w2 ⟨rfl, g2⟩
  have G := hide (gtrans (unhide S0).1 g2)
  clear g2 S0 CK y0 y1 y2 y3 y4 y5 y6
  go_wp2
  go_ret
  exact ⟨rfl, unhide G⟩
set_option maxRecDepth 20000 in
set_option maxHeartbeats 4000000 in
theorem refMoA (m : DV) (w : World) :
  Calls Tryz.prog 41 #[.agg m.cells] w fun e w' => e = .returned (.agg #[.int .i64 m.N, .int .i64 m.N, .slice m.A.ao m.A.len m.A.cap]) ∧ Grown w w' := by
 have G : Hid (Grown w ((w.alloc (.cells #[.int .i64 m.N, .slice m.A.ao m.A.len m.A.cap, .slice m.Q.ao m.Q.len m.Q.cap, .int .i64 m.tick, .int .i64 m.gate, .int .i64 m.rmin, .slice m.ro m.rl m.rc] 25)).alloc (.cells #[.int .i64 m.N, .int .i64 m.N, .slice m.A.ao m.A.len m.A.cap] 38))) := ((Grown.refl _).alloc _ _).alloc _ _
 unfold DV.cells
 go_enter Tryz.func41, Tryz.ntmps41
 go_wp2
 have s1 : ((w.alloc (.cells #[.int .i64 m.N, .slice m.A.ao m.A.len m.A.cap, .slice m.Q.ao m.Q.len m.Q.cap, .int .i64 m.tick, .int .i64 m.gate, .int .i64 m.rmin, .slice m.ro m.rl m.rc] 25))).heap.size = w.heap.size + 1 := by simp
 have B : Blk (w.heap.size + 1) #[.int .i64 m.N, .int .i64 m.N, .slice m.A.ao m.A.len m.A.cap] 38 ((w.alloc (.cells #[.int .i64 m.N, .slice m.A.ao m.A.len m.A.cap, .slice m.Q.ao m.Q.len m.Q.cap, .int .i64 m.tick, .int .i64 m.gate, .int .i64 m.rmin, .slice m.ro m.rl m.rc] 25)).alloc (.cells #[.int .i64 m.N, .int .i64 m.N, .slice m.A.ao m.A.len m.A.cap] 38)) := by rw [← s1]; exact Blk.new _ _ _
 generalize ((w.alloc (.cells #[.int .i64 m.N, .slice m.A.ao m.A.len m.A.cap, .slice m.Q.ao m.Q.len m.Q.cap, .int .i64 m.tick, .int .i64 m.gate, .int .i64 m.rmin, .slice m.ro m.rl m.rc] 25)).alloc (.cells #[.int .i64 m.N, .int .i64 m.N, .slice m.A.ao m.A.len m.A.cap] 38)) = wE at *
 have c0' : wE.cell? ⟨w.heap.size + 1, 0, none⟩ = some (.int .i64 m.N) := Blk.cell B 0
 have c1' : wE.cell? ⟨w.heap.size + 1, 1, none⟩ = some (.int .i64 m.N) := Blk.cell B 1
 have c2' : wE.cell? ⟨w.heap.size + 1, 2, none⟩ = some (.slice m.A.ao m.A.len m.A.cap) := Blk.cell B 2
 refine bodyPost_ret (v := .agg #[.int .i64 m.N, .int .i64 m.N, .slice m.A.ao m.A.len m.A.cap]) (by simp [results, Tryz.results41, go_sem, c0', c1', c2']) rfl ?_
 exact ⟨rfl, unhide G⟩
set_option maxRecDepth 20000 in
set_option maxHeartbeats 4000000 in
theorem refSpan_bad (R : Nat) (m : DV) (ticks : Int) (w : World) (hm : m.good w) (e0 : rfD m ticks ≠ 0) :
  Calls Tryz.prog 14 #[.pointer (some ⟨R, 0, none⟩), .agg m.cells, .int .i64 ticks] w fun e w' => e = .returned (.tuple #[.int .i64 0, .int .i64 (rfD m ticks)]) ∧ Grown w w' := by
 have S0 : Hid (Grown w (w.alloc (.cells #[.int .i64 m.N, .slice m.A.ao m.A.len m.A.cap, .slice m.Q.ao m.Q.len m.Q.cap, .int .i64 m.tick, .int .i64 m.gate, .int .i64 m.rmin, .slice m.ro m.rl m.rc] 25)) ∧ Blk w.heap.size m.cells 25 (w.alloc (.cells #[.int .i64 m.N, .slice m.A.ao m.A.len m.A.cap, .slice m.Q.ao m.Q.len m.Q.cap, .int .i64 m.tick, .int .i64 m.gate, .int .i64 m.rmin, .slice m.ro m.rl m.rc] 25))) := ⟨(Grown.refl _).alloc _ _, Blk.new w _ _⟩
 have RF : Hid (∀ W, Grown w W → Calls Tryz.prog 35 #[.agg #[.int .i64 m.N, .slice m.A.ao m.A.len m.A.cap, .slice m.Q.ao m.Q.len m.Q.cap, .int .i64 m.tick, .int .i64 m.gate, .int .i64 m.rmin, .slice m.ro m.rl m.rc], .int .i64 ticks] W fun e w' => e = .returned (.int .i64 (rfD m ticks)) ∧ Grown W w') := fun W g => refRefuses m ticks W (hm.kp (Kp.of g))
 clear hm
 have de : (rfD m ticks != 0) = true := by simpa using e0
 generalize rfD m ticks = er at *
 clear e0
 obtain ⟨y0, y1, y2, y3, y4, y5, y6⟩ := (unhide S0).2.cellsM
 unfold DV.cells
 go_enter Tryz.func14, Tryz.ntmps14
 go_wp2_with fail
 generalize (w.alloc (.cells #[.int .i64 m.N, .slice m.A.ao m.A.len m.A.cap, .slice m.Q.ao m.Q.len m.Q.cap, .int .i64 m.tick, .int .i64 m.gate, .int .i64 m.rmin, .slice m.ro m.rl m.rc] 25)) = w1 at *
 refine (unhide RF w1 (unhide S0).1).mono ?_
 rintro e w2 ⟨rfl, g2⟩
 have G := hide (gtrans (unhide S0).1 g2)
 clear g2 S0 RF y0 y1 y2 y3 y4 y5 y6
 go_wp2
 refine bodyPost_ret (v := .tuple #[.int .i64 0, .int .i64 er]) (by simp [results, Tryz.results14, go_sem]) rfl ?_
 exact ⟨rfl, unhide G⟩
set_option maxRecDepth 20000 in
set_option maxHeartbeats 8000000 in
theorem refSpan_ok (R : Nat) (c0 : Bool) (n0 : Int) (hn0 : 0 ≤ n0 ∧ n0 < 1000000000000000000) (m : DV) (ticks : Int) (hI : I64 ticks) (w : World) (hm : m.good w) (e0 : rfD m ticks = 0) (h : RC R c0 n0 w) :
  Calls Tryz.prog 14 #[.pointer (some ⟨R, 0, none⟩), .agg m.cells, .int .i64 ticks] w fun e w' => e = .returned (.tuple #[.int .i64 (spanZ ticks m.tick), .int .i64 0]) ∧ RC R (c0 || spanC ticks m.tick) (n0 + 3) w' ∧ Mod R w w' := by
 have S0 : Hid (Grown w (w.alloc (.cells #[.int .i64 m.N, .slice m.A.ao m.A.len m.A.cap, .slice m.Q.ao m.Q.len m.Q.cap, .int .i64 m.tick, .int .i64 m.gate, .int .i64 m.rmin, .slice m.ro m.rl m.rc] 25)) ∧ Blk w.heap.size m.cells 25 (w.alloc (.cells #[.int .i64 m.N, .slice m.A.ao m.A.len m.A.cap, .slice m.Q.ao m.Q.len m.Q.cap, .int .i64 m.tick, .int .i64 m.gate, .int .i64 m.rmin, .slice m.ro m.rl m.rc] 25))) := ⟨(Grown.refl _).alloc _ _, Blk.new w _ _⟩
 have RF : Hid (∀ W, Grown w W → Calls Tryz.prog 35 #[.agg #[.int .i64 m.N, .slice m.A.ao m.A.len m.A.cap, .slice m.Q.ao m.Q.len m.Q.cap, .int .i64 m.tick, .int .i64 m.gate, .int .i64 m.rmin, .slice m.ro m.rl m.rc], .int .i64 ticks] W fun e w' => e = .returned (.int .i64 0) ∧ Grown W w') := fun W g => by
  have := refRefuses m ticks W (hm.kp (Kp.of g))
  rwa [e0] at this
 have lR : Hid (R < w.heap.size) := Blk.lt h
 have HT : Hid (I64 m.tick) := hm.2.2.2.2.2.1.2.1
 have HH := hide h
 have HN := hide hn0
 have HI := hide hI
 clear hm e0 h hn0 hI
 obtain ⟨y0, y1, y2, y3, y4, y5, y6⟩ := (unhide S0).2.cellsM
 unfold DV.cells
 go_enter Tryz.func14, Tryz.ntmps14
 go_wp2_with fail
 generalize (w.alloc (.cells #[.int .i64 m.N, .slice m.A.ao m.A.len m.A.cap, .slice m.Q.ao m.Q.len m.Q.cap, .int .i64 m.tick, .int .i64 m.gate, .int .i64 m.rmin, .slice m.ro m.rl m.rc] 25)) = w1 at *
 refine (unhide RF w1 (unhide S0).1).mono ?_
 rintro e w2 ⟨rfl, g2⟩
 have S2 : Hid (Grown w w2 ∧ Blk w.heap.size m.cells 25 w2) := ⟨gtrans (unhide S0).1 g2, Blk.grown (unhide S0).2 g2⟩
 clear g2 S0 RF y0 y1 y2 y3 y4 y5 y6
 have z3 : w2.cell? ⟨w.heap.size, 3, none⟩ = some (.int .i64 m.tick) := (unhide S2).2.cellsM.2.2.2.1
 go_wp2_with fail
 refine wp_region_noPanic ?_
 refine wp_region_held_drew (S := fun w' => w'.cell? ⟨w.heap.size, 3, none⟩ = some (.int .i64 m.tick)) (by kernel_rfl) z3 (fun hHeld => ?_)
 clear z3
 have U2 : Hid (RC R c0 n0 w2.drew ∧ Mod R w w2.drew) := ⟨Blk.grown (unhide HH) (unhide S2).1, Mod.of (unhide S2).1⟩
 refine take_slotP (i := 0) (d := 15) (v := .pointer (some ⟨R, 0, none⟩)) rfl rfl (by kernel_rfl) (by kernel_rfl) (by kernel_rfl) (fun _ _ _ h => h) (Or.inl ⟨by rfl, ?_⟩) hHeld ?_
 ·intro wS hSw
  have z3 := hSw
  clear hHeld
  go_simp
 (try simp only [Act.put, List.setIfInBounds_toArray, List.set_cons_zero, List.set_cons_succ])
 refine take_slotP (i := 1) (d := 16) (v := .pointer (some ⟨R, 0, none⟩)) rfl rfl (by kernel_rfl) (by kernel_rfl) (by kernel_rfl) (fun _ _ _ h => h) (Or.inl ⟨by rfl, ?_⟩) hHeld ?_
 ·intro wS hSw
  have z3 := hSw
  clear hHeld
  go_simp
 (try simp only [Act.put, List.setIfInBounds_toArray, List.set_cons_zero, List.set_cons_succ])
 refine take_slotP (i := 2) (d := 17) (v := .int .i64 ticks) rfl rfl (by kernel_rfl) (by kernel_rfl) (by kernel_rfl) (fun _ _ _ h => h) (Or.inl ⟨by rfl, ?_⟩) hHeld ?_
 ·intro wS hSw
  have z3 := hSw
  clear hHeld
  go_simp
 (try simp only [Act.put, List.setIfInBounds_toArray, List.set_cons_zero, List.set_cons_succ])
 refine take_slotP (i := 4) (d := 19) (v := .pointer (some ⟨w.heap.size, 3, none⟩)) rfl rfl (by kernel_rfl) (by kernel_rfl) (by kernel_rfl) (fun _ _ _ h => h) (Or.inl ⟨by rfl, ?_⟩) hHeld ?_
 ·intro wS hSw
  have z3 := hSw
  clear hHeld
  go_simp
 (try simp only [Act.put, List.setIfInBounds_toArray, List.set_cons_zero, List.set_cons_succ])
 refine take_slotP (i := 5) (d := 20) (v := .int .i64 m.tick) rfl rfl (by kernel_rfl) (by kernel_rfl) (by kernel_rfl) (fun _ _ _ h => h) (Or.inl ⟨by rfl, ?_⟩) hHeld ?_
 ·intro wS hSw
  have z3 := hSw
  clear hHeld
  go_simp
 (try simp only [Act.put, List.setIfInBounds_toArray, List.set_cons_zero, List.set_cons_succ])
 have HS := hide hHeld
 clear hHeld
 refine wpAnyH_ready (rs := [3]) (by kernel_rfl) (by simp) ?_
 refine AllReadyH.cons rfl (fun K hK => ?_) AllReadyH.nil
 go_simp
 refine (refUWhole R c0 n0 ticks (unhide HI) (by have := unhide HN; omega) w2.drew (unhide U2).1).mono ?_
 rintro e w3 ⟨rfl, u3, m3⟩
 have U3 : Hid (RC R (c0 || whoC ticks) (n0 + 1) w3 ∧ Mod R w w3) := ⟨u3, (unhide U2).2.trans m3⟩
 have HS3 : Hid (w3.cell? ⟨w.heap.size, 3, none⟩ = some (.int .i64 m.tick)) := (Mk.of m3).cell (unhide HS) (by have := unhide lR; omega)
 clear u3 m3 U2 HS
 refine hK.out _ _ (unhide HS3) (fun hHeld => ?_)
 clear hK K hHeld
 (try simp only [Act.put, List.setIfInBounds_toArray, List.set_cons_zero, List.set_cons_succ])
 refine wpAnyH_ready (rs := [6]) (by kernel_rfl) (by simp) ?_
 refine AllReadyH.cons rfl (fun K hK => ?_) AllReadyH.nil
 go_simp
 have G4 : Grown w3 (w3.alloc (.cells #[.int .i64 (whoN ticks), .int .i64 m.tick] 3)) := (Grown.refl _).alloc _ _
 have U4 : Hid (RC R (c0 || whoC ticks) (n0 + 1) (w3.alloc (.cells #[.int .i64 (whoN ticks), .int .i64 m.tick] 3)) ∧ Mod R w (w3.alloc (.cells #[.int .i64 (whoN ticks), .int .i64 m.tick] 3)) ∧ Blk w3.heap.size #[.int .i64 (whoN ticks), .int .i64 m.tick] 3 (w3.alloc (.cells #[.int .i64 (whoN ticks), .int .i64 m.tick] 3)) ∧ R < w3.heap.size) := ⟨Blk.grown (unhide U3).1 G4, (unhide U3).2.trans (Mod.of G4), Blk.new _ _ _, Nat.lt_of_lt_of_le (unhide lR) (unhide U3).2.2.2.2.2⟩
 have HS4 : Hid ((w3.alloc (.cells #[.int .i64 (whoN ticks), .int .i64 m.tick] 3)).cell? ⟨w.heap.size, 3, none⟩ = some (.int .i64 m.tick)) := gat G4 (unhide HS3)
 clear G4 U3 HS3
 generalize w3.alloc (.cells #[.int .i64 (whoN ticks), .int .i64 m.tick] 3) = w4 at *
 generalize w3.heap.size = L at *
 refine hK.out _ _ (unhide HS4) (fun hHeld => ?_)
 clear hK K hHeld
 (try simp only [Act.put, List.setIfInBounds_toArray, List.set_cons_zero, List.set_cons_succ])
 refine wpAnyH_ready (rs := [7]) (by kernel_rfl) (by simp) ?_
 refine AllReadyH.cons rfl (fun K hK => ?_) AllReadyH.nil
 go_simp
 obtain ⟨Zp, hZp⟩ : ∃ Z : Nat → Int, Z = fun i => if i = 0 then whoN ticks else m.tick := ⟨_, rfl⟩
 have MU := refUMul R (c0 || whoC ticks) (n0 + 1) (some ⟨L, 0, none⟩) 2 2 Zp (by have := unhide HN; omega) (by omega) (fun i hi => by
  rw [hZp]
  rcases (show i = 0 ∨ i = 1 by omega) with rfl | rfl
  ·exact fitI_I64 _
  ·exact unhide HT) w4 (unhide U4).1 (Or.inr ⟨L, 0, rfl, fun i hi => by
  rw [Nat.zero_add, Blk.cell (unhide U4).2.2.1, hZp]
  rcases (show i = 0 ∨ i = 1 by omega) with rfl | rfl <;> rfl⟩) (fun _ a ha => by cases ha; have := (unhide U4).2.2.2; show L ≠ R; omega)
 have eZ : thN mulN 4294967296 Zp 2 = spanZ ticks m.tick ∧ thC mulN mulC 4294967296 Zp 2 = m2C (whoN ticks) m.tick := by
  rw [hZp]
  exact ⟨rfl, rfl⟩
 rw [eZ.1, eZ.2] at MU
 clear eZ hZp Zp
 refine MU.mono ?_
 rintro e w5 ⟨rfl, u5, m5⟩
 have HS5 : Hid (w5.cell? ⟨w.heap.size, 3, none⟩ = some (.int .i64 m.tick)) := (Mk.of m5).cell (unhide HS4) (by have := unhide lR; omega)
 have U5 : Hid (RC R (c0 || spanC ticks m.tick) (n0 + 3) w5 ∧ Mod R w w5) := by
  refine ⟨?_, (unhide U4).2.1.trans m5⟩
  unfold spanC
  rw [← Bool.or_assoc, show n0 + 3 = n0 + 1 + ((2 : Nat) : Int) by omega]
  exact u5
 clear MU u5 m5 U4 HS4
 refine hK.out _ _ (unhide HS5) (fun hHeld => ?_)
 clear hK K HS5
 (try simp only [Act.put, List.setIfInBounds_toArray, List.set_cons_zero, List.set_cons_succ])
 refine take_slotP (i := 8) (d := 6) (v := .int .i64 (spanZ ticks m.tick)) rfl rfl (by kernel_rfl) (by kernel_rfl) (by kernel_rfl) (fun _ _ _ h => h) (Or.inl ⟨by rfl, ?_⟩) hHeld ?_
 ·intro wS hSw
  have z3 := hSw
  clear hHeld
  go_simp
 (try simp only [Act.put, List.setIfInBounds_toArray, List.set_cons_zero, List.set_cons_succ])
 refine take_slotP (i := 9) (d := 7) (v := .int .i64 0) rfl rfl (by kernel_rfl) (by kernel_rfl) (by kernel_rfl) (fun _ _ _ h => h) (Or.inl ⟨by rfl, ?_⟩) hHeld ?_
 ·intro wS hSw
  have z3 := hSw
  clear hHeld
  go_simp
 (try simp only [Act.put, List.setIfInBounds_toArray, List.set_cons_zero, List.set_cons_succ])
 refine wpAnyH_done (by kernel_rfl) (NoPanic.normal ?_) _
 clear hHeld
 go_wp2
 refine bodyPost_ret (v := .tuple #[.int .i64 (spanZ ticks m.tick), .int .i64 0]) (by simp [results, Tryz.results14, go_sem]) rfl ?_
 exact ⟨rfl, (unhide U5).1, (unhide U5).2⟩
def inP (lo hi x : Int) : Prop := lo ≤ x ∧ x ≤ hi
def inB (lo hi x : Int) : Bool := decide (lo ≤ x) && decide (x ≤ hi)
theorem inB_yes {lo hi x : Int} (h : inP lo hi x) : inB lo hi x = true := by unfold inB inP at *; simp; exact h
theorem inB_no {lo hi x : Int} (h : ¬ inP lo hi x) : inB lo hi x = false := by unfold inB inP at *; simp; omega
set_option maxHeartbeats 1000000 in
theorem mWithin (x lo hi : Int) (w : World) : Calls Tryz.prog 51 #[.int .i64 x, .int .i64 lo, .int .i64 hi] w fun e w' => e = .returned (.bool (inB lo hi x)) ∧ w' = w := by
 unfold inB
 by_cases h : lo ≤ x
 ·rw [decide_eq_true h]
  have d : decide (lo ≤ x) = true := decide_eq_true h
  clear h
  go_enter Tryz.func51, Tryz.ntmps51
  go_wp2
  go_ret
  exact ⟨by simp, rfl⟩
 ·rw [decide_eq_false h]
  have d : decide (lo ≤ x) = false := decide_eq_false h
  clear h
  go_enter Tryz.func51, Tryz.ntmps51
  go_wp2
  go_ret
  exact ⟨rfl, rfl⟩
set_option maxHeartbeats 1000000 in
theorem mNot (x lo hi : Int) (P Q : Nat) (w : World) (c0 : w.cell? ⟨P, 0, none⟩ = some (.int .i64 lo)) (c1 : w.cell? ⟨Q, 0, none⟩ = some (.int .i64 hi)) :
  Calls Tryz.prog 102 #[.int .i64 x, .pointer (some ⟨P, 0, none⟩), .pointer (some ⟨Q, 0, none⟩)] w fun e w' => e = .returned (.bool (!inB lo hi x)) ∧ w' = w := by
 have C := hide (fun w => mWithin x lo hi w)
 go_enter Tryz.func102, Tryz.ntmps102
 go_wp2_with fail
 refine (unhide C _).mono ?_
 rintro e w1 ⟨rfl, e1⟩
 subst e1
 clear C
 go_wp2
 go_ret
 exact ⟨rfl, rfl⟩
def IxP (len : Nat) (lo hi : Int) (Z : Nat → Int) (w : World) (e : Ending) (w' : World) : Prop := ∃ r : Int, e = .returned (.int .i64 r) ∧ ((r = -1 ∧ ∀ i, i < len → inP lo hi (Z i)) ∨ (0 ≤ r ∧ ∃ i, i < len ∧ ¬ inP lo hi (Z i))) ∧ w' = w
set_option maxHeartbeats 2000000 in
theorem mIndex (ao : Option Addr) (len cap : Nat) (Z : Nat → Int) (lo hi : Int) (P Q : Nat) (hl : len ≤ 1000000) (w : World) (hr : Row w ao len Z) (c0 : w.cell? ⟨P, 0, none⟩ = some (.int .i64 lo)) (c1 : w.cell? ⟨Q, 0, none⟩ = some (.int .i64 hi)) :
  Calls Tryz.prog 132 #[.slice ao len cap, .func (.func 102) #[] #[.pointer (some ⟨P, 0, none⟩), .pointer (some ⟨Q, 0, none⟩)]] w fun e w' => IxP len lo hi Z w e w' := by
 have HR := hide hr
 have HC := hide (And.intro c0 c1)
 clear hr c0 c1
 go_enter Tryz.func132, Tryz.ntmps132
 go_wp2_with fail
 go_loop [8, 5] (fun i _ => ∃ k : Nat, k ≤ len ∧ i = .int .i64 k ∧ Hid (∀ j, j < k → inP lo hi (Z j))) (fun i _ => len - (intOf i).toNat)
 case atStart => exact ⟨0, Nat.zero_le _, rfl, fun j hj => absurd hj (Nat.not_lt_zero _)⟩
 case round =>
  obtain ⟨k, hk, rfl, HI⟩ := hrel
  by_cases hlt : k < len
  ·obtain ⟨b, o, rfl, hc⟩ := (unhide HR).at hlt
   have i0 : (0 : Int) ≤ (k : Int) := Int.natCast_nonneg _
   have i1 : (k : Int) < (len : Int) := Int.ofNat_lt.2 hlt
   obtain ⟨x, hx⟩ : ∃ x, Z k = x := ⟨_, rfl⟩
   rw [hx] at hc
   have HX := hide hx
   have C := hide (fun w c0 c1 => mNot x lo hi P Q w c0 c1)
   clear hx
   by_cases h : inP lo hi x
   ·rw [inB_yes h] at C
    have H2 : Hid (∀ j, j < k + 1 → inP lo hi (Z j)) := fun j hj => by
     by_cases e : j = k
     ·subst e; rw [unhide HX]; exact h
     ·exact unhide HI j (by omega)
    clear h HI
    go_wp2_with fail
    refine (unhide C _ (unhide HC).1 (unhide HC).2).mono ?_
    rintro e w1 ⟨rfl, e1⟩
    subst e1
    clear C
    go_wp2
    go_round
    case rel => exact ⟨k + 1, hlt, by go_num, H2⟩
    case measure => simp [intOf]; omega
   ·rw [inB_no h] at C
    have H2 : Hid (∃ i, i < len ∧ ¬ inP lo hi (Z i)) := ⟨k, hlt, by rw [unhide HX]; exact h⟩
    clear h HI
    go_wp2_with fail
    refine (unhide C _ (unhide HC).1 (unhide HC).2).mono ?_
    rintro e w1 ⟨rfl, e1⟩
    subst e1
    clear C
    go_wp2
    go_ret
    exact (show IxP _ _ _ _ _ _ _ from ⟨_, rfl, Or.inr ⟨i0, unhide H2⟩, rfl⟩)
  ·obtain rfl : k = len := by omega
   go_wp2
   go_ret
   exact (show IxP _ _ _ _ _ _ _ from ⟨_, rfl, Or.inl ⟨rfl, unhide HI⟩, rfl⟩)
open Classical in
noncomputable def someB (len : Nat) (lo hi : Int) (Z : Nat → Int) : Bool := decide (∃ i, i < len ∧ ¬ inP lo hi (Z i))
theorem someB_no {len : Nat} {lo hi : Int} {Z : Nat → Int} (h : ∀ i, i < len → inP lo hi (Z i)) : someB len lo hi Z = false := by classical exact decide_eq_false (fun ⟨i, hi, h2⟩ => h2 (h i hi))
theorem someB_yes {len : Nat} {lo hi : Int} {Z : Nat → Int} (h : ∃ i, i < len ∧ ¬ inP lo hi (Z i)) : someB len lo hi Z = true := by classical exact decide_eq_true h
set_option maxHeartbeats 1000000 in
theorem mContains (ao : Option Addr) (len cap : Nat) (Z : Nat → Int) (lo hi : Int) (P Q : Nat) (hl : len ≤ 1000000) (w : World) (hr : Row w ao len Z) (c0 : w.cell? ⟨P, 0, none⟩ = some (.int .i64 lo)) (c1 : w.cell? ⟨Q, 0, none⟩ = some (.int .i64 hi)) :
  Calls Tryz.prog 101 #[.slice ao len cap, .func (.func 102) #[] #[.pointer (some ⟨P, 0, none⟩), .pointer (some ⟨Q, 0, none⟩)]] w fun e w' => e = .returned (.bool (someB len lo hi Z)) ∧ w' = w := by
 have C := hide (mIndex ao len cap Z lo hi P Q hl w hr c0 c1)
 clear hr c0 c1
 go_enter Tryz.func101, Tryz.ntmps101
 go_wp2_with fail
 refine (unhide C).mono ?_
 rintro e w1 ⟨r, rfl, hr, e1⟩
 subst e1
 clear C
 rcases hr with ⟨rfl, h⟩ | ⟨h0, h⟩
 ·have H := hide (someB_no h)
  clear h
  go_wp2
  go_ret
  exact ⟨by rw [unhide H]; rfl, rfl⟩
 ·have H := hide (someB_yes h)
  have d : decide (0 ≤ r) = true := decide_eq_true h0
  clear h
  go_wp2
  go_ret
  exact ⟨by rw [unhide H]; rfl, rfl⟩
def numP (len : Nat) (n lo hi : Int) (Z : Nat → Int) : Prop := (len : Int) = n ∧ ∀ i, i < len → inP lo hi (Z i)
open Classical in
noncomputable def numB (len : Nat) (n lo hi : Int) (Z : Nat → Int) : Bool := decide (numP len n lo hi Z)
theorem numB_yes {len : Nat} {n lo hi : Int} {Z : Nat → Int} (h : numP len n lo hi Z) : numB len n lo hi Z = true := by classical exact decide_eq_true h
theorem numB_no {len : Nat} {n lo hi : Int} {Z : Nat → Int} (h : ¬ numP len n lo hi Z) : numB len n lo hi Z = false := by classical exact decide_eq_false h
theorem numB_some {len : Nat} {lo hi : Int} {Z : Nat → Int} : numB len (len : Int) lo hi Z = !someB len lo hi Z := by
 by_cases h : ∃ i, i < len ∧ ¬ inP lo hi (Z i)
 ·rw [someB_yes h, numB_no]
  ·rfl
  ·rintro ⟨_, h2⟩
   obtain ⟨i, hi, h3⟩ := h
   exact h3 (h2 i hi)
 ·have h2 : ∀ i, i < len → inP lo hi (Z i) := fun i hi => Classical.byContradiction fun h3 => h ⟨i, hi, h3⟩
  rw [someB_no h2, numB_yes ⟨rfl, h2⟩]
  rfl
set_option maxHeartbeats 1000000 in
theorem mNumbers (ao : Option Addr) (len cap : Nat) (Z : Nat → Int) (n lo hi : Int) (hl : len ≤ 1000000) (w : World) (hr : Row w ao len Z) :
  Calls Tryz.prog 53 #[.slice ao len cap, .int .i64 n, .int .i64 lo, .int .i64 hi] w fun e w' => e = .returned (.bool (numB len n lo hi Z)) ∧ Grown w w' := by
 have G1 : Hid (Grown w ((w.alloc (.cells #[.int .i64 lo] 3)).alloc (.cells #[.int .i64 hi] 3))) := ((Grown.refl _).alloc _ _).alloc _ _
 have c0 : ((w.alloc (.cells #[.int .i64 lo] 3)).alloc (.cells #[.int .i64 hi] 3)).cell? ⟨w.heap.size, 0, none⟩ = some (.int .i64 lo) := Blk.cell (Blk.grown (Blk.new w #[.int .i64 lo] 3) ((Grown.refl _).alloc _ _)) 0
 have c1 : ((w.alloc (.cells #[.int .i64 lo] 3)).alloc (.cells #[.int .i64 hi] 3)).cell? ⟨w.heap.size + 1, 0, none⟩ = some (.int .i64 hi) := by
  have h := Blk.cell (Blk.new (w.alloc (.cells #[.int .i64 lo] 3)) #[.int .i64 hi] 3) 0
  rwa [show (w.alloc (.cells #[.int .i64 lo] 3)).heap.size = w.heap.size + 1 by simp] at h
 have C := hide (mContains ao len cap Z lo hi w.heap.size (w.heap.size + 1) hl _ (hr.grown (unhide G1)) c0 c1)
 clear c0 c1 hr
 by_cases h : (len : Int) = n
 ·subst h
  have d : ((len : Int) == (len : Int)) = true := by simp
  rw [numB_some]
  go_enter Tryz.func53, Tryz.ntmps53
  go_wp2_with fail
  refine (unhide C).mono ?_
  rintro e w1 ⟨rfl, e1⟩
  subst e1
  clear C
  go_wp2
  go_ret
  exact ⟨rfl, unhide G1⟩
 ·have d : ((len : Int) == n) = false := by simpa using h
  rw [numB_no (fun h2 => h h2.1)]
  clear C h
  go_enter Tryz.func53, Tryz.ntmps53
  go_wp2
  go_ret
  exact ⟨rfl, unhide G1⟩
theorem tdiv_nat (k n q : Nat) (h : k / n = q) : (k : Int).tdiv (n : Int) = (q : Int) := by
 rw [Int.tdiv_eq_ediv_of_nonneg (Int.natCast_nonneg _), ← h]
 exact (Int.natCast_ediv _ _).symm
theorem tmod_nat (k n r : Nat) (h : k % n = r) : (k : Int).tmod (n : Int) = (r : Int) := by
 rw [Int.tmod_eq_emod_of_nonneg (Int.natCast_nonneg _), ← h]
 exact (Int.natCast_emod _ _).symm
theorem wrapNk (q : Nat) (h : q ≤ 1000000) : IntKind.i64.wrap (q : Int) = (q : Int) := by rw [IntKind.wrap_i64]; omega
def upP (n len : Nat) (A : Nat → Int) : Prop := ∀ k, k < len → A k ≠ 0 → k / n < k % n
open Classical in
noncomputable def upDB (n len : Nat) (A : Nat → Int) : Bool := decide (upP n len A)
theorem upDB_yes {n len : Nat} {A : Nat → Int} (h : upP n len A) : upDB n len A = true := by classical exact decide_eq_true h
theorem upDB_no {n len : Nat} {A : Nat → Int} (h : ¬ upP n len A) : upDB n len A = false := by classical exact decide_eq_false h
set_option maxHeartbeats 2000000 in
theorem mUpper (ao : Option Addr) (len cap : Nat) (A : Nat → Int) (n : Nat) (hn : 1 ≤ n) (hl : len ≤ 1000000) (w : World) (hr : Row w ao len A) :
  Calls Tryz.prog 54 #[.slice ao len cap, .int .i64 n] w fun e w' => e = .returned (.bool (upDB n len A)) ∧ Grown w w' := by
 have HR := hide hr
 have n0 : ((n : Int) == 0) = false := by simp; omega
 have n1 : (n : Int) ≠ 0 := by omega
 have HN := hide hn
 clear hr hn
 go_enter Tryz.func54, Tryz.ntmps54
 go_wp2_with fail
 go_loopw [9, 5, 6] (fun i _ _ wr => ∃ k : Nat, k ≤ len ∧ i = .int .i64 k ∧ Hid ((∀ j, j < k → A j ≠ 0 → j / n < j % n) ∧ Grown w wr)) (fun i _ _ _ => len - (intOf i).toNat)
 case atStart => exact ⟨0, Nat.zero_le _, rfl, fun j hj => absurd hj (Nat.not_lt_zero _), Grown.refl _⟩
 case round =>
  obtain ⟨k, hk, rfl, HI⟩ := hrel
  by_cases hlt : k < len
  ·obtain ⟨b, o, rfl, hc0⟩ := (unhide HR).at hlt
   have i0 : (0 : Int) ≤ (k : Int) := Int.natCast_nonneg _
   have i1 : (k : Int) < (len : Int) := Int.ofNat_lt.2 hlt
   obtain ⟨x, hx⟩ : ∃ x, A k = x := ⟨_, rfl⟩
   rw [hx] at hc0
   have hc := gat (unhide HI).2 hc0
   have HX := hide hx
   clear hx hc0
   by_cases h : x = 0
   ·subst h
    have d : ((0 : Int) != 0) = false := by decide
    have H2 : Hid ((∀ j, j < k + 1 → A j ≠ 0 → j / n < j % n) ∧ ∀ m, Grown w (wr.drewN m)) := ⟨fun j hj => by
     by_cases e : j = k
     ·subst e; intro h; exact absurd (unhide HX) h
     ·exact (unhide HI).1 j (by omega), fun m => (unhide HI).2⟩
    clear HI
    go_wp2_with fail
    go_quiet (fail)
    go_wp2
    go_roundw
    case rel => exact ⟨k + 1, hlt, by go_num, (unhide H2).1, (unhide H2).2 _⟩
    case measure => simp [intOf]; omega
   ·have d : (x != 0) = true := by simpa using h
    obtain ⟨q, hq⟩ : ∃ q, k / n = q := ⟨_, rfl⟩
    obtain ⟨r, hr⟩ : ∃ r, k % n = r := ⟨_, rfl⟩
    have tq := tdiv_nat k n q hq
    have tr := tmod_nat k n r hr
    have hq2 : q ≤ k := by rw [← hq]; exact Nat.div_le_self _ _
    have hr2 : r ≤ k := by rw [← hr]; exact Nat.mod_le _ _
    have wq := wrapNk q (by omega)
    have wr' := wrapNk r (by omega)
    by_cases h2 : r ≤ q
    ·have d2 : decide ((r : Int) ≤ (q : Int)) = true := decide_eq_true (by omega)
     have H2 : Hid (upDB n len A = false ∧ ∀ m, Grown w (wr.drewN m)) := ⟨upDB_no (fun hp => by have := hp k hlt (by rw [unhide HX]; exact h); omega), fun m => (unhide HI).2⟩
     clear HI h hq hr hq2 hr2
     go_wp2_with fail
     go_quiet (fail)
     go_wp2
     go_ret
     exact ⟨(by rw [(unhide H2).1]; rfl), (unhide H2).2 _⟩
    ·have d2 : decide ((r : Int) ≤ (q : Int)) = false := decide_eq_false (by omega)
     have H2 : Hid ((∀ j, j < k + 1 → A j ≠ 0 → j / n < j % n) ∧ ∀ m, Grown w (wr.drewN m)) := ⟨fun j hj => by
      by_cases e : j = k
      ·subst e; intro h; omega
      ·exact (unhide HI).1 j (by omega), fun m => (unhide HI).2⟩
     clear HI h hq hr hq2 hr2
     go_wp2_with fail
     go_quiet (fail)
     go_wp2
     go_roundw
     case rel => exact ⟨k + 1, hlt, by go_num, (unhide H2).1, (unhide H2).2 _⟩
     case measure => simp [intOf]; omega
  ·obtain rfl : k = len := by omega
   have H2 : Hid (upDB n k A = true ∧ Grown w wr) := ⟨upDB_yes (unhide HI).1, (unhide HI).2⟩
   clear HI
   go_wp2
   go_ret
   exact ⟨(by rw [(unhide H2).1]; rfl), (unhide H2).2⟩
def ordP (N rmin : Int) (X : Nat → RV) (n : Nat) : Prop := ∀ i, i < n → okRow N rmin (lastS X i) (X i)
open Classical in
noncomputable def ordB (N rmin : Int) (X : Nat → RV) (n : Nat) : Bool := decide (ordP N rmin X n)
theorem ordB_yes {N rmin : Int} {X : Nat → RV} {n : Nat} (h : ordP N rmin X n) : ordB N rmin X n = true := by classical exact decide_eq_true h
theorem ordB_no {N rmin : Int} {X : Nat → RV} {n : Nat} (h : ¬ ordP N rmin X n) : ordB N rmin X n = false := by classical exact decide_eq_false h
theorem ordP.last {N rmin : Int} {X : Nat → RV} {n : Nat} (h : ordP N rmin X n) : 1 ≤ lastS X n := by
 cases n with
 | zero => exact Int.le_refl _
 | succ n => exact (h n (Nat.lt_succ_self _)).1.1
theorem ordP.step {N rmin : Int} {X : Nat → RV} {n : Nat} (h : ordP N rmin X n) (k : okRow N rmin (lastS X n) (X n)) : ordP N rmin X (n + 1) := fun j hj => by
 rcases Nat.lt_or_ge j n with h1 | h1
 ·exact h j h1
 ·rw [show j = n from Nat.le_antisymm (Nat.le_of_lt_succ hj) h1]; exact k
def rowE (X : Nat → RV) (k : Nat) (s r : Int) (ha : Option Addr) (hl hc : Nat) (Z : Nat → Int) : Prop := X k = ⟨s, ⟨ha, hl, hc, Z⟩, r⟩
theorem rowE.mk {N rmin l : Int} {X : Nat → RV} {k : Nat} {s r : Int} {ha : Option Addr} {hl hc : Nat} {Z : Nat → Int} (e : rowE X k s r ha hl hc Z) (h0 : 1 ≤ l) (h1 : inP l 16 s) (h2 : numP hl N (-68719476736) 68719476736 Z) (h3 : ¬ r < rmin) : okRow N rmin l (X k) := by
 unfold rowE at e
 rw [e]
 exact ⟨⟨Int.le_trans h0 h1.1, h1.2, h1.1⟩, h2.1, Int.not_lt.1 h3, h2.2⟩
theorem rowE.of {N rmin l : Int} {X : Nat → RV} {k : Nat} {s r : Int} {ha : Option Addr} {hl hc : Nat} {Z : Nat → Int} (e : rowE X k s r ha hl hc Z) (h : okRow N rmin l (X k)) : inP l 16 s ∧ numP hl N (-68719476736) 68719476736 Z ∧ ¬ r < rmin := by
 unfold rowE at e
 rw [e] at h
 exact ⟨⟨h.1.2.2, h.1.2.1⟩, ⟨h.2.1, h.2.2.2⟩, Int.not_lt.2 h.2.2.1⟩
theorem row_last {X : Nat → RV} {k : Nat} {s r : Int} {ha : Option Addr} {hl hc : Nat} {Z : Nat → Int} (e : rowE X k s r ha hl hc Z) : lastS X (k + 1) = s := by
 show (X k).s = s
 unfold rowE at e
 rw [e]
set_option maxRecDepth 20000 in
set_option maxHeartbeats 8000000 in
theorem mOrdered (N : Int) (aa qa ro : Option Addr) (al ac ql qc rl rc : Nat) (tick gate rmin : Int) (X : Nat → RV) (hl : rl ≤ 1000000) (w : World) (hr : RVs w ro rl X) (hh : ∀ i, i < rl → Row w (X i).h.ao (X i).h.len (X i).h.Z ∧ (X i).h.len ≤ 1000000) :
  Calls Tryz.prog 59 #[.agg #[.int .i64 N, .slice aa al ac, .slice qa ql qc, .int .i64 tick, .int .i64 gate, .int .i64 rmin, .slice ro rl rc]] w fun e w' => e = .returned (.bool (ordB N rmin X rl)) ∧ Grown w w' := by
 have G1 : Hid (Grown w (w.alloc (.cells #[.int .i64 N, .slice aa al ac, .slice qa ql qc, .int .i64 tick, .int .i64 gate, .int .i64 rmin, .slice ro rl rc] 25)) ∧ Blk w.heap.size #[.int .i64 N, .slice aa al ac, .slice qa ql qc, .int .i64 tick, .int .i64 gate, .int .i64 rmin, .slice ro rl rc] 25 (w.alloc (.cells #[.int .i64 N, .slice aa al ac, .slice qa ql qc, .int .i64 tick, .int .i64 gate, .int .i64 rmin, .slice ro rl rc] 25))) := ⟨(Grown.refl _).alloc _ _, Blk.new _ _ _⟩
 have RR := hide (And.intro hr hh)
 have y6 : (w.alloc (.cells #[.int .i64 N, .slice aa al ac, .slice qa ql qc, .int .i64 tick, .int .i64 gate, .int .i64 rmin, .slice ro rl rc] 25)).cell? ⟨w.heap.size, 6, none⟩ = some (.slice ro rl rc) := Blk.cell (unhide G1).2 6
 clear hr hh
 go_enter Tryz.func59, Tryz.ntmps59
 go_wp2_with fail
 generalize (w.alloc (.cells #[.int .i64 N, .slice aa al ac, .slice qa ql qc, .int .i64 tick, .int .i64 gate, .int .i64 rmin, .slice ro rl rc] 25)) = w1 at *
 go_loopw [9, 3, 5] (fun i l _ wr => ∃ (k : Nat) (last : Int), k ≤ rl ∧ i = .int .i64 k ∧ l = .int .i64 last ∧ Hid (last = lastS X k ∧ ordP N rmin X k ∧ Grown w wr ∧ Blk w.heap.size #[.int .i64 N, .slice aa al ac, .slice qa ql qc, .int .i64 tick, .int .i64 gate, .int .i64 rmin, .slice ro rl rc] 25 wr)) (fun i _ _ _ => rl - (intOf i).toNat)
 case atStart => exact ⟨0, 1, Nat.zero_le _, rfl, rfl, rfl, fun j hj => absurd hj (Nat.not_lt_zero _), unhide G1⟩
 case round =>
  obtain ⟨k, last, hk, rfl, rfl, HI⟩ := hrel
  clear y6
  by_cases hlt : k < rl
  ·obtain ⟨b, o, rfl, c0, c1, c2⟩ := ((unhide RR).1.grown (unhide HI).2.2.1).at hlt
   have i0 : (0 : Int) ≤ (k : Int) := Int.natCast_nonneg _
   have i1 : (k : Int) < (rl : Int) := Int.ofNat_lt.2 hlt
   have HH := hide (And.intro ((unhide RR).2 k hlt).2 (((unhide RR).2 k hlt).1.grown (unhide HI).2.2.1))
   obtain ⟨s, ⟨ha, hl, hc, Z⟩, r, hX⟩ : ∃ s h r, X k = ⟨s, h, r⟩ := ⟨_, _, _, rfl⟩
   have EX : Hid (rowE X k s r ha hl hc Z) := hX
   rw [hX] at c0 c1 c2 HH
   dsimp only at c0 c1 c2 HH
   clear hX
   have S2 : Hid (Grown wr (wr.alloc (.cells #[.int .i64 s, .slice ha hl hc, .int .i64 r] 62)) ∧ Blk wr.heap.size #[.int .i64 s, .slice ha hl hc, .int .i64 r] 62 (wr.alloc (.cells #[.int .i64 s, .slice ha hl hc, .int .i64 r] 62)) ∧ Blk w.heap.size #[.int .i64 N, .slice aa al ac, .slice qa ql qc, .int .i64 tick, .int .i64 gate, .int .i64 rmin, .slice (some ⟨b, o, none⟩) rl rc] 25 (wr.alloc (.cells #[.int .i64 s, .slice ha hl hc, .int .i64 r] 62))) := ⟨(Grown.refl _).alloc _ _, Blk.new _ _ _, Blk.grown (unhide HI).2.2.2 ((Grown.refl _).alloc _ _)⟩
   have CW := hide (fun w => mWithin s last 16 w)
   have CN : Hid (∀ W, Grown wr W → Calls Tryz.prog 53 #[.slice ha hl hc, .int .i64 N, .int .i64 (-68719476736), .int .i64 68719476736] W fun e w' => e = .returned (.bool (numB hl N (-68719476736) 68719476736 Z)) ∧ Grown W w') := fun W g => mNumbers ha hl hc Z N (-68719476736) 68719476736 (unhide HH).1 W ((unhide HH).2.grown g)
   clear HH
   by_cases h1 : inP last 16 s
   ·rw [inB_yes h1] at CW
    by_cases h2 : numP hl N (-68719476736) 68719476736 Z
    ·rw [numB_yes h2] at CN
     by_cases h3 : r < rmin
     ·have d3 : decide (r < rmin) = true := decide_eq_true h3
      have HB : Hid (ordB N rmin X rl = false) := ordB_no (fun h => ((unhide EX).of (h k hlt)).2.2 h3)
      clear h1 h2 h3
      go_wp2_with fail
      generalize hw2 : (wr.alloc (.cells #[.int .i64 s, .slice ha hl hc, .int .i64 r] 62)) = w2 at *
      clear hw2 c0 c1 c2
      refine (unhide CW _).mono ?_
      rintro e w3 ⟨rfl, e3⟩
      subst e3
      clear CW
      have r0 : w3.cell? ⟨wr.heap.size, 0, none⟩ = some (.int .i64 s) := Blk.cell (unhide S2).2.1 0
      have r1 : w3.cell? ⟨wr.heap.size, 1, none⟩ = some (.slice ha hl hc) := Blk.cell (unhide S2).2.1 1
      have r2 : w3.cell? ⟨wr.heap.size, 2, none⟩ = some (.int .i64 r) := Blk.cell (unhide S2).2.1 2
      have m0 : w3.cell? ⟨w.heap.size, 0, none⟩ = some (.int .i64 N) := Blk.cell (unhide S2).2.2 0
      have m5 : w3.cell? ⟨w.heap.size, 5, none⟩ = some (.int .i64 rmin) := Blk.cell (unhide S2).2.2 5
      go_wp2_with fail
      refine (unhide CN _ (unhide S2).1).mono ?_
      rintro e w4 ⟨rfl, g4⟩
      have S4 := hide (And.intro (gtrans (unhide S2).1 g4) (And.intro (Blk.grown (unhide S2).2.1 g4) (Blk.grown (unhide S2).2.2 g4)))
      clear g4 CN r0 r1 r2 m0 m5 S2
      have r0 : w4.cell? ⟨wr.heap.size, 0, none⟩ = some (.int .i64 s) := Blk.cell (unhide S4).2.1 0
      have r2 : w4.cell? ⟨wr.heap.size, 2, none⟩ = some (.int .i64 r) := Blk.cell (unhide S4).2.1 2
      have m5 : w4.cell? ⟨w.heap.size, 5, none⟩ = some (.int .i64 rmin) := Blk.cell (unhide S4).2.2 5
      go_wp2
      go_ret
      exact ⟨(by rw [unhide HB]; rfl), gtrans (unhide HI).2.2.1 (unhide S4).1⟩
     ·have d3 : decide (r < rmin) = false := decide_eq_false h3
      have HB : Hid (s = lastS X (k + 1) ∧ ordP N rmin X (k + 1)) := ⟨(row_last (unhide EX)).symm, (unhide HI).2.1.step ((unhide EX).mk (unhide HI).2.1.last (by rw [← (unhide HI).1]; exact h1) h2 h3)⟩
      clear h1 h2 h3
      go_wp2_with fail
      generalize hw2 : (wr.alloc (.cells #[.int .i64 s, .slice ha hl hc, .int .i64 r] 62)) = w2 at *
      clear hw2 c0 c1 c2
      refine (unhide CW _).mono ?_
      rintro e w3 ⟨rfl, e3⟩
      subst e3
      clear CW
      have r0 : w3.cell? ⟨wr.heap.size, 0, none⟩ = some (.int .i64 s) := Blk.cell (unhide S2).2.1 0
      have r1 : w3.cell? ⟨wr.heap.size, 1, none⟩ = some (.slice ha hl hc) := Blk.cell (unhide S2).2.1 1
      have r2 : w3.cell? ⟨wr.heap.size, 2, none⟩ = some (.int .i64 r) := Blk.cell (unhide S2).2.1 2
      have m0 : w3.cell? ⟨w.heap.size, 0, none⟩ = some (.int .i64 N) := Blk.cell (unhide S2).2.2 0
      have m5 : w3.cell? ⟨w.heap.size, 5, none⟩ = some (.int .i64 rmin) := Blk.cell (unhide S2).2.2 5
      go_wp2_with fail
      refine (unhide CN _ (unhide S2).1).mono ?_
      rintro e w4 ⟨rfl, g4⟩
      have S4 := hide (And.intro (gtrans (unhide S2).1 g4) (And.intro (Blk.grown (unhide S2).2.1 g4) (Blk.grown (unhide S2).2.2 g4)))
      clear g4 CN r0 r1 r2 m0 m5 S2
      have r0 : w4.cell? ⟨wr.heap.size, 0, none⟩ = some (.int .i64 s) := Blk.cell (unhide S4).2.1 0
      have r2 : w4.cell? ⟨wr.heap.size, 2, none⟩ = some (.int .i64 r) := Blk.cell (unhide S4).2.1 2
      have m5 : w4.cell? ⟨w.heap.size, 5, none⟩ = some (.int .i64 rmin) := Blk.cell (unhide S4).2.2 5
      go_wp2
      go_roundw
      case rel => exact ⟨k + 1, s, hlt, by go_num, rfl, (unhide HB).1, (unhide HB).2, gtrans (unhide HI).2.2.1 (unhide S4).1, (unhide S4).2.2⟩
      case measure => simp [intOf]; omega
    ·rw [numB_no h2] at CN
     have HB : Hid (ordB N rmin X rl = false) := ordB_no (fun h => h2 ((unhide EX).of (h k hlt)).2.1)
     clear h1 h2
     go_wp2_with fail
     generalize hw2 : (wr.alloc (.cells #[.int .i64 s, .slice ha hl hc, .int .i64 r] 62)) = w2 at *
     clear hw2 c0 c1 c2
     refine (unhide CW _).mono ?_
     rintro e w3 ⟨rfl, e3⟩
     subst e3
     clear CW
     have r0 : w3.cell? ⟨wr.heap.size, 0, none⟩ = some (.int .i64 s) := Blk.cell (unhide S2).2.1 0
     have r1 : w3.cell? ⟨wr.heap.size, 1, none⟩ = some (.slice ha hl hc) := Blk.cell (unhide S2).2.1 1
     have r2 : w3.cell? ⟨wr.heap.size, 2, none⟩ = some (.int .i64 r) := Blk.cell (unhide S2).2.1 2
     have m0 : w3.cell? ⟨w.heap.size, 0, none⟩ = some (.int .i64 N) := Blk.cell (unhide S2).2.2 0
     have m5 : w3.cell? ⟨w.heap.size, 5, none⟩ = some (.int .i64 rmin) := Blk.cell (unhide S2).2.2 5
     go_wp2_with fail
     refine (unhide CN _ (unhide S2).1).mono ?_
     rintro e w4 ⟨rfl, g4⟩
     have S4 := hide (And.intro (gtrans (unhide S2).1 g4) (And.intro (Blk.grown (unhide S2).2.1 g4) (Blk.grown (unhide S2).2.2 g4)))
     clear g4 CN r0 r1 r2 m0 m5 S2
     have r0 : w4.cell? ⟨wr.heap.size, 0, none⟩ = some (.int .i64 s) := Blk.cell (unhide S4).2.1 0
     have r2 : w4.cell? ⟨wr.heap.size, 2, none⟩ = some (.int .i64 r) := Blk.cell (unhide S4).2.1 2
     have m5 : w4.cell? ⟨w.heap.size, 5, none⟩ = some (.int .i64 rmin) := Blk.cell (unhide S4).2.2 5
     go_wp2
     go_ret
     exact ⟨(by rw [unhide HB]; rfl), gtrans (unhide HI).2.2.1 (unhide S4).1⟩
   ·rw [inB_no h1] at CW
    have HB : Hid (ordB N rmin X rl = false) := ordB_no (fun h => h1 (by rw [(unhide HI).1]; exact ((unhide EX).of (h k hlt)).1))
    clear h1
    go_wp2_with fail
    generalize hw2 : (wr.alloc (.cells #[.int .i64 s, .slice ha hl hc, .int .i64 r] 62)) = w2 at *
    clear hw2 c0 c1 c2
    refine (unhide CW _).mono ?_
    rintro e w3 ⟨rfl, e3⟩
    subst e3
    clear CW
    have r0 : w3.cell? ⟨wr.heap.size, 0, none⟩ = some (.int .i64 s) := Blk.cell (unhide S2).2.1 0
    have r1 : w3.cell? ⟨wr.heap.size, 1, none⟩ = some (.slice ha hl hc) := Blk.cell (unhide S2).2.1 1
    have r2 : w3.cell? ⟨wr.heap.size, 2, none⟩ = some (.int .i64 r) := Blk.cell (unhide S2).2.1 2
    have m0 : w3.cell? ⟨w.heap.size, 0, none⟩ = some (.int .i64 N) := Blk.cell (unhide S2).2.2 0
    have m5 : w3.cell? ⟨w.heap.size, 5, none⟩ = some (.int .i64 rmin) := Blk.cell (unhide S2).2.2 5
    go_wp2
    go_ret
    exact ⟨(by rw [unhide HB]; rfl), gtrans (unhide HI).2.2.1 (unhide S2).1⟩
  ·obtain rfl : k = rl := by omega
   have H2 : Hid (ordB N rmin X k = true ∧ Grown w wr) := ⟨ordB_yes (unhide HI).2.1, (unhide HI).2.2.1⟩
   clear HI
   go_wp2
   go_ret
   exact ⟨(by rw [(unhide H2).1]; rfl), (unhide H2).2⟩
def allB (n : Nat) (b : Nat → Bool) : Bool := decide (∀ i, i < n → b i = true)
theorem allB_yes {n : Nat} {b : Nat → Bool} (h : ∀ i, i < n → b i = true) : allB n b = true := decide_eq_true h
theorem allB_no {n : Nat} {b : Nat → Bool} {k : Nat} (hk : k < n) (h : b k = false) : allB n b = false := decide_eq_false (fun h2 => by rw [h2 k hk] at h; cases h)
set_option maxHeartbeats 4000000 in
theorem mAll (B n cap P : Nat) (F : Nat → Nat) (b : Nat → Bool) (I : World → Prop) (hn : n ≤ 1000000) (w : World) (h0 : Hid (I w))
  (HC : Hid (∀ W, I W → ∀ i, i < n → W.cell? ⟨B, i, none⟩ = some (.func (.func (F i)) #[] #[.pointer (some ⟨P, 0, none⟩)])))
  (HF : Hid (∀ i, i < n → ∀ args w, (callFunc (F i) args).run Tryz.prog w = .ok (.enter (F i) args) w))
  (C : Hid (∀ i, i < n → (∀ j, j < i → b j = true) → ∀ W, I W → Calls Tryz.prog (F i) #[.pointer (some ⟨P, 0, none⟩)] W fun e w' => e = .returned (.bool (b i)) ∧ I w')) :
  Calls Tryz.prog 49 #[.slice (some ⟨B, 0, none⟩) n cap] w fun e w' => e = .returned (.bool (allB n b)) ∧ I w' := by
 go_enter Tryz.func49, Tryz.ntmps49
 go_wp2_with fail
 go_loopw [7, 4] (fun i _ wr => ∃ k : Nat, k ≤ n ∧ i = .int .i64 k ∧ Hid ((∀ j, j < k → b j = true) ∧ I wr)) (fun i _ _ => n - (intOf i).toNat)
 case atStart => exact ⟨0, Nat.zero_le _, rfl, fun j hj => absurd hj (Nat.not_lt_zero _), unhide h0⟩
 case round =>
  obtain ⟨k, hk, rfl, HI⟩ := hrel
  by_cases hlt : k < n
  ·have i0 : (0 : Int) ≤ (k : Int) := Int.natCast_nonneg _
   have i1 : (k : Int) < (n : Int) := Int.ofNat_lt.2 hlt
   have c0 := unhide HC wr (unhide HI).2 k hlt
   have CC := hide (unhide C k hlt (unhide HI).1 wr (unhide HI).2)
   have eF := unhide HF k hlt
   obtain ⟨f, hf⟩ : ∃ f, F k = f := ⟨_, rfl⟩
   rw [hf] at c0 CC eF
   obtain ⟨x, hx⟩ : ∃ x, b k = x := ⟨_, rfl⟩
   rw [hx] at CC
   have HX := hide hx
   clear hf hx
   cases x with
   | true =>
    have H2 : Hid (∀ j, j < k + 1 → b j = true) := fun j hj => by
     rcases Nat.lt_or_ge j k with h1 | h1
     ·exact (unhide HI).1 j h1
     ·rw [show j = k from Nat.le_antisymm (Nat.le_of_lt_succ hj) h1]; exact unhide HX
    clear HI HX
    go_wp2_with fail
    refine (unhide CC).mono ?_
    rintro e w2 ⟨rfl, h2⟩
    have H3 := hide h2
    clear CC h2 c0 eF
    go_wp2
    go_roundw
    case rel => exact ⟨k + 1, hlt, by go_num, unhide H2, unhide H3⟩
    case measure => simp [intOf]; omega
   | false =>
    have H2 : Hid (allB n b = false) := allB_no hlt (unhide HX)
    clear HI HX
    go_wp2_with fail
    refine (unhide CC).mono ?_
    rintro e w2 ⟨rfl, h2⟩
    have H3 := hide h2
    clear CC h2 c0 eF
    go_wp2
    go_ret
    exact ⟨(by rw [unhide H2]; rfl), unhide H3⟩
  ·obtain rfl : k = n := by omega
   have H2 : Hid (allB k b = true ∧ I wr) := ⟨allB_yes (unhide HI).1, (unhide HI).2⟩
   clear HI
   go_wp2
   go_ret
   exact ⟨(by rw [(unhide H2).1]; rfl), (unhide H2).2⟩
set_option maxRecDepth 20000 in
set_option maxHeartbeats 4000000 in
theorem mCk1 (N : Int) (aa qa ro : Option Addr) (al ac ql qc rl rc : Nat) (tick gate rmin : Int) (P : Nat) (w : World) (bl : Blk P #[.int .i64 N, .slice aa al ac, .slice qa ql qc, .int .i64 tick, .int .i64 gate, .int .i64 rmin, .slice ro rl rc] 25 w) :
  Calls Tryz.prog 50 #[.pointer (some ⟨P, 0, none⟩)] w fun e w' => e = .returned (.bool (inB 1 6 N)) ∧ w' = w := by
 have y0 : w.cell? ⟨P, 0, none⟩ = some (.int .i64 N) := Blk.cell bl 0
 have C := hide (fun w => mWithin N 1 6 w)
 go_enter Tryz.func50, Tryz.ntmps50
 go_wp2_with fail
 refine (unhide C _).mono ?_
 rintro e w1 ⟨rfl, e1⟩
 subst e1
 clear C
 go_wp2
 go_ret
 exact ⟨rfl, rfl⟩
set_option maxRecDepth 20000 in
set_option maxHeartbeats 4000000 in
theorem mCk4 (N : Int) (aa qa ro : Option Addr) (al ac ql qc rl rc : Nat) (tick gate rmin : Int) (P : Nat) (w : World) (bl : Blk P #[.int .i64 N, .slice aa al ac, .slice qa ql qc, .int .i64 tick, .int .i64 gate, .int .i64 rmin, .slice ro rl rc] 25 w) :
  Calls Tryz.prog 56 #[.pointer (some ⟨P, 0, none⟩)] w fun e w' => e = .returned (.bool (inB 1 4294967296 tick)) ∧ w' = w := by
 have y3 : w.cell? ⟨P, 3, none⟩ = some (.int .i64 tick) := Blk.cell bl 3
 have C := hide (fun w => mWithin tick 1 4294967296 w)
 go_enter Tryz.func56, Tryz.ntmps56
 go_wp2_with fail
 refine (unhide C _).mono ?_
 rintro e w1 ⟨rfl, e1⟩
 subst e1
 clear C
 go_wp2
 go_ret
 exact ⟨rfl, rfl⟩
set_option maxRecDepth 20000 in
set_option maxHeartbeats 4000000 in
theorem mCk5 (N : Int) (aa qa ro : Option Addr) (al ac ql qc rl rc : Nat) (tick gate rmin : Int) (P : Nat) (w : World) (bl : Blk P #[.int .i64 N, .slice aa al ac, .slice qa ql qc, .int .i64 tick, .int .i64 gate, .int .i64 rmin, .slice ro rl rc] 25 w) :
  Calls Tryz.prog 57 #[.pointer (some ⟨P, 0, none⟩)] w fun e w' => e = .returned (.bool (decide (1 ≤ gate) && decide (1 ≤ rmin))) ∧ w' = w := by
 have y4 : w.cell? ⟨P, 4, none⟩ = some (.int .i64 gate) := Blk.cell bl 4
 have y5 : w.cell? ⟨P, 5, none⟩ = some (.int .i64 rmin) := Blk.cell bl 5
 by_cases h : 1 ≤ gate
 ·rw [decide_eq_true h]
  have d : decide (1 ≤ gate) = true := decide_eq_true h
  clear h
  go_enter Tryz.func57, Tryz.ntmps57
  go_wp2
  go_ret
  exact ⟨by simp, rfl⟩
 ·rw [decide_eq_false h]
  have d : decide (1 ≤ gate) = false := decide_eq_false h
  clear h
  go_enter Tryz.func57, Tryz.ntmps57
  go_wp2
  go_ret
  exact ⟨rfl, rfl⟩
set_option maxRecDepth 20000 in
set_option maxHeartbeats 4000000 in
theorem mCk3 (N : Int) (aa qa ro : Option Addr) (al ac ql qc rl rc : Nat) (tick gate rmin : Int) (P : Nat) (w : World) (bl : Blk P #[.int .i64 N, .slice aa al ac, .slice qa ql qc, .int .i64 tick, .int .i64 gate, .int .i64 rmin, .slice ro rl rc] 25 w) (Q : Nat → Int) (hq : ql ≤ 1000000) (hr : Row w qa ql Q) :
  Calls Tryz.prog 55 #[.pointer (some ⟨P, 0, none⟩)] w fun e w' => e = .returned (.bool (numB ql N 0 68719476736 Q)) ∧ Grown w w' := by
 have y0 : w.cell? ⟨P, 0, none⟩ = some (.int .i64 N) := Blk.cell bl 0
 have y2 : w.cell? ⟨P, 2, none⟩ = some (.slice qa ql qc) := Blk.cell bl 2
 have C := hide (mNumbers qa ql qc Q N 0 68719476736 hq w hr)
 clear hr bl
 go_enter Tryz.func55, Tryz.ntmps55
 go_wp2_with fail
 refine (unhide C).mono ?_
 rintro e w1 ⟨rfl, g1⟩
 have G := hide g1
 clear C g1 y0 y2
 go_wp2
 go_ret
 exact ⟨rfl, unhide G⟩
set_option maxRecDepth 20000 in
set_option maxHeartbeats 4000000 in
theorem mCk2 (n : Nat) (aa qa ro : Option Addr) (al ac ql qc rl rc : Nat) (tick gate rmin : Int) (P : Nat) (w : World) (bl : Blk P #[.int .i64 (n : Int), .slice aa al ac, .slice qa ql qc, .int .i64 tick, .int .i64 gate, .int .i64 rmin, .slice ro rl rc] 25 w) (A : Nat → Int) (hn : 1 ≤ n ∧ n ≤ 6) (ha : al ≤ 1000000) (hr : Row w aa al A) :
  Calls Tryz.prog 52 #[.pointer (some ⟨P, 0, none⟩)] w fun e w' => e = .returned (.bool (numB al ((n * n : Nat) : Int) (-68719476736) 68719476736 A && upDB n al A)) ∧ Grown w w' := by
 have y0 : w.cell? ⟨P, 0, none⟩ = some (.int .i64 (n : Int)) := Blk.cell bl 0
 have y1 : w.cell? ⟨P, 1, none⟩ = some (.slice aa al ac) := Blk.cell bl 1
 obtain ⟨nn, hnn⟩ : ∃ nn, n * n = nn := ⟨_, rfl⟩
 have n36 : nn ≤ 1000000 := by have : n * n ≤ 36 := Nat.mul_le_mul hn.2 hn.2; omega
 rw [hnn]
 have wn : wrap64 ((n : Int) * (n : Int)) = (nn : Int) := wrapP n n nn hnn n36
 have C := hide (mNumbers aa al ac A (nn : Int) (-68719476736) 68719476736 ha w hr)
 have CU : Hid (∀ W, Grown w W → Calls Tryz.prog 54 #[.slice aa al ac, .int .i64 n] W fun e w' => e = .returned (.bool (upDB n al A)) ∧ Grown W w') := fun W g => mUpper aa al ac A n hn.1 ha W (hr.grown g)
 have BL := hide bl
 clear hr hnn n36 hn bl
 by_cases h : numP al (nn : Int) (-68719476736) 68719476736 A
 ·rw [numB_yes h] at C ⊢
  clear h
  go_enter Tryz.func52, Tryz.ntmps52
  go_wp2_with fail
  refine (unhide C).mono ?_
  rintro e w1 ⟨rfl, g1⟩
  have G := hide g1
  have bl := Blk.grown (unhide BL) g1
  clear C g1 y0 y1
  have z0 : w1.cell? ⟨P, 0, none⟩ = some (.int .i64 (n : Int)) := Blk.cell bl 0
  have z1 : w1.cell? ⟨P, 1, none⟩ = some (.slice aa al ac) := Blk.cell bl 1
  go_wp2_with fail
  refine (unhide CU _ (unhide G)).mono ?_
  rintro e w2 ⟨rfl, g2⟩
  have G2 := hide (gtrans (unhide G) g2)
  clear CU g2 z0 z1 bl
  go_wp2
  go_ret
  exact ⟨by simp, unhide G2⟩
 ·rw [numB_no h] at C ⊢
  clear h
  go_enter Tryz.func52, Tryz.ntmps52
  go_wp2_with fail
  refine (unhide C).mono ?_
  rintro e w1 ⟨rfl, g1⟩
  have G := hide g1
  clear C g1 y0 y1
  go_wp2
  go_ret
  exact ⟨rfl, unhide G⟩
set_option maxRecDepth 20000 in
set_option maxHeartbeats 4000000 in
theorem mCk6 (N : Int) (aa qa ro : Option Addr) (al ac ql qc rl rc : Nat) (tick gate rmin : Int) (P : Nat) (w : World) (bl : Blk P #[.int .i64 N, .slice aa al ac, .slice qa ql qc, .int .i64 tick, .int .i64 gate, .int .i64 rmin, .slice ro rl rc] 25 w) (X : Nat → RV) (hl : rl ≤ 1000000) (hr : RVs w ro rl X) (hh : ∀ i, i < rl → Row w (X i).h.ao (X i).h.len (X i).h.Z ∧ (X i).h.len ≤ 1000000) :
  Calls Tryz.prog 58 #[.pointer (some ⟨P, 0, none⟩)] w fun e w' => e = .returned (.bool (decide (rl ≤ 24) && ordB N rmin X rl)) ∧ Grown w w' := by
 have y0 : w.cell? ⟨P, 0, none⟩ = some (.int .i64 N) := Blk.cell bl 0
 have y1 : w.cell? ⟨P, 1, none⟩ = some (.slice aa al ac) := Blk.cell bl 1
 have y2 : w.cell? ⟨P, 2, none⟩ = some (.slice qa ql qc) := Blk.cell bl 2
 have y3 : w.cell? ⟨P, 3, none⟩ = some (.int .i64 tick) := Blk.cell bl 3
 have y4 : w.cell? ⟨P, 4, none⟩ = some (.int .i64 gate) := Blk.cell bl 4
 have y5 : w.cell? ⟨P, 5, none⟩ = some (.int .i64 rmin) := Blk.cell bl 5
 have y6 : w.cell? ⟨P, 6, none⟩ = some (.slice ro rl rc) := Blk.cell bl 6
 have C := hide (mOrdered N aa qa ro al ac ql qc rl rc tick gate rmin X hl w hr hh)
 clear hr hh
 by_cases h : rl ≤ 24
 ·rw [decide_eq_true h]
  have d : decide ((rl : Int) ≤ 24) = true := decide_eq_true (by omega)
  go_enter Tryz.func58, Tryz.ntmps58
  go_wp2_with fail
  refine (unhide C).mono ?_
  rintro e w1 ⟨rfl, g1⟩
  have G := hide g1
  clear C g1 y0 y1 y2 y3 y4 y5 y6 bl
  go_wp2
  go_ret
  exact ⟨by simp, unhide G⟩
 ·rw [decide_eq_false h]
  have d : decide ((rl : Int) ≤ 24) = false := decide_eq_false (by omega)
  clear C
  go_enter Tryz.func58, Tryz.ntmps58
  go_wp2
  go_ret
  exact ⟨rfl, Grown.refl _⟩
end Go.Proofs.YtjobgjcfkomhpaaGreat
namespace Go.Proofs.YtjobgjcfkomhpaaGreat
open Go.RowKit Go.Shelf Go.Proofs Go.Proofs.Wd
set_option maxRecDepth 10000
theorem div_at (i k n : Nat) (hk : k < n) : (i * n + k) / n = i := by
 rw [Nat.mul_comm, Nat.mul_add_div (by omega), Nat.div_eq_of_lt hk]
 rfl
theorem mod_at (i k n : Nat) (hk : k < n) : (i * n + k) % n = k := by
 rw [Nat.mul_comm, Nat.mul_add_mod, Nat.mod_eq_of_lt hk]
theorem at_div (p n : Nat) : p / n * n + p % n = p := by
 rw [Nat.mul_comm]
 exact Nat.div_add_mod p n
theorem at_lt (i k n : Nat) (hi : i < n) (hk : k < n) : i * n + k < n * n := by
 calc i * n + k < i * n + n := by omega
  _ = (i + 1) * n := by rw [Nat.add_mul, Nat.one_mul]
  _ ≤ n * n := Nat.mul_le_mul_right _ hi
theorem moves_iff (n al ql : Nat) (A Q : Nat → Int) : okMoves n al ql A Q ↔ (numP al ((n * n : Nat) : Int) (-68719476736) 68719476736 A ∧ upP n al A) ∧ numP ql (n : Int) 0 68719476736 Q := by
 constructor
 ·rintro ⟨h1, h2, h3⟩
  refine ⟨⟨⟨by rw [h1], fun p hp => ?_⟩, fun p hp h0 => ?_⟩, by rw [h2], fun p hp => (h3 p (by omega)).1⟩
  ·rw [h1] at hp
   have a := Nat.div_lt_of_lt_mul hp
   have b := Nat.mod_lt p (Nat.lt_of_le_of_lt (Nat.zero_le _) a)
   have c := ((h3 _ a).2 _ b).1
   rw [at_div] at c
   exact c
  ·rw [h1] at hp
   have a := Nat.div_lt_of_lt_mul hp
   have b := Nat.mod_lt p (Nat.lt_of_le_of_lt (Nat.zero_le _) a)
   have c := ((h3 _ a).2 _ b).2
   rw [at_div] at c
   exact Nat.lt_of_not_le (fun h => h0 (c h))
 ·rintro ⟨⟨⟨h1, h2⟩, h3⟩, h4, h5⟩
  have h1 : al = n * n := Int.ofNat.inj h1
  have h4 : ql = n := Int.ofNat.inj h4
  refine ⟨h1, h4, fun i hi => ⟨h5 i (by omega), fun k hk => ⟨h2 _ (by rw [h1]; exact at_lt i k n hi hk), fun hki => ?_⟩⟩⟩
  have c := h3 (i * n + k) (by rw [h1]; exact at_lt i k n hi hk)
  rw [div_at i k n hk, mod_at i k n hk] at c
  exact Classical.byContradiction fun h0 => absurd (c h0) (Nat.not_lt.2 hki)
noncomputable def ckB (N : Int) (al ql rl : Nat) (A Q : Nat → Int) (tick gate rmin : Int) (X : Nat → RV) : Nat → Bool
 | 0 => inB 1 6 N
 | 1 => numB al ((N.toNat * N.toNat : Nat) : Int) (-68719476736) 68719476736 A && upDB N.toNat al A
 | 2 => numB ql N 0 68719476736 Q
 | 3 => inB 1 4294967296 tick
 | 4 => decide (1 ≤ gate) && decide (1 ≤ rmin)
 | _ => decide (rl ≤ 24) && ordB N rmin X rl
theorem inB_iff {lo hi x : Int} : inB lo hi x = true ↔ inP lo hi x := ⟨fun h => by unfold inB at h; simp at h; exact h, inB_yes⟩
theorem numB_iff {len : Nat} {n lo hi : Int} {Z : Nat → Int} : numB len n lo hi Z = true ↔ numP len n lo hi Z := ⟨fun h => by classical exact of_decide_eq_true h, numB_yes⟩
theorem upDB_iff {n len : Nat} {A : Nat → Int} : upDB n len A = true ↔ upP n len A := ⟨fun h => by classical exact of_decide_eq_true h, upDB_yes⟩
theorem ordB_iff {N rmin : Int} {X : Nat → RV} {n : Nat} : ordB N rmin X n = true ↔ ordP N rmin X n := ⟨fun h => by classical exact of_decide_eq_true h, ordB_yes⟩
theorem allB_iff {n : Nat} {b : Nat → Bool} : allB n b = true ↔ ∀ i, i < n → b i = true := ⟨fun h => of_decide_eq_true h, allB_yes⟩
theorem ck_iff (N : Int) (al ql rl : Nat) (A Q : Nat → Int) (tick gate rmin : Int) (X : Nat → RV) : allB 6 (ckB N al ql rl A Q tick gate rmin X) = true ↔ okC N al ql rl A Q tick gate rmin X := by
 rw [allB_iff]
 unfold okC
 rw [moves_iff]
 constructor
 ·intro h
  have a0 := inB_iff.1 (h 0 (by omega))
  have a1 := Bool.and_eq_true_iff.1 (h 1 (by omega))
  have a2 := numB_iff.1 (h 2 (by omega))
  have a3 := inB_iff.1 (h 3 (by omega))
  have a4 := Bool.and_eq_true_iff.1 (h 4 (by omega))
  have a5 := Bool.and_eq_true_iff.1 (h 5 (by omega))
  have e : ((N.toNat : Nat) : Int) = N := Int.toNat_of_nonneg (Int.le_trans (by decide) a0.1)
  exact ⟨a0, ⟨⟨numB_iff.1 a1.1, upDB_iff.1 a1.2⟩, by rw [e]; exact a2⟩, a3, of_decide_eq_true a4.1, of_decide_eq_true a4.2, of_decide_eq_true a5.1, ordB_iff.1 a5.2⟩
 ·rintro ⟨a0, ⟨⟨a1, a2⟩, a3⟩, a4, a5, a6, a7, a8⟩ i hi
  have e : ((N.toNat : Nat) : Int) = N := Int.toNat_of_nonneg (Int.le_trans (by decide) a0.1)
  rw [e] at a3
  have : i = 0 ∨ i = 1 ∨ i = 2 ∨ i = 3 ∨ i = 4 ∨ i = 5 := by omega
  rcases this with rfl | rfl | rfl | rfl | rfl | rfl
  ·exact inB_yes a0
  ·exact Bool.and_eq_true_iff.2 ⟨numB_yes a1, upDB_yes a2⟩
  ·exact numB_yes a3
  ·exact inB_yes a4
  ·exact Bool.and_eq_true_iff.2 ⟨decide_eq_true a5, decide_eq_true a6⟩
  ·exact Bool.and_eq_true_iff.2 ⟨decide_eq_true a7, ordB_yes a8⟩
theorem chk_all {N : Int} {al ql rl : Nat} {A Q : Nat → Int} {tick gate rmin : Int} {X : Nat → RV} : chkC N al ql rl A Q tick gate rmin X = if allB 6 (ckB N al ql rl A Q tick gate rmin X) then 0 else 2 := by
 by_cases h : okC N al ql rl A Q tick gate rmin X
 ·rw [chkC_yes h, if_pos ((ck_iff ..).2 h)]
 ·rw [chkC_no h, if_neg (fun h2 => h ((ck_iff ..).1 h2))]
def ckF (i : Nat) : Nat := [50, 52, 55, 56, 57, 58].getD i 0
theorem ck_enters : ∀ i, i < 6 → ∀ args w, (callFunc (ckF i) args).run Tryz.prog w = .ok (.enter (ckF i) args) w := fun i hi => by
 have : i = 0 ∨ i = 1 ∨ i = 2 ∨ i = 3 ∨ i = 4 ∨ i = 5 := by omega
 rcases this with rfl | rfl | rfl | rfl | rfl | rfl
 ·exact enters_of Tryz.func50 (by kernel_rfl) rfl
 ·exact enters_of Tryz.func52 (by kernel_rfl) rfl
 ·exact enters_of Tryz.func55 (by kernel_rfl) rfl
 ·exact enters_of Tryz.func56 (by kernel_rfl) rfl
 ·exact enters_of Tryz.func57 (by kernel_rfl) rfl
 ·exact enters_of Tryz.func58 (by kernel_rfl) rfl
set_option maxRecDepth 20000 in
set_option maxHeartbeats 4000000 in
theorem mCheck (N : Int) (aa qa ro : Option Addr) (al ac ql qc rl rc : Nat) (tick gate rmin : Int) (A Q : Nat → Int) (X : Nat → RV) (la : al ≤ 1000000) (lq : ql ≤ 1000000) (hl : rl ≤ 1000000) (w : World) (ha : Row w aa al A) (hq : Row w qa ql Q) (hr : RVs w ro rl X) (hh : ∀ i, i < rl → Row w (X i).h.ao (X i).h.len (X i).h.Z ∧ (X i).h.len ≤ 1000000) :
  Calls Tryz.prog 26 #[.agg #[.int .i64 N, .slice aa al ac, .slice qa ql qc, .int .i64 tick, .int .i64 gate, .int .i64 rmin, .slice ro rl rc]] w fun e w' => e = .returned (.int .i64 (chkC N al ql rl A Q tick gate rmin X)) ∧ Grown w w' := by
 have G2 : Hid (Grown w ((w.alloc (.cells #[.int .i64 N, .slice aa al ac, .slice qa ql qc, .int .i64 tick, .int .i64 gate, .int .i64 rmin, .slice ro rl rc] 25)).alloc (.cells #[.func (.func 50) #[] #[.pointer (some ⟨w.heap.size, 0, none⟩)], .func (.func 52) #[] #[.pointer (some ⟨w.heap.size, 0, none⟩)], .func (.func 55) #[] #[.pointer (some ⟨w.heap.size, 0, none⟩)], .func (.func 56) #[] #[.pointer (some ⟨w.heap.size, 0, none⟩)], .func (.func 57) #[] #[.pointer (some ⟨w.heap.size, 0, none⟩)], .func (.func 58) #[] #[.pointer (some ⟨w.heap.size, 0, none⟩)]] 31)) ∧ Blk w.heap.size #[.int .i64 N, .slice aa al ac, .slice qa ql qc, .int .i64 tick, .int .i64 gate, .int .i64 rmin, .slice ro rl rc] 25 ((w.alloc (.cells #[.int .i64 N, .slice aa al ac, .slice qa ql qc, .int .i64 tick, .int .i64 gate, .int .i64 rmin, .slice ro rl rc] 25)).alloc (.cells #[.func (.func 50) #[] #[.pointer (some ⟨w.heap.size, 0, none⟩)], .func (.func 52) #[] #[.pointer (some ⟨w.heap.size, 0, none⟩)], .func (.func 55) #[] #[.pointer (some ⟨w.heap.size, 0, none⟩)], .func (.func 56) #[] #[.pointer (some ⟨w.heap.size, 0, none⟩)], .func (.func 57) #[] #[.pointer (some ⟨w.heap.size, 0, none⟩)], .func (.func 58) #[] #[.pointer (some ⟨w.heap.size, 0, none⟩)]] 31)) ∧ Blk (w.heap.size + 1) #[.func (.func 50) #[] #[.pointer (some ⟨w.heap.size, 0, none⟩)], .func (.func 52) #[] #[.pointer (some ⟨w.heap.size, 0, none⟩)], .func (.func 55) #[] #[.pointer (some ⟨w.heap.size, 0, none⟩)], .func (.func 56) #[] #[.pointer (some ⟨w.heap.size, 0, none⟩)], .func (.func 57) #[] #[.pointer (some ⟨w.heap.size, 0, none⟩)], .func (.func 58) #[] #[.pointer (some ⟨w.heap.size, 0, none⟩)]] 31 ((w.alloc (.cells #[.int .i64 N, .slice aa al ac, .slice qa ql qc, .int .i64 tick, .int .i64 gate, .int .i64 rmin, .slice ro rl rc] 25)).alloc (.cells #[.func (.func 50) #[] #[.pointer (some ⟨w.heap.size, 0, none⟩)], .func (.func 52) #[] #[.pointer (some ⟨w.heap.size, 0, none⟩)], .func (.func 55) #[] #[.pointer (some ⟨w.heap.size, 0, none⟩)], .func (.func 56) #[] #[.pointer (some ⟨w.heap.size, 0, none⟩)], .func (.func 57) #[] #[.pointer (some ⟨w.heap.size, 0, none⟩)], .func (.func 58) #[] #[.pointer (some ⟨w.heap.size, 0, none⟩)]] 31))) := by
  refine ⟨((Grown.refl _).alloc _ _).alloc _ _, Blk.grown (Blk.new _ _ _) ((Grown.refl _).alloc _ _), ?_⟩
  have h := Blk.new (w.alloc (.cells #[.int .i64 N, .slice aa al ac, .slice qa ql qc, .int .i64 tick, .int .i64 gate, .int .i64 rmin, .slice ro rl rc] 25)) #[.func (.func 50) #[] #[.pointer (some ⟨w.heap.size, 0, none⟩)], .func (.func 52) #[] #[.pointer (some ⟨w.heap.size, 0, none⟩)], .func (.func 55) #[] #[.pointer (some ⟨w.heap.size, 0, none⟩)], .func (.func 56) #[] #[.pointer (some ⟨w.heap.size, 0, none⟩)], .func (.func 57) #[] #[.pointer (some ⟨w.heap.size, 0, none⟩)], .func (.func 58) #[] #[.pointer (some ⟨w.heap.size, 0, none⟩)]] 31
  rwa [show (w.alloc (.cells #[.int .i64 N, .slice aa al ac, .slice qa ql qc, .int .i64 tick, .int .i64 gate, .int .i64 rmin, .slice ro rl rc] 25)).heap.size = w.heap.size + 1 by simp] at h
 have CA : Hid (Calls Tryz.prog 49 #[.slice (some ⟨w.heap.size + 1, 0, none⟩) 6 6] ((w.alloc (.cells #[.int .i64 N, .slice aa al ac, .slice qa ql qc, .int .i64 tick, .int .i64 gate, .int .i64 rmin, .slice ro rl rc] 25)).alloc (.cells #[.func (.func 50) #[] #[.pointer (some ⟨w.heap.size, 0, none⟩)], .func (.func 52) #[] #[.pointer (some ⟨w.heap.size, 0, none⟩)], .func (.func 55) #[] #[.pointer (some ⟨w.heap.size, 0, none⟩)], .func (.func 56) #[] #[.pointer (some ⟨w.heap.size, 0, none⟩)], .func (.func 57) #[] #[.pointer (some ⟨w.heap.size, 0, none⟩)], .func (.func 58) #[] #[.pointer (some ⟨w.heap.size, 0, none⟩)]] 31)) fun e w' => e = .returned (.bool (allB 6 (ckB N al ql rl A Q tick gate rmin X))) ∧ Grown ((w.alloc (.cells #[.int .i64 N, .slice aa al ac, .slice qa ql qc, .int .i64 tick, .int .i64 gate, .int .i64 rmin, .slice ro rl rc] 25)).alloc (.cells #[.func (.func 50) #[] #[.pointer (some ⟨w.heap.size, 0, none⟩)], .func (.func 52) #[] #[.pointer (some ⟨w.heap.size, 0, none⟩)], .func (.func 55) #[] #[.pointer (some ⟨w.heap.size, 0, none⟩)], .func (.func 56) #[] #[.pointer (some ⟨w.heap.size, 0, none⟩)], .func (.func 57) #[] #[.pointer (some ⟨w.heap.size, 0, none⟩)], .func (.func 58) #[] #[.pointer (some ⟨w.heap.size, 0, none⟩)]] 31)) w') := by
  refine mAll (w.heap.size + 1) 6 6 w.heap.size ckF (ckB N al ql rl A Q tick gate rmin X) (Grown _) (by omega) _ (Grown.refl _) ?_ ck_enters ?_
  ·intro W g i hi
   have bl := Blk.grown (unhide G2).2.2 g
   rw [Blk.cell bl]
   have : i = 0 ∨ i = 1 ∨ i = 2 ∨ i = 3 ∨ i = 4 ∨ i = 5 := by omega
   rcases this with rfl | rfl | rfl | rfl | rfl | rfl <;> rfl
  ·intro i hi hb W g
   have bl := Blk.grown (unhide G2).2.1 g
   have gw := gtrans (unhide G2).1 g
   by_cases hi0 : i = 0
   ·subst hi0
    exact (mCk1 N aa qa ro al ac ql qc rl rc tick gate rmin w.heap.size W bl).mono (fun e w' h => ⟨h.1, by rw [h.2]; exact g⟩)
   ·have a0 := inB_iff.1 (hb 0 (by omega))
    have : i = 1 ∨ i = 2 ∨ i = 3 ∨ i = 4 ∨ i = 5 := by omega
    rcases this with rfl | rfl | rfl | rfl | rfl
    ·obtain ⟨n, rfl⟩ : ∃ n : Nat, N = n := ⟨N.toNat, (Int.toNat_of_nonneg (Int.le_trans (by decide) a0.1)).symm⟩
     exact (mCk2 n aa qa ro al ac ql qc rl rc tick gate rmin w.heap.size W bl A ⟨by have := a0.1; omega, by have := a0.2; omega⟩ la (ha.grown gw)).mono (fun e w' h => ⟨h.1, gtrans g h.2⟩)
    ·exact (mCk3 N aa qa ro al ac ql qc rl rc tick gate rmin w.heap.size W bl Q lq (hq.grown gw)).mono (fun e w' h => ⟨h.1, gtrans g h.2⟩)
    ·exact (mCk4 N aa qa ro al ac ql qc rl rc tick gate rmin w.heap.size W bl).mono (fun e w' h => ⟨h.1, by rw [h.2]; exact g⟩)
    ·exact (mCk5 N aa qa ro al ac ql qc rl rc tick gate rmin w.heap.size W bl).mono (fun e w' h => ⟨h.1, by rw [h.2]; exact g⟩)
    ·exact (mCk6 N aa qa ro al ac ql qc rl rc tick gate rmin w.heap.size W bl X hl (hr.grown gw) (fun i hi => ⟨(hh i hi).1.grown gw, (hh i hi).2⟩)).mono (fun e w' h => ⟨h.1, gtrans g h.2⟩)
 rw [chk_all]
 obtain ⟨x, hx⟩ : ∃ x, allB 6 (ckB N al ql rl A Q tick gate rmin X) = x := ⟨_, rfl⟩
 rw [hx] at CA ⊢
 clear hx ha hq hr hh
 cases x with
 | true =>
  go_enter Tryz.func26, Tryz.ntmps26
  go_wp2_with fail
  refine (unhide CA).mono ?_
  rintro e w3 ⟨rfl, g3⟩
  have G3 := hide (gtrans (unhide G2).1 g3)
  clear CA g3 G2
  go_wp2
  go_ret
  exact ⟨rfl, unhide G3⟩
 | false =>
  go_enter Tryz.func26, Tryz.ntmps26
  go_wp2_with fail
  refine (unhide CA).mono ?_
  rintro e w3 ⟨rfl, g3⟩
  have G3 := hide (gtrans (unhide G2).1 g3)
  clear CA g3 G2
  go_wp2
  go_ret
  exact ⟨rfl, unhide G3⟩
theorem mCheckD (m : DV) (w : World) (h : m.good w) : Calls Tryz.prog 26 #[.agg m.cells] w fun e w' => e = .returned (.int .i64 (chkD m)) ∧ Grown w w' := by
 obtain ⟨hA, hQ, hr, hX, hf, hi, l1, l2, l3, l4⟩ := h
 rw [chkD_C]
 exact mCheck m.N m.A.ao m.Q.ao m.ro m.A.len m.A.cap m.Q.len m.Q.cap m.rl m.rc m.tick m.gate m.rmin m.A.Z m.Q.Z m.X (by omega) (by omega) (by omega) w hA.1 hQ.1 hr (fun i hi => ⟨(hX i hi).1.1, by have := l4 i hi; omega⟩)
end Go.Proofs.YtjobgjcfkomhpaaGreat
namespace Go.Proofs.YtjobgjcfkomhpaaGreat
open Go.RowKit Go.Shelf Go.Proofs.Wd
set_option maxRecDepth 10000
def cpRV (y : RV) (a : Option Addr) (p : Nat) : RV := ⟨y.s, ⟨a, y.h.len, p, y.h.Z⟩, y.r⟩
end Go.Proofs.YtjobgjcfkomhpaaGreat
