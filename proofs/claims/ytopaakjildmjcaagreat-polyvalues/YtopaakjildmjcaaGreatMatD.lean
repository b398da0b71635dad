/- Package mat: made, over any func that tells the entries. -/
import Derived.Test.YtopaakjildmjcaaGreatMatB
namespace Go.Proofs.YtopaakjildmjcaaGreat
open Go.RowKit Go.Shelf Go.Proofs.Wd
set_option linter.unusedVariables false
set_option linter.unusedSimpArgs false
set_option maxRecDepth 10000

/-- Below n all is as it was; from n on all is as it was. -/
def SB (n : Nat) (a b : World) : Prop := b.os = a.os ∧ b.output = a.output ∧ (∀ k, k < n → b.heap[k]? = a.heap[k]?) ∧ a.heap.size ≤ b.heap.size
def SF (n : Nat) (a b : World) : Prop := (∀ k, n ≤ k → k < a.heap.size → b.heap[k]? = a.heap[k]?) ∧ a.heap.size ≤ b.heap.size
theorem SB.by {n : Nat} {a b : World} {row : Option Nat} (g : a.grownBy b row) (hn : n ≤ a.heap.size) (hr : ∀ k, row = some k → n ≤ k) : SB n a b :=
  ⟨g.os, g.output, fun k hk => g.block k (by omega) (fun e => by have := hr k e.symm; omega), g.size⟩
theorem SB.set {n : Nat} (a : World) (b o : Nat) (v : Value) (h : n ≤ b) : SB n a (a.setCell ⟨b, o, none⟩ v) :=
  ⟨rfl, rfl, fun k hk => Below.heap_setCell _ _ _ _ (by show k ≠ b; omega), by simp [World.setCell]⟩
theorem SF.blk {n U : Nat} {cs : Array Value} {T : TypeId} {a b : World} (h : SF n a b) (hb : Blk U cs T a) (hn : n ≤ U) : Blk U cs T b := (h.1 U hn (Blk.lt hb)).trans hb
theorem SF.keeps {n B : Nat} {a b : World} (h : SF n a b) (hB : n ≤ B) : KeepsFrom B a b :=
  ⟨h.2, fun k o hk e _ => (h.1 k (by omega) (Array.getElem?_eq_some_iff.1 e).1).trans e⟩

/-- The places gone through, where these rows have come. -/
def vis (c : Nat) {r : Nat} (pre : List (Fin r)) : List Nat := pre.flatMap fun x => (List.range c).map fun k => x.1 * c + k
theorem vis_snoc (c : Nat) {r : Nat} (pre : List (Fin r)) (x : Fin r) : vis c (pre ++ [x]) = vis c pre ++ (List.range c).map fun k => x.1 * c + k := by simp [vis]
theorem vis_len (c : Nat) {r : Nat} : ∀ pre : List (Fin r), (vis c pre).length = pre.length * c
  | [] => by simp [vis]
  | x :: pre => by
    have := vis_len c pre
    unfold vis at *
    rw [List.flatMap_cons, List.length_append, this, List.length_map, List.length_range, List.length_cons, Nat.add_mul, Nat.one_mul, Nat.add_comm]
theorem vis_take (r c : Nat) : ∀ k, k ≤ r → vis c ((allR r).take k) = List.range (k * c)
  | 0, _ => by simp [vis]
  | k + 1, h => by
    rw [← allR_take r k (by omega), vis_snoc, vis_take r c k (by omega), Nat.add_mul, Nat.one_mul, List.range_add]
theorem vis_all (r c : Nat) : vis c (allR r) = List.range (r * c) := by
  have := vis_take r c r (Nat.le_refl _)
  rwa [List.take_of_length_le (by rw [allR_len]; omega)] at this

/-- The numbers so far. -/
def soFar (Z : Nat → Int) (ps : List Nat) : Nat → Int := fun p => if p ∈ ps then Z p else 0
theorem soFar_snoc (n : Nat) (Z : Nat → Int) (ps : List Nat) (k : Nat) : ints n (fun i => if i = k then Z k else soFar Z ps i) = ints n (soFar Z (ps ++ [k])) := by
  refine ints_congr _ _ _ fun i hi => ?_
  unfold soFar
  by_cases e : i = k
  · subst e; simp
  · simp [e]
theorem soFar_all (n : Nat) (Z : Nat → Int) : ints n (soFar Z (List.range n)) = ints n Z := by
  refine ints_congr _ _ _ fun i hi => ?_
  unfold soFar
  rw [if_pos (List.mem_range.2 hi)]
theorem range_snoc (f : Nat → Nat) (ps : List Nat) (k : Nat) : (ps ++ (List.range k).map f) ++ [f k] = ps ++ (List.range (k + 1)).map f := by
  rw [List.range_succ, List.map_append, List.append_assoc]
  rfl

/-- made under way. -/
def MdS (w : World) (r c len : Nat) (Z : Nat → Int) (Fv : Value) (J : List Nat → World → Prop) (ps : List Nat) (W : World) : Prop :=
  Blk w.heap.size #[Fv] 62 W ∧ Blk (w.heap.size + 1) #[.int .i64 0, .int .i64 0, .slice none 0 0] 24 W ∧ Blk (w.heap.size + 1 + 1) (ints len (soFar Z ps)) 3 W ∧
    Blk (w.heap.size + 1 + 1 + 1) #[.int .i64 r, .int .i64 c, .slice (some ⟨w.heap.size + 1 + 1, 0, none⟩) len len] 24 W ∧ Blk (w.heap.size + 1 + 1 + 1 + 1) #[.int .i64 r, .int .i64 c, .slice (some ⟨w.heap.size + 1 + 1, 0, none⟩) len len] 24 W ∧ J ps W ∧ w.heap.size + 5 ≤ W.heap.size
theorem blk_own {U : Nat} {cs : Array Value} {T : TypeId} {W W' : World} {row : Option Nat} (h : Blk U cs T W) (hg : W.grownBy W' row) (hr : ∀ r, row = some r → ∃ o : Obj, W.heap[r]? = some o ∧ o.isCells = false) : Blk U cs T W' :=
  Blk.by h hg (fun e => by
    obtain ⟨o, ho, hc⟩ := hr U e.symm
    rw [show W.heap[U]? = _ from h] at ho
    cases ho
    cases hc)
theorem mdS_own (w : World) (r c len : Nat) (Z : Nat → Int) (Fv : Value) (J : List Nat → World → Prop) (hJ : ∀ ps a b, J ps a → SB w.heap.size a b → J ps b) (B : Nat) (hB : w.heap.size ≤ B) : OwnFrom B (fun pre : List (Fin r) => MdS w r c len Z Fv J (vis c pre)) := by
  rintro pre W W' row ⟨h1, h2, h3, h4, h5, h6, h7⟩ hg hr
  have hr' : ∀ r, row = some r → ∃ o : Obj, W.heap[r]? = some o ∧ o.isCells = false := fun r e => (hr r e).2
  exact ⟨blk_own h1 hg hr', blk_own h2 hg hr', blk_own h3 hg hr', blk_own h4 hg hr', blk_own h5 hg hr', hJ _ _ _ h6 (SB.by hg (by omega) (fun k e => Nat.le_trans hB (hr k e).1)), Nat.le_trans h7 hg.size⟩
/-- An entry has been told, and is put. -/
theorem MdS.put {w : World} {r c len : Nat} {Z : Nat → Int} {Fv : Value} {J : List Nat → World → Prop} {ps : List Nat} {p : Nat} {W W1 : World} (hJ : ∀ ps a b, J ps a → SB w.heap.size a b → J ps b) (h : MdS w r c len Z Fv J ps W) (s : SF w.heap.size W W1) (j : J (ps ++ [p]) W1) :
    MdS w r c len Z Fv J (ps ++ [p]) (W1.setCell ⟨w.heap.size + 1 + 1, p, none⟩ (.int .i64 (Z p))) ∧ Blk (w.heap.size + 1 + 1) (ints len (soFar Z ps)) 3 W1 ∧ (∀ B, w.heap.size ≤ B → KeepsFrom B W (W1.setCell ⟨w.heap.size + 1 + 1, p, none⟩ (.int .i64 (Z p)))) ∧ KpR (w.heap.size + 1 + 1 + 1 + 1) W (W1.setCell ⟨w.heap.size + 1 + 1, p, none⟩ (.int .i64 (Z p))) := by
  obtain ⟨h1, h2, h3, h4, h5, h6, h7⟩ := h
  have m : Mod (w.heap.size + 1 + 1) W1 (W1.setCell ⟨w.heap.size + 1 + 1, p, none⟩ (.int .i64 (Z p))) := (Mod.refl _ _).setCell _ _
  have b3 := s.blk h3 (by omega)
  refine ⟨⟨Blk.keep (s.blk h1 (by omega)) m (by omega), Blk.keep (s.blk h2 (by omega)) m (by omega), ?_, Blk.keep (s.blk h4 (by omega)) m (by omega), Blk.keep (s.blk h5 (by omega)) m (by omega), hJ _ _ _ j (SB.set _ _ _ _ (by omega)), Nat.le_trans (Nat.le_trans h7 s.2) m.2.2.2.2⟩, b3, fun B hB => (s.keeps hB).trans ((KeepsOthers.setCell _ _ _).from _), ?_⟩
  · have := Blk.setI b3 p (Z p)
    rwa [soFar_snoc] at this
  · exact (m.2.2.1 _ (by have := Blk.lt (s.blk h5 (by omega)); omega) (by omega)).trans (s.1 _ (by omega) (by omega))

def encR0 {r : Nat} (b c : Nat) (x : Fin r) : Array Value := #[.int .i64 (x.1 : Int), .slice (some ⟨b, x.1 * c, none⟩) c c]
theorem rows_stops0 (n : Nat) (hn : 1 ≤ n) (Bs r c b len cap : Nat) (hr : 1 ≤ r ∧ r ≤ 12) (hc : 1 ≤ c ∧ c ≤ 12) (hlen : r * c = len) (hcap : len ≤ cap) (w : World) (hB : Blk Bs #[.int .i64 r, .int .i64 c, .slice (some ⟨b, 0, none⟩) len cap] 24 w) :
    SeqStopsK Fence.wide n Tryz.prog 115 #[.pointer (some ⟨Bs, 0, none⟩)] (encR0 (r := r) b c) (KpR Bs) (fun ys => ys = allR r) (fun pre => pre <+: allR r) r w := by
  subst hlen
  have e : encR0 (r := r) b c = encR b 0 c := by
    funext x
    simp [encR0, encR]
  rw [e]
  exact rows_stops n hn Bs r c b 0 cap hr hc hcap w hB

/-- What made tells. -/
def MadeP (r c : Nat) (Z : Nat → Int) (X : World → Prop) (w : World) (e : Ending) (w' : World) : Prop :=
  ∃ L, w.heap.size ≤ L ∧ e = .returned (.agg #[.int .i64 r, .int .i64 c, .slice (some ⟨L, 0, none⟩) (r * c) (r * c)]) ∧ Blk L (ints (r * c) Z) 3 w' ∧ X w'

section
attribute [local go_sem] Oper.semAt_some

set_option maxRecDepth 100000 in
set_option maxHeartbeats 4000000 in
theorem matMade (F : Nat) (eF : ∀ args w, (callFunc F args).run Tryz.prog w = .ok (.enter F args) w) (caps : Array Value) (r c : Nat) (hr : 1 ≤ r ∧ r ≤ 12) (hc : 1 ≤ c ∧ c ≤ 12) (Z : Nat → Int) (J : List Nat → World → Prop) (w : World)
    (hJ : ∀ ps a b, J ps a → SB w.heap.size a b → J ps b)
    (C : Hid (∀ ps i k a, i < r → k < c → ps.length < r * c → J ps a → Calls Tryz.prog F (#[.int .i64 (i : Int), .int .i64 (k : Int)] ++ caps) a fun e b => e = .returned (.int .i64 (Z (i * c + k))) ∧ J (ps ++ [i * c + k]) b ∧ SF w.heap.size a b))
    (h0 : J [] w) :
    Calls Tryz.prog 61 #[.int .i64 r, .int .i64 c, .func (.func F) #[] caps] w fun e w' => MadeP r c Z (J (List.range (r * c))) w e w' := by
  have hl := mul12n r c hr hc
  obtain ⟨len, hlen⟩ : ∃ len, r * c = len := ⟨_, rfl⟩
  have lb : len ≤ 1000000 := by omega
  have MK := make_ints len lb
  have w1 : wrap64 ((r : Int) * (c : Int)) = (len : Int) := wrapP r c len hlen lb
  have HL := hide (And.intro hlen (And.intro hl lb))
  have HR := hide (And.intro hr hc)
  have HJ := hide hJ
  have H0 := hide h0
  clear hl hlen lb hr hc hJ h0
  refine (callsIn_wide (n := 6)).1 ?_
  refine callsIn_of_wp_marks Tryz.func61 rfl trivial ?_ rfl
  simp only [Tryz.ntmps61, List.size_toArray, List.length_cons, List.length_nil, Nat.reduceAdd, Nat.reduceSub, Array.replicate_succ, Array.replicate_zero, List.push_toArray, List.append_toArray, List.nil_append, List.cons_append]
  gi_wp2_with (refine ⟨trivial, ?_⟩; gi_at_call 91; refine (callsIn_wide.2 (matRows _ _ _ rfl _)).mono ?_; rintro e w' ⟨rfl, rfl⟩)
  clear MK w1
  obtain ⟨hlen, hl, lb⟩ := unhide HL
  obtain ⟨hr, hc⟩ := unhide HR
  obtain ⟨W0, hW0⟩ : ∃ W0, (((((w.alloc (.cells #[.func (.func F) #[] caps] 62)).alloc (.cells #[.int .i64 0, .int .i64 0, .slice none 0 0] 24)).alloc (.cells (ints len (fun _ => 0)) 3)).alloc (.cells #[.int .i64 r, .int .i64 c, .slice (some ⟨w.heap.size + 1 + 1, 0, none⟩) len len] 24)).alloc (.cells #[.int .i64 r, .int .i64 c, .slice (some ⟨w.heap.size + 1 + 1, 0, none⟩) len len] 24)) = W0 := ⟨_, rfl⟩
  have st0 : W0.heap.size = w.heap.size + 5 ∧ MdS w r c len Z (.func (.func F) #[] caps) J [] W0 := by
    have g0 : Grown w (w.alloc (.cells #[.func (.func F) #[] caps] 62)) := (Grown.refl _).alloc _ _
    have b0 := Blk.new w #[.func (.func F) #[] caps] 62
    have s0 : (w.alloc (.cells #[.func (.func F) #[] caps] 62)).heap.size = w.heap.size + 1 := by simp
    generalize w.alloc (.cells #[.func (.func F) #[] caps] 62) = w1 at *
    have g1 : Grown w1 (w1.alloc (.cells #[.int .i64 0, .int .i64 0, .slice none 0 0] 24)) := (Grown.refl _).alloc _ _
    have b1 := Blk.new w1 #[.int .i64 0, .int .i64 0, .slice none 0 0] 24
    have s1 : (w1.alloc (.cells #[.int .i64 0, .int .i64 0, .slice none 0 0] 24)).heap.size = w.heap.size + 1 + 1 := by rw [World.size_alloc, s0]
    rw [s0] at b1
    generalize w1.alloc (.cells #[.int .i64 0, .int .i64 0, .slice none 0 0] 24) = w2 at *
    have g2 : Grown w2 (w2.alloc (.cells (ints len (fun _ => 0)) 3)) := (Grown.refl _).alloc _ _
    have b2 := Blk.new w2 (ints len (fun _ => 0)) 3
    have s2 : (w2.alloc (.cells (ints len (fun _ => 0)) 3)).heap.size = w.heap.size + 1 + 1 + 1 := by rw [World.size_alloc, s1]
    rw [s1] at b2
    generalize w2.alloc (.cells (ints len (fun _ => 0)) 3) = w3 at *
    have g3 : Grown w3 (w3.alloc (.cells #[.int .i64 r, .int .i64 c, .slice (some ⟨w.heap.size + 1 + 1, 0, none⟩) len len] 24)) := (Grown.refl _).alloc _ _
    have b3 := Blk.new w3 #[.int .i64 r, .int .i64 c, .slice (some ⟨w.heap.size + 1 + 1, 0, none⟩) len len] 24
    have s3 : (w3.alloc (.cells #[.int .i64 r, .int .i64 c, .slice (some ⟨w.heap.size + 1 + 1, 0, none⟩) len len] 24)).heap.size = w.heap.size + 1 + 1 + 1 + 1 := by rw [World.size_alloc, s2]
    rw [s2] at b3
    generalize w3.alloc (.cells #[.int .i64 r, .int .i64 c, .slice (some ⟨w.heap.size + 1 + 1, 0, none⟩) len len] 24) = w4 at *
    have g4 : Grown w4 (w4.alloc (.cells #[.int .i64 r, .int .i64 c, .slice (some ⟨w.heap.size + 1 + 1, 0, none⟩) len len] 24)) := (Grown.refl _).alloc _ _
    have b4 := Blk.new w4 #[.int .i64 r, .int .i64 c, .slice (some ⟨w.heap.size + 1 + 1, 0, none⟩) len len] 24
    have s4 : (w4.alloc (.cells #[.int .i64 r, .int .i64 c, .slice (some ⟨w.heap.size + 1 + 1, 0, none⟩) len len] 24)).heap.size = w.heap.size + 1 + 1 + 1 + 1 + 1 := by rw [World.size_alloc, s3]
    rw [s3] at b4
    generalize w4.alloc (.cells #[.int .i64 r, .int .i64 c, .slice (some ⟨w.heap.size + 1 + 1, 0, none⟩) len len] 24) = w5 at *
    subst hW0
    have kw : Kp w w5 := ((((Kp.of g0).grown g1).grown g2).grown g3).grown g4
    refine ⟨by omega, Blk.grown (Blk.grown (Blk.grown (Blk.grown b0 g1) g2) g3) g4, Blk.grown (Blk.grown (Blk.grown b1 g2) g3) g4, Blk.grown (Blk.grown b2 g3) g4, Blk.grown b3 g4, b4, unhide HJ _ _ _ (unhide H0) ⟨kw.1, kw.2.1, kw.2.2.1, kw.2.2.2⟩, by omega⟩
  rw [hW0]
  clear hW0
  obtain ⟨sz0, st0⟩ := st0
  refine wpIn_rangeFunc_ownG rfl (by omega) (gf := 115) (lb := #[.pointer (some ⟨w.heap.size + 1 + 1 + 1 + 1, 0, none⟩)]) rfl trivial (enters_of Tryz.func115 (by kernel_rfl) rfl)
    (rows_stops0 _ (by omega) (w.heap.size + 1 + 1 + 1 + 1) r c (w.heap.size + 1 + 1) len len hr hc hlen (Nat.le_refl _) W0 st0.2.2.2.2.1) kpR_t (kpR_b (by omega)) (Below.refl _ _) (fun _ => rfl)
    (fun pre => MdS w r c len Z (.func (.func F) #[] caps) J (vis c pre)) (fun _ _ _ => False) (mdS_own w r c len Z _ J (unhide HJ) _ (by omega)) (fun _ _ _ _ _ hs _ _ => hs)
    st0
    (fun x => { tmps := #[.int .i64 r, .int .i64 c, .func (.func F) #[] caps, undef, undef, .pointer (some ⟨w.heap.size, 0, none⟩), .pointer (some ⟨w.heap.size + 1, 0, none⟩), .pointer (some ⟨w.heap.size + 1 + 1 + 1, 0, none⟩), .int .i64 (x.1 : Int), .slice (some ⟨w.heap.size + 1 + 1, x.1 * c, none⟩) c c, undef, .int .i64 r, .int .i64 c, .int .i64 r, .int .i64 c, .int .i64 (len : Int), .slice (some ⟨w.heap.size + 1 + 1, 0, none⟩) len len,
        .agg #[.int .i64 r, .int .i64 c, .slice (some ⟨w.heap.size + 1 + 1, 0, none⟩) len len], .agg #[.int .i64 r, .int .i64 c, .slice (some ⟨w.heap.size + 1 + 1, 0, none⟩) len len], .func (.func 115) #[] #[.pointer (some ⟨w.heap.size + 1 + 1 + 1 + 1, 0, none⟩)], .int .i64 (x.1 : Int), .slice (some ⟨w.heap.size + 1 + 1, x.1 * c, none⟩) c c, undef, undef, undef, undef, undef, undef, undef, undef, undef, undef, undef, undef, undef, undef], defers := [] }) ?assign ?body ?done ?stop
  case assign =>
    intro l x W K hK
    dsimp only [encR0]
    gi_wp2
    exact hK
  case body =>
    rintro l pre x W hS hlt
    obtain ⟨xn, hxn⟩ : ∃ xn, x.1 = xn := ⟨_, rfl⟩
    obtain ⟨xc, hxc⟩ : ∃ q, xn * c = q := ⟨_, rfl⟩
    have hx : xn < r := by rw [← hxn]; exact x.2
    have HV : Hid (vis c (pre ++ [x]) = vis c pre ++ (List.range c).map (fun k => xc + k)) := by
      have := vis_snoc c pre x
      rw [hxn, hxc] at this
      exact this
    have HP : Hid ((vis c pre).length + c ≤ len ∧ xc + c ≤ len) := by
      refine ⟨?_, ?_⟩
      · have := place_le _ _ c hlt
        rw [vis_len, ← hlen]
        exact this
      · have := place_le _ _ c hx
        rw [← hlen, ← hxc]
        exact this
    have C1 : Hid (∀ ps k a, k < c → ps.length < len → J ps a → Calls Tryz.prog F (#[.int .i64 (xn : Int), .int .i64 (k : Int)] ++ caps) a fun e b => e = .returned (.int .i64 (Z (xc + k))) ∧ J (ps ++ [xc + k]) b ∧ SF w.heap.size a b) := by
      intro ps k a hk hp hj
      have := unhide C ps xn k a hx hk (by rw [hlen]; exact hp) hj
      rw [hxc] at this
      exact this
    dsimp only
    rw [hxn, hxc]
    obtain ⟨ps0, hps0⟩ : ∃ q, vis c pre = q := ⟨_, rfl⟩
    have hS' : MdS w r c len Z (.func (.func F) #[] caps) J ps0 W := by rw [← hps0]; exact hS
    rw [hps0] at HV HP
    have HS : Hid (MdS w r c len Z (.func (.func F) #[] caps) J (ps0 ++ (List.range 0).map (fun k => xc + k)) W ∧ KeepsFrom W0.heap.size W W ∧ KpR (w.heap.size + 1 + 1 + 1 + 1) W W) := by
      refine ⟨?_, KeepsFrom.refl _ _, rfl⟩
      simpa using hS'
    have HB : Hid (w.heap.size ≤ W0.heap.size) := by show _ ≤ _; omega
    have HC := hide hc
    clear st0 sz0 hl hr hS hS' hlt hx hxn hxc hps0 C HL HR H0 hlen lb hc
    gi_wp2
    gi_loopw [24] (fun i wr => ∃ k : Nat, k ≤ c ∧ i = .int .i64 k ∧ Hid (MdS w r c len Z (.func (.func F) #[] caps) J (ps0 ++ (List.range k).map (fun k => xc + k)) wr ∧ KeepsFrom W0.heap.size W wr ∧ KpR (w.heap.size + 1 + 1 + 1 + 1) W wr)) (fun i _ => c - (intOf i).toNat)
    case atStart => exact ⟨0, Nat.zero_le _, rfl, HS⟩
    case round =>
      obtain ⟨k, hk, rfl, HI⟩ := hrel
      by_cases hlt : k < c
      · have d0 : wr.cell? ⟨w.heap.size, 0, none⟩ = some (.func (.func F) #[] caps) := Blk.cell (unhide HI).1.1 0
        have hpl : (ps0 ++ (List.range k).map (fun k => xc + k)).length < len := by
          have := (unhide HP).1
          rw [List.length_append, List.length_map, List.length_range]
          omega
        have CC := hide (unhide C1 _ k wr hlt hpl (unhide HI).1.2.2.2.2.2.1)
        have i0 : (0 : Int) ≤ (k : Int) := by omega
        have i1 : (k : Int) < (c : Int) := by omega
        have hq : xc + k < len := by have := (unhide HP).2; omega
        have HQ := hide hq
        have cb : c ≤ 12 := (unhide HC).2
        clear hpl hq
        gi_wp2_with fail
        refine ⟨trivial, ?_⟩
        refine (CallsIn.inRound l (callsIn_wide.2 (unhide CC))).mono ?_
        rintro e w2 ⟨rfl, j2, s2⟩
        have P := MdS.put (unhide HJ) (unhide HI).1 s2 j2
        rw [range_snoc (fun k => xc + k)] at P
        have hk0 : w2.cell? ⟨w.heap.size + 1 + 1, xc + k, none⟩ = some (.int .i64 (soFar Z (ps0 ++ (List.range k).map (fun k => xc + k)) (xc + k))) := by rw [Blk.cell P.2.1, ints_at len _ _ (unhide HQ)]
        have hfz := Blk.free P.2.1 (xc + k)
        have R : Hid (MdS w r c len Z (.func (.func F) #[] caps) J (ps0 ++ (List.range (k + 1)).map (fun k => xc + k)) (w2.setCell ⟨w.heap.size + 1 + 1, xc + k, none⟩ (.int .i64 (Z (xc + k)))) ∧ KeepsFrom W0.heap.size W (w2.setCell ⟨w.heap.size + 1 + 1, xc + k, none⟩ (.int .i64 (Z (xc + k)))) ∧ KpR (w.heap.size + 1 + 1 + 1 + 1) W (w2.setCell ⟨w.heap.size + 1 + 1, xc + k, none⟩ (.int .i64 (Z (xc + k))))) :=
          ⟨P.1, (unhide HI).2.1.trans (P.2.2.1 _ (unhide HB)), kpR_t (unhide HI).2.2 P.2.2.2⟩
        generalize soFar Z (ps0 ++ (List.range k).map (fun k => xc + k)) (xc + k) = old at hk0
        generalize Z (xc + k) = z at *
        clear P j2 s2 CC d0 HI
        gi_wp2
        go_roundw
        case rel => exact ⟨k + 1, by omega, by go_num, R⟩
        case measure => simp [intOf]; omega
      · obtain rfl : k = c := by omega
        have R : Hid (KeepsFrom W0.heap.size W wr ∧ KpR (w.heap.size + 1 + 1 + 1 + 1) W wr ∧ MdS w r k len Z (.func (.func F) #[] caps) J (vis k (pre ++ [x])) wr) := by
          rw [unhide HV]
          exact ⟨(unhide HI).2.1, (unhide HI).2.2, (unhide HI).1⟩
        clear HI HS
        gi_wp2
        exact unhide R
  case done =>
    rintro D ys W hD rfl hS hDf
    have hS' : MdS w r c len Z (.func (.func F) #[] caps) J (List.range len) W := by
      have e := vis_all r c
      rw [hlen] at e
      rw [← e]
      exact hS
    obtain ⟨h1, h2, h3, h4, h5, h6, h7⟩ := hS'
    rw [soFar_all] at h3
    have d0 : W.cell? ⟨w.heap.size + 1 + 1 + 1, 0, none⟩ = some (.int .i64 r) := Blk.cell h4 0
    have d1 : W.cell? ⟨w.heap.size + 1 + 1 + 1, 1, none⟩ = some (.int .i64 c) := Blk.cell h4 1
    have d2 : W.cell? ⟨w.heap.size + 1 + 1 + 1, 2, none⟩ = some (.slice (some ⟨w.heap.size + 1 + 1, 0, none⟩) len len) := Blk.cell h4 2
    have e0 : W.cell? ⟨w.heap.size + 1, 0, none⟩ = some (.int .i64 0) := Blk.cell h2 0
    have e1 : W.cell? ⟨w.heap.size + 1, 1, none⟩ = some (.int .i64 0) := Blk.cell h2 1
    have e2 : W.cell? ⟨w.heap.size + 1, 2, none⟩ = some (.slice none 0 0) := Blk.cell h2 2
    have f := Blk.free h2
    have HP := hide (And.intro h2 (And.intro h3 (And.intro h6 h7)))
    clear hS h1 h2 h3 h4 h5 h6 h7 st0 hl hr hc hlen lb
    gi_wp2
    obtain ⟨h2, h3, h6, h7⟩ := unhide HP
    have m2 : Mod (w.heap.size + 1) W (((W.setCell ⟨w.heap.size + 1, 0, none⟩ (.int .i64 r)).setCell ⟨w.heap.size + 1, 1, none⟩ (.int .i64 c)).setCell ⟨w.heap.size + 1, 2, none⟩ (.slice (some ⟨w.heap.size + 1 + 1, 0, none⟩) len len)) := (((Mod.refl _ _).setCell 0 _).setCell 1 _).setCell 2 _
    have B2 := Blk.set (Blk.set (Blk.set h2 0 (.int .i64 r)) 1 (.int .i64 c)) 2 (.slice (some ⟨w.heap.size + 1 + 1, 0, none⟩) len len)
    have B3 := Blk.keep h3 m2 (by omega)
    have J2 : J (List.range len) (((W.setCell ⟨w.heap.size + 1, 0, none⟩ (.int .i64 r)).setCell ⟨w.heap.size + 1, 1, none⟩ (.int .i64 c)).setCell ⟨w.heap.size + 1, 2, none⟩ (.slice (some ⟨w.heap.size + 1 + 1, 0, none⟩) len len)) := unhide HJ _ _ _ h6 ⟨m2.1, m2.2.1, fun k hk => m2.2.2.1 k (by omega) (by omega), m2.2.2.2.2⟩
    have kD : (((W.setCell ⟨w.heap.size + 1, 0, none⟩ (.int .i64 r)).setCell ⟨w.heap.size + 1, 1, none⟩ (.int .i64 c)).setCell ⟨w.heap.size + 1, 2, none⟩ (.slice (some ⟨w.heap.size + 1 + 1, 0, none⟩) len len)).heap[D]? = some (.deferred (some [])) := (((KeepsOthers.setCell _ _ _).trans (KeepsOthers.setCell _ _ _)).trans (KeepsOthers.setCell _ _ _)).same D _ hDf rfl
    have hz := m2.2.2.2.2
    generalize (((W.setCell ⟨w.heap.size + 1, 0, none⟩ (.int .i64 r)).setCell ⟨w.heap.size + 1, 1, none⟩ (.int .i64 c)).setCell ⟨w.heap.size + 1, 2, none⟩ (.slice (some ⟨w.heap.size + 1 + 1, 0, none⟩) len len)) = WW at *
    have gD := grownBy_putObj' WW D (.deferred none)
    have B2' := Blk.by B2 gD (fun e => by cases e; omega)
    have B3' := Blk.by B3 gD (fun e => by cases e; omega)
    have J3 := unhide HJ _ _ _ J2 (SB.by gD (by omega) (fun k e => by cases e; omega))
    refine ⟨by simp, .inl ⟨_, _, rfl, run_takeDeferred kD, ?_⟩⟩
    have c0 : (WW.putObj D (.deferred none)).cell? ⟨w.heap.size + 1, 0, none⟩ = some (.int .i64 r) := Blk.cell B2' 0
    have c1 : (WW.putObj D (.deferred none)).cell? ⟨w.heap.size + 1, 1, none⟩ = some (.int .i64 c) := Blk.cell B2' 1
    have c2 : (WW.putObj D (.deferred none)).cell? ⟨w.heap.size + 1, 2, none⟩ = some (.slice (some ⟨w.heap.size + 1 + 1, 0, none⟩) len len) := Blk.cell B2' 2
    generalize WW.putObj D (.deferred none) = WP at *
    refine ⟨.agg #[.int .i64 r, .int .i64 c, .slice (some ⟨w.heap.size + 1 + 1, 0, none⟩) len len], by simp [results, Tryz.results61, go_sem, c0, c1, c2], ?_⟩
    have hlen := (unhide HL).1
    unfold MadeP
    rw [hlen]
    exact ⟨_, by omega, rfl, B3', J3⟩
  case stop =>
    rintro D c pre W hD hpre h
    exact h.elim
end
end Go.Proofs.YtopaakjildmjcaaGreat
