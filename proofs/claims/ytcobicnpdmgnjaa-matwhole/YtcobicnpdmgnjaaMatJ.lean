/- Package mat: Apply. -/
import Derived.Test.YtcobicnpdmgnjaaMatI
import Derived.Test.YtcobicnpdmgnjaaRoundR
namespace Go.Proofs.Ytcobicnpdmgnjaa
open Go.RowKit Go.Shelf Go.Proofs.Wd
set_option linter.unusedVariables false
set_option linter.unusedSimpArgs false

/-- Apply under way: w is the world at the list's making. -/
def ApS (w : World) (U r m : Nat) (M : Value) (c0 : Bool) (n0 : Int) (Z : Nat → Int) (G : Nat → Bool) (ps : List Nat) (W : World) : Prop :=
  UC U (c0 || ps.any G) (n0 + 2 * m * (ps.length : Int)) W ∧ Blk w.heap.size (ints r (soFar Z ps)) 3 W ∧ Blk (w.heap.size + 1) #[.slice (some ⟨w.heap.size, 0, none⟩) r r] 22 W ∧ Blk (w.heap.size + 1 + 1) #[.int .i64 r, .int .i64 m, M] 24 W ∧ Mk U w W ∧ w.heap.size + 3 ≤ W.heap.size
def nums {r : Nat} (pre : List (Fin r)) : List Nat := pre.map fun x => x.1
theorem nums_all (r : Nat) : nums (allR r) = List.range r := by
  have : nums (allR r) = vis 1 (allR r) := by
    unfold nums vis
    simp [List.range_succ, List.flatMap_singleton', List.map_eq_flatMap]
  rw [this, vis_all, Nat.mul_one]
theorem apS_own (w : World) (U r m : Nat) (hU : U < w.heap.size) (M : Value) (c0 : Bool) (n0 : Int) (Z : Nat → Int) (G : Nat → Bool) (B : Nat) (hB : w.heap.size ≤ B) : OwnFrom B (fun pre : List (Fin r) => ApS w U r m M c0 n0 Z G (nums pre)) := by
  rintro pre W W' row ⟨h1, h2, h3, h4, h5, h6⟩ hg hr
  have hr' : ∀ r, row = some r → ∃ o : Obj, W.heap[r]? = some o ∧ o.isCells = false := fun r e => (hr r e).2
  exact ⟨blk_own h1 hg hr', blk_own h2 hg hr', blk_own h3 hg hr', blk_own h4 hg hr', h5.by hg (fun k e => Nat.le_trans hB (hr k e).1), Nat.le_trans h6 hg.size⟩
/-- A number has been reckoned, and is put. -/
theorem ApS.put {w : World} {U r m : Nat} {M : Value} {c0 : Bool} {n0 : Int} {Z : Nat → Int} {G : Nat → Bool} {ps : List Nat} {p : Nat} {W W1 : World} (hU : U < w.heap.size) (h : ApS w U r m M c0 n0 Z G ps W) (u : UC U (c0 || ps.any G || G p) (n0 + 2 * m * (ps.length : Int) + 2 * m) W1) (s : Mod U W W1) :
    ApS w U r m M c0 n0 Z G (ps ++ [p]) (W1.setCell ⟨w.heap.size, p, none⟩ (.int .i64 (Z p))) ∧ Blk w.heap.size (ints r (soFar Z ps)) 3 W1 ∧ Blk (w.heap.size + 1) #[.slice (some ⟨w.heap.size, 0, none⟩) r r] 22 W1 ∧ KeepsFrom (w.heap.size + 3) W (W1.setCell ⟨w.heap.size, p, none⟩ (.int .i64 (Z p))) ∧ KpR (w.heap.size + 1 + 1) W (W1.setCell ⟨w.heap.size, p, none⟩ (.int .i64 (Z p))) := by
  obtain ⟨h1, h2, h3, h4, h5, h6⟩ := h
  have q : Mod w.heap.size W1 (W1.setCell ⟨w.heap.size, p, none⟩ (.int .i64 (Z p))) := (Mod.refl _ _).setCell _ _
  have b2 := Blk.keep h2 s (by omega)
  have b3 := Blk.keep h3 s (by omega)
  have b4 := Blk.keep h4 s (by omega)
  have ks : KeepsFrom (w.heap.size + 3) W W1 := ⟨s.2.2.2.2, fun k o hk e _ => (s.2.2.1 k (Array.getElem?_eq_some_iff.1 e).1 (by omega)).trans e⟩
  refine ⟨⟨Blk.keep ?_ q (by omega), ?_, Blk.keep b3 q (by omega), Blk.keep b4 q (by omega), (h5.trans (Mk.of s)).new q (Nat.le_refl _), Nat.le_trans (Nat.le_trans h6 s.2.2.2.2) q.2.2.2.2⟩, b2, b3, ks.trans ((KeepsOthers.setCell _ _ _).from _), ?_⟩
  · rw [List.any_append, List.length_append, ← Bool.or_assoc]
    show UC U (c0 || ps.any G || (G p || false)) (n0 + 2 * m * ((ps.length + 1 : Nat) : Int)) W1
    rw [Bool.or_false, show n0 + 2 * m * ((ps.length + 1 : Nat) : Int) = n0 + 2 * m * (ps.length : Int) + 2 * m by rw [Int.natCast_add, Int.mul_add]; omega]
    exact u
  · have := Blk.setI b2 p (Z p)
    rwa [soFar_snoc] at this
  · exact (q.2.2.1 _ (by have := Blk.lt b4; omega) (by omega)).trans (s.2.2.1 _ (by omega) (by omega))

def encRo {r : Nat} (b o c : Nat) (x : Fin r) : Array Value := encR b o c x
theorem rows_stopsL (n : Nat) (hn : 1 ≤ n) (Bs r c b o len cap : Nat) (hr : 1 ≤ r ∧ r ≤ 12) (hc : 1 ≤ c ∧ c ≤ 12) (hlen : r * c = len) (hcap : len ≤ cap) (w : World) (hB : Blk Bs #[.int .i64 r, .int .i64 c, .slice (some ⟨b, o, none⟩) len cap] 24 w) :
    SeqStopsK Fence.wide n Try.prog 61 #[.pointer (some ⟨Bs, 0, none⟩)] (encR (r := r) b o c) (KpR Bs) (fun ys => ys = allR r) (fun pre => pre <+: allR r) r w := by
  subst hlen
  exact rows_stops n hn Bs r c b o cap hr hc hcap w hB

/-- A list and an error that a call tells. -/
def ListP (len : Nat) (Z : Nat → Int) (err : Int) (X : World → Prop) (w : World) (e : Ending) (w' : World) : Prop :=
  ∃ ao cap B, e = .returned (.tuple #[.slice ao len cap, .int .i64 err]) ∧ w.heap.size ≤ B ∧ (len = 0 ∨ (ao = some ⟨B, 0, none⟩ ∧ Blk B (ints len Z) 3 w')) ∧ len ≤ cap ∧ X w'

section
attribute [local go_sem] Oper.semAt_some


set_option maxRecDepth 100000 in
set_option maxHeartbeats 4000000 in
theorem matApply_ok (U : Nat) (c0 : Bool) (n0 : Int) (hn : 0 ≤ n0 ∧ n0 < 1152921504606846976) (r m b o cap xc : Nat) (xo : Option Addr) (A X : Nat → Int) (hr : 1 ≤ r ∧ r ≤ 12) (hm : 1 ≤ m ∧ m ≤ 12) (hcap : r * m ≤ cap)
    (hA : ∀ j, j < r * m → I64 (A j)) (hX : ∀ j, j < m → I64 (X j)) (w : World) (h : UC U c0 n0 w) (za : ∀ j, j < r * m → w.cell? ⟨b, o + j, none⟩ = some (.int .i64 (A j))) (zx : Row w xo m X) (n4 : b ≠ U) (n5 : Off U m xo) :
    Calls Try.prog 29 #[.pointer (some ⟨U, 0, none⟩), .agg #[.int .i64 r, .int .i64 m, .slice (some ⟨b, o, none⟩) (r * m) cap], .slice xo m xc] w fun e w' => ListP r (appZ A X m) 0 (fun w' => UC U (c0 || orC (appG A X m) r) (n0 + 2 * m * (r : Int)) w' ∧ Mk U w w') w e w' := by
  have hlt := Blk.lt h
  obtain ⟨G, s4, bu, ba, bx, bm⟩ := alloc4 w #[.pointer (some ⟨U, 0, none⟩)] 41 #[.int .i64 r, .int .i64 m, .slice (some ⟨b, o, none⟩) (r * m) cap] 24 #[.slice xo m xc] 22 #[.int .i64 r, .int .i64 m, .slice (some ⟨b, o, none⟩) (r * m) cap] 24
  have RF := hide (refuse1 U c0 n0 ⟨hn.1, by omega⟩ r m (some ⟨b, o, none⟩) (r * m) cap (w.heap.size + 1 + 1 + 1) 0 (Or.inl ⟨⟨by omega, by omega, by rw [Int.natCast_mul]⟩, rfl⟩) _ (Blk.grown h G) bm (by omega))
  have D : Hid (∀ cc nn i wx, i < r → 0 ≤ nn ∧ nn < 2305843009213693952 → UC U cc nn wx → Mk U w wx → Calls Try.prog 49 #[.pointer (some ⟨U, 0, none⟩), .slice (some ⟨b, o + i * m, none⟩) m m, .slice xo m xc] wx fun e w' => e = .returned (.int .i64 (appZ A X m i)) ∧ UC U (cc || appG A X m i) (nn + 2 * m) w' ∧ Mod U wx w') := fun cc nn i wx hi hnn hu mu =>
    matDot U cc nn _ _ m m xc _ _ hnn (by omega) (fun j hj => hA _ (place_in _ _ _ _ hi hj)) hX wx hu (row_part hi (fun j hj => mu.cell (za j hj) n4)) (fun _ a e => by cases e; exact n4) (zx.mk mu n5) n5
  have MK := make_ints r (by omega)
  have HB := hide (And.intro bu (And.intro ba bx))
  have HG := hide (And.intro G (And.intro s4 hlt))
  have HN := hide hn
  have HR := hide (And.intro hr (And.intro hm hcap))
  obtain ⟨la, hla⟩ : ∃ q, r * m = q := ⟨_, rfl⟩
  rw [hla] at RF HG HB HR
  rw [hla]
  have HL := hide hla
  clear G s4 bu ba bx bm h hlt za zx hA hX hr hm hcap hla n4 n5 hn
  refine (callsIn_wide (n := 6)).1 ?_
  refine callsIn_of_wp_marks Try.func29 rfl trivial ?_ rfl
  simp only [Try.ntmps29, List.size_toArray, List.length_cons, List.length_nil, Nat.reduceAdd, Nat.reduceSub, Array.replicate_succ, Array.replicate_zero, List.push_toArray, List.append_toArray, List.nil_append, List.cons_append]
  gi_wp2_with fail
  generalize ((((w.alloc (.cells #[.pointer (some ⟨U, 0, none⟩)] 41)).alloc (.cells #[.int .i64 r, .int .i64 m, .slice (some ⟨b, o, none⟩) la cap] 24)).alloc (.cells #[.slice xo m xc] 22)).alloc (.cells #[.int .i64 r, .int .i64 m, .slice (some ⟨b, o, none⟩) la cap] 24)) = w1 at *
  refine ⟨trivial, ?_⟩
  refine (callsIn_wide.2 (unhide RF)).mono ?_
  rintro e w2 ⟨rfl, u2, m2⟩
  have M2 : Hid (Mk U w w2) := Mk.of ((Mod.of (unhide HG).1).trans m2)
  have Z2 : Hid (w.heap.size + 1 + 1 + 1 + 1 ≤ w2.heap.size) := by have := (unhide HG).2.1; have := m2.2.2.2.2; show _ ≤ _; omega
  have lU : Hid (U < w.heap.size) := (unhide HG).2.2
  obtain ⟨bu, ba, bx⟩ := unhide HB
  have bu2 := Blk.keep bu m2 (by have := unhide lU; omega)
  have ba2 := Blk.keep ba m2 (by have := unhide lU; omega)
  have bx2 := Blk.keep bx m2 (by have := unhide lU; omega)
  have p0 : w2.cell? ⟨w.heap.size + 1, 0, none⟩ = some (.int .i64 r) := Blk.cell ba2 0
  have p1 : w2.cell? ⟨w.heap.size + 1, 1, none⟩ = some (.int .i64 m) := Blk.cell ba2 1
  have p2 : w2.cell? ⟨w.heap.size + 1, 2, none⟩ = some (.slice (some ⟨b, o, none⟩) la cap) := Blk.cell ba2 2
  have q0 : w2.cell? ⟨w.heap.size + 1 + 1, 0, none⟩ = some (.slice xo m xc) := Blk.cell bx2 0
  have G3 : Grown w2 ((w2.alloc (.cells (ints r (fun _ => 0)) 3)).alloc (.cells #[.slice (some ⟨w2.heap.size, 0, none⟩) r r] 22)) := ((Grown.refl _).alloc _ _).alloc _ _
  have r0 := gat G3 p0
  have r1 := gat G3 p1
  have r2 := gat G3 p2
  have H2 := hide (And.intro u2 (And.intro bu2 (And.intro ba2 bx2)))
  clear bu ba bx bu2 ba2 bx2 u2 m2 RF HB
  gi_wp2_with (refine ⟨trivial, ?_⟩; gi_at_call 45; refine (callsIn_wide.2 (matRows _ _ _ rfl _)).mono ?_; rintro e w' ⟨rfl, rfl⟩)
  obtain ⟨hr, hm, hcap⟩ := unhide HR
  obtain ⟨G5, s5, b5, bl5, bs5⟩ := alloc3 w2 (ints r (fun _ => 0)) 3 #[.slice (some ⟨w2.heap.size, 0, none⟩) r r] 22 #[.int .i64 r, .int .i64 m, .slice (some ⟨b, o, none⟩) la cap] 24
  generalize (((w2.alloc (.cells (ints r (fun _ => 0)) 3)).alloc (.cells #[.slice (some ⟨w2.heap.size, 0, none⟩) r r] 22)).alloc (.cells #[.int .i64 r, .int .i64 m, .slice (some ⟨b, o, none⟩) la cap] 24)) = W0 at *
  have hlU : U < w2.heap.size := Blk.lt (unhide H2).1
  have st0 : ApS w2 U r m (.slice (some ⟨b, o, none⟩) la cap) c0 n0 (appZ A X m) (appG A X m) [] W0 := by
    refine ⟨?_, b5, bl5, bs5, Mk.kp (Kp.of G5), by omega⟩
    show UC U (c0 || false) (n0 + 2 * m * 0) W0
    rw [Bool.or_false, Int.mul_zero, Int.add_zero]
    exact Blk.grown (unhide H2).1 G5
  clear G3 p0 p1 p2 q0 r0 r1 r2 MK b5 bl5 G5
  refine wpIn_rangeFunc_ownG rfl (by omega) (gf := 61) (lb := #[.pointer (some ⟨w2.heap.size + 1 + 1, 0, none⟩)]) rfl trivial (enters_of Try.func61 (by kernel_rfl) rfl)
    (rows_stopsL _ (by omega) (w2.heap.size + 1 + 1) r m b o la cap hr hm (unhide HL) hcap W0 bs5) kpR_t (kpR_b (by omega)) (Below.refl _ _) (fun _ => rfl)
    (fun pre => ApS w2 U r m (.slice (some ⟨b, o, none⟩) la cap) c0 n0 (appZ A X m) (appG A X m) (nums pre)) (fun _ _ _ => False) (apS_own w2 U r m hlU _ c0 n0 _ _ _ (by omega)) (fun _ _ _ _ _ hs _ _ => hs)
    st0
    (fun x => { tmps := #[.pointer (some ⟨U, 0, none⟩), .agg #[.int .i64 r, .int .i64 m, .slice (some ⟨b, o, none⟩) la cap], .slice xo m xc, .pointer (some ⟨w.heap.size, 0, none⟩), .pointer (some ⟨w.heap.size + 1, 0, none⟩), .pointer (some ⟨w.heap.size + 1 + 1, 0, none⟩), .slice none 0 0, .int .i64 0, .int .i64 0, .pointer (some ⟨w2.heap.size + 1, 0, none⟩), .int .i64 (x.1 : Int), .slice (some ⟨b, o + x.1 * m, none⟩) m m,
        .pointer (some ⟨U, 0, none⟩), .agg #[.int .i64 r, .int .i64 m, .slice (some ⟨b, o, none⟩) la cap], .slice (some ⟨w.heap.size + 1 + 1 + 1, 0, none⟩) 1 1, .int .i64 0, .int .i64 0, .bool false, undef, .slice xo m xc, .int .i64 m, .pointer (some ⟨w.heap.size + 1, 1, none⟩), .int .i64 m, .bool false, .pointer (some ⟨w.heap.size + 1, 0, none⟩), .int .i64 r, .slice (some ⟨w2.heap.size, 0, none⟩) r r, .agg #[.int .i64 r, .int .i64 m, .slice (some ⟨b, o, none⟩) la cap], .func (.func 61) #[] #[.pointer (some ⟨w2.heap.size + 1 + 1, 0, none⟩)], .int .i64 (x.1 : Int), .slice (some ⟨b, o + x.1 * m, none⟩) m m, undef, undef, undef, undef, undef, undef, undef, undef], defers := [] }) ?assign ?body ?done ?stop
  case assign =>
    intro l x W K hK
    dsimp only [encR]
    gi_wp2
    exact hK
  case body =>
    rintro l pre x W hS hlt
    obtain ⟨xn, hxn⟩ : ∃ xn, x.1 = xn := ⟨_, rfl⟩
    have hx : xn < r := by rw [← hxn]; exact x.2
    have HV : Hid (nums (pre ++ [x]) = nums pre ++ [xn]) := by
      show nums (pre ++ [x]) = nums pre ++ [xn]
      unfold nums
      rw [List.map_append, ← hxn]
      rfl
    have hpl : (nums pre).length < r := by unfold nums; rw [List.length_map]; exact hlt
    have hpb : 0 ≤ 2 * (m : Int) * ((nums pre).length : Int) ∧ 2 * (m : Int) * ((nums pre).length : Int) ≤ 24 * 12 := ⟨Int.mul_nonneg (by omega) (by omega), Int.mul_le_mul (by omega) (by omega) (by omega) (by omega)⟩
    have hnb : 0 ≤ n0 + 2 * (m : Int) * ((nums pre).length : Int) ∧ n0 + 2 * (m : Int) * ((nums pre).length : Int) < 2305843009213693952 := by have := unhide HN; omega
    have DD : Hid (∀ wx, wx.heap = W.heap → wx.os = W.os → wx.output = W.output → Calls Try.prog 49 #[.pointer (some ⟨U, 0, none⟩), .slice (some ⟨b, o + xn * m, none⟩) m m, .slice xo m xc] wx fun e w' => e = .returned (.int .i64 (appZ A X m xn)) ∧ UC U (c0 || (nums pre).any (appG A X m) || appG A X m xn) (n0 + 2 * m * ((nums pre).length : Int) + 2 * m) w' ∧ Mod U wx w') := by
      intro wx e1 e2 e3
      have mw : Mk U w wx := by
        have := (unhide M2).trans hS.2.2.2.2.1
        exact ⟨e2.trans this.1, e3.trans this.2.1, fun k hk hu => by rw [e1]; exact this.2.2.1 k hk hu, by rw [e1]; exact this.2.2.2⟩
      exact unhide D _ _ xn wx hx hnb (by have := hS.1; unfold UC Blk at *; rw [e1]; exact this) mw
    dsimp only
    rw [hxn]
    have mS := hS.2.2.2.2.1
    have d0 : W.cell? ⟨w2.heap.size + 1, 0, none⟩ = some (.slice (some ⟨w2.heap.size, 0, none⟩) r r) := Blk.cell hS.2.2.1 0
    have d1 : W.cell? ⟨w.heap.size, 0, none⟩ = some (.pointer (some ⟨U, 0, none⟩)) := Blk.cell (Blk.mk (unhide H2).2.1 mS (by have := unhide lU; omega)) 0
    have d2 : W.cell? ⟨w.heap.size + 1 + 1, 0, none⟩ = some (.slice xo m xc) := Blk.cell (Blk.mk (unhide H2).2.2.2 mS (by have := unhide lU; omega)) 0
    have i0 : (0 : Int) ≤ (xn : Int) := by omega
    have i1 : (xn : Int) < (r : Int) := by omega
    have HS := hide hS
    have HX := hide hx
    have HW : Hid (W0.heap.size = w2.heap.size + 3) := by show _ = _; omega
    obtain ⟨oi, hoi⟩ : ∃ q, o + xn * m = q := ⟨_, rfl⟩
    rw [hoi]
    rw [hoi] at DD
    obtain ⟨z, hz⟩ : ∃ z, appZ A X m xn = z := ⟨_, rfl⟩
    rw [hz] at DD
    have EZ := hide hz
    have hmx : Try.prog.follows .mixedOrders = true := by kernel_rfl
    have HU := hide hlU
    clear hz hoi hx hxn hS mS hlt hpl hpb hnb D st0 s5 bs5 hlU hr hm hcap HN HR HG M2
    gi_wp2
    refine region_in (fun w' => w'.cell? ⟨w2.heap.size + 1, 0, none⟩ = some (.slice (some ⟨w2.heap.size, 0, none⟩) r r) ∧ w'.cell? ⟨w.heap.size, 0, none⟩ = some (.pointer (some ⟨U, 0, none⟩)) ∧ w'.cell? ⟨w.heap.size + 1 + 1, 0, none⟩ = some (.slice xo m xc)) hmx (by kernel_rfl) ⟨d0, d1, d2⟩ (fun hHeld => ?_)
    refine take_slotN (i := 0) (d := 31) (v := .slice (some ⟨w2.heap.size, 0, none⟩) r r) rfl rfl (by kernel_rfl) (by kernel_rfl) (by kernel_rfl) (Or.inl ⟨by rfl, ?_⟩) (by assumption) ?_
    · intro w hSw
      (try dsimp only at hSw)
      go_simp
    (try simp only [Act.put, List.setIfInBounds_toArray, List.set_cons_zero, List.set_cons_succ])
    refine take_slotN (i := 1) (d := 32) (v := .int .i64 (xn : Int)) rfl rfl (by kernel_rfl) (by kernel_rfl) (by kernel_rfl) (Or.inl ⟨by rfl, ?_⟩) (by assumption) ?_
    · intro w hSw
      (try dsimp only at hSw)
      go_simp
    (try simp only [Act.put, List.setIfInBounds_toArray, List.set_cons_zero, List.set_cons_succ])
    refine take_slotN (i := 2) (d := 33) (v := .pointer (some ⟨U, 0, none⟩)) rfl rfl (by kernel_rfl) (by kernel_rfl) (by kernel_rfl) (Or.inl ⟨by rfl, ?_⟩) (by assumption) ?_
    · intro w hSw
      (try dsimp only at hSw)
      go_simp
    (try simp only [Act.put, List.setIfInBounds_toArray, List.set_cons_zero, List.set_cons_succ])
    refine take_slotN (i := 3) (d := 34) (v := .slice (some ⟨b, oi, none⟩) m m) rfl rfl (by kernel_rfl) (by kernel_rfl) (by kernel_rfl) (Or.inl ⟨by rfl, ?_⟩) (by assumption) ?_
    · intro w hSw
      (try dsimp only at hSw)
      go_simp
    (try simp only [Act.put, List.setIfInBounds_toArray, List.set_cons_zero, List.set_cons_succ])
    refine take_slotN (i := 4) (d := 35) (v := .slice xo m xc) rfl rfl (by kernel_rfl) (by kernel_rfl) (by kernel_rfl) (Or.inl ⟨by rfl, ?_⟩) (by assumption) ?_
    · intro w hSw
      (try dsimp only at hSw)
      go_simp
    (try simp only [Act.put, List.setIfInBounds_toArray, List.set_cons_zero, List.set_cons_succ])
    refine wpAnyH_ready (rs := [5]) (by kernel_rfl) (by simp) ?_
    refine AllReadyH.cons rfl (fun K hK => ?_) AllReadyH.nil
    go_simp
    refine (unhide DD W.drew rfl rfl rfl).mono ?_
    rintro e w3 ⟨rfl, u3, m3⟩
    have P := ApS.put (unhide HU) (unhide HS) u3 ((mod_drew U W).trans m3)
    rw [unhide EZ] at P
    have k0 : w3.cell? ⟨w2.heap.size + 1, 0, none⟩ = some (.slice (some ⟨w2.heap.size, 0, none⟩) r r) := Blk.cell P.2.2.1 0
    have k1 : w3.cell? ⟨w2.heap.size, xn, none⟩ = some (.int .i64 (soFar (appZ A X m) (nums pre) xn)) := by rw [Blk.cell P.2.1, ints_at r _ _ (unhide HX)]
    have k2 := Blk.free P.2.1 xn
    have mS3 : Mk U w2 w3 := ((unhide HS).2.2.2.2.1.trans (Mk.of ((mod_drew U W).trans m3)))
    have k3 : w3.cell? ⟨w.heap.size, 0, none⟩ = some (.pointer (some ⟨U, 0, none⟩)) := Blk.cell (Blk.mk (unhide H2).2.1 mS3 (by have := unhide lU; omega)) 0
    have k4 : w3.cell? ⟨w.heap.size + 1 + 1, 0, none⟩ = some (.slice xo m xc) := Blk.cell (Blk.mk (unhide H2).2.2.2 mS3 (by have := unhide lU; omega)) 0
    have z1 : w.heap.size ≠ w2.heap.size := Nat.ne_of_lt (Blk.lt (unhide H2).2.1)
    have z2 : w.heap.size + 1 + 1 ≠ w2.heap.size := Nat.ne_of_lt (Blk.lt (unhide H2).2.2.2)
    generalize soFar (appZ A X m) (nums pre) xn = old at k1
    have R : Hid (KeepsFrom W0.heap.size W (w3.setCell ⟨w2.heap.size, xn, none⟩ (.int .i64 z)) ∧ KpR (w2.heap.size + 1 + 1) W (w3.setCell ⟨w2.heap.size, xn, none⟩ (.int .i64 z)) ∧ ApS w2 U r m (.slice (some ⟨b, o, none⟩) la cap) c0 n0 (appZ A X m) (appG A X m) (nums (pre ++ [x])) (w3.setCell ⟨w2.heap.size, xn, none⟩ (.int .i64 z))) := by
      rw [unhide HV]
      show KeepsFrom _ _ _ ∧ _ ∧ _
      rw [unhide HW]
      exact ⟨P.2.2.2.1, P.2.2.2.2, P.1⟩
    clear P u3 m3 mS3 hHeld DD
    go_wp2_with fail
    refine hK.out _ _ ⟨k0, k3, k4⟩ (fun hHeld => ?_)
    clear hK K
    (try simp only [Act.put, List.setIfInBounds_toArray, List.set_cons_zero, List.set_cons_succ])
    refine take_slotN (i := 6) (d := 37) (v := .pointer (some ⟨w2.heap.size, xn, none⟩)) rfl rfl (by kernel_rfl) (by kernel_rfl) (by kernel_rfl) (Or.inl ⟨by rfl, ?_⟩) (by assumption) ?_
    · intro w hSw
      (try dsimp only at hSw)
      go_simp
    (try simp only [Act.put, List.setIfInBounds_toArray, List.set_cons_zero, List.set_cons_succ])
    refine wpAnyH_ready (rs := [7]) (by kernel_rfl) (by simp) ?_
    refine AllReadyH.cons rfl (fun K hK => ?_) AllReadyH.nil
    go_simp
    refine hK.out _ _ ⟨by simp [go_sem, *], by simp [go_sem, *], by simp [go_sem, *]⟩ (fun hHeld => ?_)
    clear hK K
    (try simp only [Act.put, List.setIfInBounds_toArray, List.set_cons_zero, List.set_cons_succ])
    refine wpAnyH_done (by kernel_rfl) ?_ _
    exact unhide R
  case done =>
    rintro D1 ys W hD rfl hS hDf
    have hS' : ApS w2 U r m (.slice (some ⟨b, o, none⟩) la cap) c0 n0 (appZ A X m) (appG A X m) (List.range r) W := by
      rw [← nums_all]
      exact hS
    obtain ⟨h1, h2, h3, h4, h5, h6⟩ := hS'
    rw [soFar_all] at h2
    rw [orC_any, List.length_range] at h1
    have d0 : W.cell? ⟨w2.heap.size + 1, 0, none⟩ = some (.slice (some ⟨w2.heap.size, 0, none⟩) r r) := Blk.cell h3 0
    have HP := hide (And.intro h1 (And.intro h2 (And.intro h5 h6)))
    clear hS h1 h2 h3 h4 h5 h6 st0 hr hm hcap
    gi_wp2
    obtain ⟨h1, h2, h5, h6⟩ := unhide HP
    have gD := grownBy_putObj' W D1 (.deferred none)
    have u1 := Blk.by h1 gD (fun e => by cases e; omega)
    have u2 := Blk.by h2 gD (fun e => by cases e; omega)
    have u5 := h5.by gD (fun k e => by cases e; omega)
    refine ⟨by simp, .inl ⟨_, _, rfl, run_takeDeferred hDf, ?_⟩⟩
    refine ⟨.tuple #[.slice (some ⟨w2.heap.size, 0, none⟩) r r, .int .i64 0], by simp [results, Try.results29, go_sem], ?_⟩
    exact ⟨_, _, w2.heap.size, rfl, (unhide M2).2.2.2, Or.inr ⟨rfl, u2⟩, Nat.le_refl _, u1, (unhide M2).trans u5⟩
  case stop =>
    rintro D1 c pre W hD hpre h
    exact h.elim
end


set_option maxHeartbeats 2000000 in
theorem matApply_bad (U : Nat) (c0 : Bool) (n0 : Int) (hn : 0 ≤ n0 ∧ n0 < 1152921504606846976) (R1 C1 : Int) (a1 xo : Option Addr) (l1 p1 xl xc : Nat) (Z : Nat → Int) (hb : ¬ (okM R1 C1 l1 ∧ (xl : Int) = C1)) (w : World) (h : UC U c0 n0 w) :
    Calls Try.prog 29 #[.pointer (some ⟨U, 0, none⟩), .agg #[.int .i64 R1, .int .i64 C1, .slice a1 l1 p1], .slice xo xl xc] w fun e w' => ListP 0 Z 3 (fun w' => UC U c0 n0 w' ∧ Mk U w w') w e w' := by
  have hlt := Blk.lt h
  obtain ⟨G, s4, bu, ba, bx, bm⟩ := alloc4 w #[.pointer (some ⟨U, 0, none⟩)] 41 #[.int .i64 R1, .int .i64 C1, .slice a1 l1 p1] 24 #[.slice xo xl xc] 22 #[.int .i64 R1, .int .i64 C1, .slice a1 l1 p1] 24
  have hu := Blk.grown h G
  have lU : Hid (U < w.heap.size) := hlt
  have HB := hide (And.intro ba bx)
  have HG := hide G
  by_cases ho : okM R1 C1 l1
  · have RF := hide (refuse1 U c0 n0 ⟨hn.1, by omega⟩ R1 C1 a1 l1 p1 (w.heap.size + 1 + 1 + 1) 0 (Or.inl ⟨ho, rfl⟩) _ hu bm (by omega))
    have hne : ((xl : Int) != C1) = true := by simpa using (fun e => hb ⟨ho, e⟩)
    clear G s4 bu ba bx bm h hu hlt hb ho hn
    go_enter Try.func29, Try.ntmps29
    go_wp2_with fail
    generalize ((((w.alloc (.cells #[.pointer (some ⟨U, 0, none⟩)] 41)).alloc (.cells #[.int .i64 R1, .int .i64 C1, .slice a1 l1 p1] 24)).alloc (.cells #[.slice xo xl xc] 22)).alloc (.cells #[.int .i64 R1, .int .i64 C1, .slice a1 l1 p1] 24)) = w1 at *
    refine (unhide RF).mono ?_
    rintro e w2 ⟨rfl, u2, m2⟩
    have p1 : w2.cell? ⟨w.heap.size + 1, 1, none⟩ = some (.int .i64 C1) := Blk.cell (Blk.keep (unhide HB).1 m2 (by have := unhide lU; omega)) 1
    have q0 : w2.cell? ⟨w.heap.size + 1 + 1, 0, none⟩ = some (.slice xo xl xc) := Blk.cell (Blk.keep (unhide HB).2 m2 (by have := unhide lU; omega)) 0
    have R := hide (And.intro u2 (Mk.of ((Mod.of (unhide HG)).trans m2)))
    clear u2 m2 RF
    go_wp2
    go_ret2
    exact ⟨none, 0, w.heap.size, rfl, Nat.le_refl _, Or.inl rfl, Nat.le_refl _, unhide R⟩
  · have RF := hide (refuse1 U c0 n0 ⟨hn.1, by omega⟩ R1 C1 a1 l1 p1 (w.heap.size + 1 + 1 + 1) 3 (Or.inr ⟨ho, rfl⟩) _ hu bm (by omega))
    clear G s4 bu ba bx bm h hu hlt hb ho hn
    go_enter Try.func29, Try.ntmps29
    go_wp2_with fail
    generalize ((((w.alloc (.cells #[.pointer (some ⟨U, 0, none⟩)] 41)).alloc (.cells #[.int .i64 R1, .int .i64 C1, .slice a1 l1 p1] 24)).alloc (.cells #[.slice xo xl xc] 22)).alloc (.cells #[.int .i64 R1, .int .i64 C1, .slice a1 l1 p1] 24)) = w1 at *
    refine (unhide RF).mono ?_
    rintro e w2 ⟨rfl, u2, m2⟩
    have R := hide (And.intro u2 (Mk.of ((Mod.of (unhide HG)).trans m2)))
    clear u2 m2 RF
    go_wp2
    go_ret2
    exact ⟨none, 0, w.heap.size, rfl, Nat.le_refl _, Or.inl rfl, Nat.le_refl _, unhide R⟩

set_option maxHeartbeats 2000000 in
theorem matApply_none (p : Option Addr) (R1 C1 : Int) (a1 xo : Option Addr) (l1 p1 xl xc : Nat) (Z : Nat → Int) (w : World) (h : NU p w) :
    Calls Try.prog 29 #[.pointer p, .agg #[.int .i64 R1, .int .i64 C1, .slice a1 l1 p1], .slice xo xl xc] w fun e w' => ListP 0 Z 1 (Kp w) w e w' := by
  obtain ⟨G, s4, bu, ba, bx, bm⟩ := alloc4 w #[.pointer p] 41 #[.int .i64 R1, .int .i64 C1, .slice a1 l1 p1] 24 #[.slice xo xl xc] 22 #[.int .i64 R1, .int .i64 C1, .slice a1 l1 p1] 24
  have HG := hide G
  have RF := hide (fun s => refuseNone p s _ (h.grown G))
  clear G s4 bu ba bx bm h
  go_enter Try.func29, Try.ntmps29
  go_wp2_with fail
  generalize ((((w.alloc (.cells #[.pointer p] 41)).alloc (.cells #[.int .i64 R1, .int .i64 C1, .slice a1 l1 p1] 24)).alloc (.cells #[.slice xo xl xc] 22)).alloc (.cells #[.int .i64 R1, .int .i64 C1, .slice a1 l1 p1] 24)) = w1 at *
  refine (unhide RF _).mono ?_
  rintro e w2 ⟨rfl, rfl⟩
  clear RF
  go_wp2
  go_ret2
  exact ⟨none, 0, w.heap.size, rfl, Nat.le_refl _, Or.inl rfl, Nat.le_refl _, Kp.of (unhide HG)⟩


end Go.Proofs.Ytcobicnpdmgnjaa
