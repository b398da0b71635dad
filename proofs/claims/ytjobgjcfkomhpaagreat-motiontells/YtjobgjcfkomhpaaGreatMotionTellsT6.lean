/- PolyK2 MoK0 MoK1, one after another, as far as MotionTells wants them. -/
import Derived.Test.YtjobgjcfkomhpaaGreatProg
import Derived.Test.YtjobgjcfkomhpaaGreatRows
import Derived.Test.YtjobgjcfkomhpaaGreatMotionTellsT5
set_option linter.unusedVariables false
set_option linter.unusedSimpArgs false
namespace Go.Proofs.YtjobgjcfkomhpaaGreat
open Go.RowKit Go.Shelf Go.Proofs.Wd
set_option maxRecDepth 10000
attribute [local go_sem ↓] Go.wp_at_zero Go.wp_at_succ
theorem rowCongr {w : World} {ao : Option Addr} {len : Nat} {Z Y : Nat → Int} (h : Row w ao len Z) (e : ∀ i, i < len → Z i = Y i) : Row w ao len Y := by
 rcases h with h | ⟨b, o, rfl, hc⟩
 ·exact Or.inl h
 ·exact Or.inr ⟨b, o, rfl, fun i hi => by rw [hc i hi, e i hi]⟩
section
variable {w wx w' : World} {es pre post fs : List Ob} {U : Nat} {P : Bool → Prop} {d : Int}
theorem ST.unit (pre : List Ob) (h : ST w (pre ++ ([U], UO U P d) :: post) fs wx) : ∃ c n, P c ∧ 0 ≤ n ∧ n ≤ d ∧ UC U c n wx := h.ob (c := ([U], UO U P d)) (by simp)
theorem ST.value {r c err : Int} {len : Nat} {Z : Nat → Int} {e : Ending} {g : Bool} {n0 d' : Int} (pre : List Ob) (h : ST w (pre ++ ([U], UO U P d) :: post) fs wx) (hn0 : 0 ≤ n0 ∧ n0 ≤ d) (hP : P g) (hv : ValP r c len Z err (fun w' => UW U g n0 d' w' ∧ Mk U wx w') wx e w') :
  ∃ ao cap, e = .returned (.tuple #[.agg #[.int .i64 r, .int .i64 c, .slice ao len cap], .int .i64 err]) ∧ len ≤ cap ∧ ST w (pre ++ ([U], UO U P (d + d')) :: post) (fRow ao len Z :: fs) w' := by
 obtain ⟨ao, cap, B, rfl, h1, h2, h3, ⟨cnt, q1, q2, hu⟩, hm⟩ := hv
 refine ⟨ao, cap, rfl, h1, h.tellU pre (MkL.one hm) ⟨_, cnt, hP, by omega, by omega, hu⟩ (uo_dep _ _ _) (by simp) (q := fun w => Row w ao len Z) (h3.elim Or.inl fun h => by rw [h.1]; exact h.2.row) (row_depL _ _ _) (fun q hq => ?_)⟩
 rcases h3 with h3 | ⟨rfl, h3⟩
 ·unfold rowD at hq
  rw [if_pos h3] at hq
  exact absurd hq List.not_mem_nil
 ·unfold rowD at hq
  split at hq
  ·exact absurd hq List.not_mem_nil
  ·simp at hq
   subst hq
   exact ⟨h2, h3.lt⟩
end
end Go.Proofs.YtjobgjcfkomhpaaGreat
namespace Go.Proofs.YtjobgjcfkomhpaaGreat
open Go.RowKit Go.Shelf Go.Proofs.Wd
set_option maxRecDepth 10000
set_option maxRecDepth 20000 in
set_option maxHeartbeats 4000000 in
theorem lawSquare (ao : Option Addr) (n cap : Nat) (L : Nat → Int) (h1n : 1 ≤ n) (hn : n ≤ 1000000) (hL : Hid (∀ i, i < n → -1000000 ≤ L i ∧ L i ≤ 1000000)) (w : World) (hr : Row w ao n L) :
  Calls Tryz.prog 25 #[.slice ao n cap] w fun e w' => OwnM 2 n (fun i => L i * 4294967296) w e w' := by
 obtain ⟨Z, hZ⟩ : ∃ Z, Z = fun i => L i * 4294967296 := ⟨_, rfl⟩
 rw [← hZ]
 have EZ : Hid (∀ i, Z i = L i * 4294967296) := fun i => by rw [hZ]
 have G : Grown w ((w.alloc (.cells #[.int .i64 0, .int .i64 0, .slice none 0 0] 38)).alloc (.cells #[.int .i64 2, .int .i64 2, .slice none 0 0] 38)) := ((Grown.refl _).alloc _ _).alloc _ _
 have ST : Hid (OfI w 2 2 Z 0 (.slice none 0 0) ((w.alloc (.cells #[.int .i64 0, .int .i64 0, .slice none 0 0] 38)).alloc (.cells #[.int .i64 2, .int .i64 2, .slice none 0 0] 38))) :=
  ⟨World.ownsRow_nil _ _ _ _, Blk.grown (Blk.new w _ _) ((Grown.refl _).alloc _ _), blk_new2 w _ _ _, Kp.of G, by simp⟩
 have HR := hide hr
 clear hZ G hr
 go_enter Tryz.func25, Tryz.ntmps25
 go_wp2_with fail
 generalize (w.alloc (.cells #[.int .i64 0, .int .i64 0, .slice none 0 0] 38)).alloc (.cells #[.int .i64 2, .int .i64 2, .slice none 0 0] 38) = w1 at *
 go_loopw [4] (fun i wr => ∃ k : Nat, k ≤ n ∧ i = .int .i64 k ∧ Hid (∃ v, OfI w 2 2 Z k v wr)) (fun i _ => n - (intOf i).toNat)
 case atStart => exact ⟨0, Nat.zero_le _, rfl, _, unhide ST⟩
 case round =>
  obtain ⟨k, hk, rfl, HI⟩ := hrel
  by_cases hlt : k < n
  ·obtain ⟨v, hI⟩ := unhide HI
   obtain ⟨b, o, rfl, hc0⟩ := ((unhide HR).kp hI.2.2.2.1).at hlt
   obtain ⟨x, ex⟩ : ∃ x, L k = x := ⟨_, rfl⟩
   rw [ex] at hc0
   have xb := unhide hL k hlt
   rw [ex] at xb
   have EK : Hid (Z k = x * 4294967296) := by rw [← ex]; exact unhide EZ k
   have wx : IntKind.i64.wrap (x * 4294967296) = x * 4294967296 := by rw [IntKind.wrap_i64]; omega
   have y2 : wr.cell? ⟨w.heap.size + 1, 2, none⟩ = some v := Blk.cell hI.2.2.1 2
   have GA : Hid (Grown wr.drew (wr.drew.alloc (.cells #[.int .i64 (x * 4294967296)] 3))) := (Grown.refl _).alloc _ _
   have A2 : Hid ((wr.drew.alloc (.cells #[.int .i64 (x * 4294967296)] 3)).ownsRow (w.heap.size + 1 + 1) 3 1 v k (intL k Z) ∧ (wr.drew.alloc (.cells #[.int .i64 (x * 4294967296)] 3)).cell? ⟨wr.heap.size, 0, none⟩ = some (.int .i64 (x * 4294967296)) ∧ w.heap.size + 1 + 1 ≤ (wr.drew.alloc (.cells #[.int .i64 (x * 4294967296)] 3)).heap.size) := by
    refine ⟨(show wr.drew.ownsRow _ _ _ _ _ _ from hI.1).alloc _, Blk.cell (Blk.new wr.drew _ _) 0, ?_⟩
    have := hI.2.2.2.2
    simp
    omega
   have HH : Hid (OfI w 2 2 Z k v wr.drew) := hI
   have hk1 : k ≤ 1000000 := by omega
   have i0 : (0 : Int) ≤ (k : Int) := by omega
   have i1 : (k : Int) < (n : Int) := by omega
   have hz1 : b < wr.heap.size := heap_gt hc0
   have hz2 : w.heap.size + 1 < wr.heap.size := heap_gt y2
   have hz3 : b ≠ w.heap.size + 1 ∨ True := Or.inr trivial
   clear hI HI ex xb hz3
   go_wp2
   go_region_law (refine step_append_one rfl (.tmp 13) (.tmp 19) rfl (w.heap.size + 1 + 1) k v Z (x * 4294967296) (unhide EK) wr.heap.size (by first | rfl | simp [Act.eval, Act.put]) (by first | rfl | simp [Act.eval, Act.put]) (unhide A2).1 (unhide A2).2.1 hk1 (unhide A2).2.2 ?_; intro v' w4 hg4; obtain ⟨g', cap', rfl⟩ := ownsRow_succ (unhide hg4).1; have P := OfI.app (unhide HH) (unhide GA) (unhide A2).1 (unhide hg4); have q2 : w4.cell? ⟨w.heap.size + 1, 2, none⟩ = some v := (Blk.cell P.1 2); have q3 := Blk.free P.1 2; have HP := hide P.2; clear P hg4)
   all_goals go_wp2
   all_goals go_roundw
   all_goals first | exact ⟨k + 1, by omega, by go_num, _, unhide HP⟩ | (simp [intOf]; omega)
  ·obtain rfl : k = n := by omega
   obtain ⟨v, h0, h2, hM, h5, h6⟩ := unhide HI
   obtain ⟨B2, cap2, rfl, h1, h3, h4⟩ := owns_ownC h1n h0
   have y0 : wr.cell? ⟨w.heap.size + 1, 0, none⟩ = some (.int .i64 2) := Blk.cell hM 0
   have y1 : wr.cell? ⟨w.heap.size + 1, 1, none⟩ = some (.int .i64 2) := Blk.cell hM 1
   have y2 : wr.cell? ⟨w.heap.size + 1, 2, none⟩ = some (.slice (some ⟨B2, 0, none⟩) k cap2) := Blk.cell hM 2
   have e0 : wr.cell? ⟨w.heap.size, 0, none⟩ = some (.int .i64 0) := Blk.cell h2 0
   have e1 : wr.cell? ⟨w.heap.size, 1, none⟩ = some (.int .i64 0) := Blk.cell h2 1
   have e2 : wr.cell? ⟨w.heap.size, 2, none⟩ = some (.slice none 0 0) := Blk.cell h2 2
   have f := Blk.free h2
   have R := hide (And.intro h2 (And.intro h1 (And.intro h3 (And.intro h4 h5))))
   clear h0 h2 hM h1 h3 h4 h5 h6 HI
   go_wp2
   obtain ⟨h2, h1, h3, h4, h5⟩ := unhide R
   have P := putM h2 (.int .i64 2) (.int .i64 2) (.slice (some ⟨B2, 0, none⟩) k cap2)
   generalize (((wr.setCell ⟨w.heap.size, 0, none⟩ (.int .i64 2)).setCell ⟨w.heap.size, 1, none⟩ (.int .i64 2)).setCell ⟨w.heap.size, 2, none⟩ (.slice (some ⟨B2, 0, none⟩) k cap2)) = wE at *
   have c0 : wE.cell? ⟨w.heap.size, 0, none⟩ = some (.int .i64 2) := Blk.cell P.1 0
   have c1 : wE.cell? ⟨w.heap.size, 1, none⟩ = some (.int .i64 2) := Blk.cell P.1 1
   have c2 : wE.cell? ⟨w.heap.size, 2, none⟩ = some (.slice (some ⟨B2, 0, none⟩) k cap2) := Blk.cell P.1 2
   refine bodyPost_ret (v := .agg #[.int .i64 2, .int .i64 2, .slice (some ⟨B2, 0, none⟩) k cap2]) (by simp [results, Tryz.results25, go_sem, c0, c1, c2]) rfl ?_
   exact ⟨B2, cap2, rfl, h1, by omega, h4.mk (Mk.of P.2) (by omega), h5.mod P.2 (Nat.le_refl _)⟩
theorem lawSquareL (l : List Int) (n : Nat) (hl : l.length = n) (h1 : 1 ≤ n) (hn : n ≤ 1000000) (h : ∀ x ∈ l, -1000000 ≤ x ∧ x ≤ 1000000) (b cap : Nat) (w : World) (hb : Blk b (l.map (Value.int .i64)).toArray 3 w) :
  Calls Tryz.prog 25 #[.slice (some ⟨b, 0, none⟩) n cap] w fun e w' => OwnM 2 n (oneL l) w e w' := by
 subst hl
 exact lawSquare _ _ cap (ix l) h1 hn (lits_small h) w (row_lit hb)
def twoQ (q g : Int) : Nat → Int := fun i => if i = 0 then q * 4294967296 else g * 4294967296
def mV (a q g : Int) (ba bq : Nat) : DV := ⟨2, ⟨some ⟨ba, 0, none⟩, 4, 4, WZ (moA a)⟩, ⟨some ⟨bq, 0, none⟩, 2, 2, twoQ q g⟩, 4294967296, 1, 1, none, 0, 0, fun _ => ⟨0, ⟨none, 0, 0, fun _ => 0⟩, 0⟩⟩
def twoAC (a : Int) : Array Value := #[.int .i64 0, .int .i64 (a * 4294967296), .int .i64 0, .int .i64 0]
def twoQC (q g : Int) : Array Value := #[.int .i64 (q * 4294967296), .int .i64 (g * 4294967296)]
def smallT (a q g : Int) : Prop := (-16 ≤ a ∧ a ≤ 16) ∧ (0 ≤ q ∧ q ≤ 16) ∧ (0 ≤ g ∧ g ≤ 16)
theorem mV_good {a q g : Int} {ba bq : Nat} (hs : smallT a q g) {W : World} (hA : Blk ba (twoAC a) 3 W) (hQ : Blk bq (twoQC q g) 3 W) : (mV a q g ba bq).good W := by
 obtain ⟨h1, h2, h3⟩ := hs
 refine ⟨⟨Or.inr ⟨ba, 0, rfl, fun i hi => ?_⟩, ⟨Nat.le_refl _, fun e => by cases e⟩, fun i hi => ?_⟩, ⟨Or.inr ⟨bq, 0, rfl, fun i hi => ?_⟩, ⟨Nat.le_refl _, fun e => by cases e⟩, fun i hi => ?_⟩, Or.inl rfl, fun i hi => absurd hi (Nat.not_lt_zero i), ⟨Nat.le_refl _, fun _ => ⟨rfl, rfl⟩⟩, ⟨by show I64 2; unfold I64; omega, by show I64 4294967296; unfold I64; omega, by show I64 1; unfold I64; omega, by show I64 1; unfold I64; omega⟩, by show 4 ≤ 40; omega, by show 2 ≤ 12; omega, by show 0 ≤ 30; omega, fun i hi => absurd hi (Nat.not_lt_zero i)⟩
 ·have hi : i < 4 := hi
  rw [Nat.zero_add, Blk.cell hA]
  rcases four hi with rfl | rfl | rfl | rfl <;> simp [twoAC, mV, WZ, moA]
 ·have hi : i < 4 := hi
  show I64 (WZ (moA a) i)
  rcases four hi with rfl | rfl | rfl | rfl <;> (simp only [WZ, moA]; unfold I64; omega)
 ·have hi : i < 2 := hi
  rw [Nat.zero_add, Blk.cell hQ]
  rcases (show i = 0 ∨ i = 1 by omega) with rfl | rfl <;> simp [twoQC, mV, twoQ]
 ·have hi : i < 2 := hi
  show I64 (twoQ q g i)
  rcases (show i = 0 ∨ i = 1 by omega) with rfl | rfl <;> (simp only [twoQ]; unfold I64; omega)
theorem mV_okD {a q g : Int} {ba bq : Nat} (hs : smallT a q g) : okD (mV a q g ba bq) := by
 obtain ⟨h1, h2, h3⟩ := hs
 refine ⟨⟨by show (1 : Int) ≤ 2; omega, by show (2 : Int) ≤ 6; omega⟩, ⟨rfl, rfl, fun i hi => ?_⟩, ⟨by show (1 : Int) ≤ 4294967296; omega, by show (4294967296 : Int) ≤ 4294967296; omega⟩, by show (1 : Int) ≤ 1; omega, by show (1 : Int) ≤ 1; omega, by show 0 ≤ 24; omega, fun i hi => absurd hi (Nat.not_lt_zero i)⟩
 have hi : i < 2 := hi
 have fz : farP 0 := by unfold farP; decide
 have fa : farP (a * 4294967296) := by unfold farP; omega
 rcases (show i = 0 ∨ i = 1 by omega) with rfl | rfl
 ·refine ⟨by show 0 ≤ q * 4294967296 ∧ q * 4294967296 ≤ 68719476736; omega, fun k hk => ?_⟩
  have hk : k < 2 := hk
  rcases (show k = 0 ∨ k = 1 by omega) with rfl | rfl
  ·exact ⟨by show farP (0 * 4294967296); exact fz, fun _ => by show (0 : Int) * 4294967296 = 0; omega⟩
  ·exact ⟨by show farP (a * 4294967296); exact fa, fun h => absurd h (by decide)⟩
 ·refine ⟨by show 0 ≤ g * 4294967296 ∧ g * 4294967296 ≤ 68719476736; omega, fun k hk => ?_⟩
  have hk : k < 2 := hk
  rcases (show k = 0 ∨ k = 1 by omega) with rfl | rfl
  ·exact ⟨by show farP (0 * 4294967296); exact fz, fun _ => by show (0 : Int) * 4294967296 = 0; omega⟩
  ·exact ⟨by show farP (0 * 4294967296); exact fz, fun _ => by show (0 : Int) * 4294967296 = 0; omega⟩
def TwoM (a q g : Int) (w : World) (e : Ending) (w' : World) : Prop := ∃ ba bq, e = .returned (.agg (mV a q g ba bq).cells) ∧ (Blk ba (twoAC a) 3 w' ∧ Blk bq (twoQC q g) 3 w') ∧ (w.heap.size ≤ ba ∧ w.heap.size ≤ bq) ∧ Kp w w'
def fTwo (a q g : Int) (ba bq : Nat) : Ob := ([ba, bq], fun w => Blk ba (twoAC a) 3 w ∧ Blk bq (twoQC q g) 3 w)
theorem two_dep (a q g : Int) (ba bq : Nat) : DepL [ba, bq] (fun w => Blk ba (twoAC a) 3 w ∧ Blk bq (twoQC q g) 3 w) := fun w w' h k => ⟨(h ba (by simp)).trans k.1, (h bq (by simp)).trans k.2⟩
theorem ST.two {w wx w' : World} {es fs : List Ob} {a q g : Int} {e : Ending} (h : ST w es fs wx) (hv : TwoM a q g wx e w') : ∃ ba bq, e = .returned (.agg (mV a q g ba bq).cells) ∧ ST w es (fTwo a q g ba bq :: fs) w' := by
 obtain ⟨ba, bq, rfl, h1, h2, k⟩ := hv
 exact ⟨ba, bq, rfl, h.tell k h1 (two_dep _ _ _ _ _) (fun q hq => by
  simp at hq
  rcases hq with rfl | rfl
  ·exact ⟨h2.1, Blk.lt h1.1⟩
  ·exact ⟨h2.2, Blk.lt h1.2⟩)⟩
set_option maxRecDepth 20000 in
set_option maxHeartbeats 2000000 in
theorem lawTwo11 (a q g : Int) (hs : smallT a q g) (w : World) : Calls Tryz.prog 24 #[.int .i64 a, .int .i64 q, .int .i64 g] w fun e w' => TwoM a q g w e w' := by
 obtain ⟨h1, h2, h3⟩ := hs
 have w1 : wrap64 (a * 4294967296) = a * 4294967296 := by unfold wrap64; omega
 have w2 : wrap64 (q * 4294967296) = q * 4294967296 := by unfold wrap64; omega
 have w3 : wrap64 (g * 4294967296) = g * 4294967296 := by unfold wrap64; omega
 have x1 : IntKind.i64.wrap (a * 4294967296) = a * 4294967296 := by rw [IntKind.wrap_i64]; omega
 have x2 : IntKind.i64.wrap (q * 4294967296) = q * 4294967296 := by rw [IntKind.wrap_i64]; omega
 have x3 : IntKind.i64.wrap (g * 4294967296) = g * 4294967296 := by rw [IntKind.wrap_i64]; omega
 clear h1 h2 h3
 go_enter Tryz.func24, Tryz.ntmps24
 go_wp2
 have B : Blk w.heap.size #[.int .i64 2, .slice (some ⟨w.heap.size + 1, 0, none⟩) 4 4, .slice (some ⟨w.heap.size + 1 + 1, 0, none⟩) 2 2, .int .i64 4294967296, .int .i64 1, .int .i64 1, .slice none 0 0] 25 (((w.alloc (.cells #[.int .i64 2, .slice (some ⟨w.heap.size + 1, 0, none⟩) 4 4, .slice (some ⟨w.heap.size + 1 + 1, 0, none⟩) 2 2, .int .i64 4294967296, .int .i64 1, .int .i64 1, .slice none 0 0] 25)).alloc (.cells (twoAC a) 3)).alloc (.cells (twoQC q g) 3)) ∧ Blk (w.heap.size + 1) (twoAC a) 3 (((w.alloc (.cells #[.int .i64 2, .slice (some ⟨w.heap.size + 1, 0, none⟩) 4 4, .slice (some ⟨w.heap.size + 1 + 1, 0, none⟩) 2 2, .int .i64 4294967296, .int .i64 1, .int .i64 1, .slice none 0 0] 25)).alloc (.cells (twoAC a) 3)).alloc (.cells (twoQC q g) 3)) ∧ Blk (w.heap.size + 1 + 1) (twoQC q g) 3 (((w.alloc (.cells #[.int .i64 2, .slice (some ⟨w.heap.size + 1, 0, none⟩) 4 4, .slice (some ⟨w.heap.size + 1 + 1, 0, none⟩) 2 2, .int .i64 4294967296, .int .i64 1, .int .i64 1, .slice none 0 0] 25)).alloc (.cells (twoAC a) 3)).alloc (.cells (twoQC q g) 3)) ∧ Grown w (((w.alloc (.cells #[.int .i64 2, .slice (some ⟨w.heap.size + 1, 0, none⟩) 4 4, .slice (some ⟨w.heap.size + 1 + 1, 0, none⟩) 2 2, .int .i64 4294967296, .int .i64 1, .int .i64 1, .slice none 0 0] 25)).alloc (.cells (twoAC a) 3)).alloc (.cells (twoQC q g) 3)) := by
  refine ⟨Blk.grown (Blk.grown (Blk.new w _ _) ((Grown.refl _).alloc _ _)) ((Grown.refl _).alloc _ _), Blk.grown (blk_new2 w _ _ _) ((Grown.refl _).alloc _ _), ?_, (((Grown.refl _).alloc _ _).alloc _ _).alloc _ _⟩
  have := Blk.new ((w.alloc (.cells #[.int .i64 2, .slice (some ⟨w.heap.size + 1, 0, none⟩) 4 4, .slice (some ⟨w.heap.size + 1 + 1, 0, none⟩) 2 2, .int .i64 4294967296, .int .i64 1, .int .i64 1, .slice none 0 0] 25)).alloc (.cells (twoAC a) 3)) (twoQC q g) 3
  simp only [World.size_alloc] at this
  exact this
 unfold twoAC twoQC at B
 generalize (((w.alloc (.cells #[.int .i64 2, .slice (some ⟨w.heap.size + 1, 0, none⟩) 4 4, .slice (some ⟨w.heap.size + 1 + 1, 0, none⟩) 2 2, .int .i64 4294967296, .int .i64 1, .int .i64 1, .slice none 0 0] 25)).alloc (.cells #[.int .i64 0, .int .i64 (a * 4294967296), .int .i64 0, .int .i64 0] 3)).alloc (.cells #[.int .i64 (q * 4294967296), .int .i64 (g * 4294967296)] 3)) = wE at *
 obtain ⟨bm, bA, bQ, gr⟩ := B
 have c0 : wE.cell? ⟨w.heap.size, 0, none⟩ = some (.int .i64 2) := Blk.cell bm 0
 have c1 : wE.cell? ⟨w.heap.size, 1, none⟩ = some (.slice (some ⟨w.heap.size + 1, 0, none⟩) 4 4) := Blk.cell bm 1
 have c2 : wE.cell? ⟨w.heap.size, 2, none⟩ = some (.slice (some ⟨w.heap.size + 1 + 1, 0, none⟩) 2 2) := Blk.cell bm 2
 have c3 : wE.cell? ⟨w.heap.size, 3, none⟩ = some (.int .i64 4294967296) := Blk.cell bm 3
 have c4 : wE.cell? ⟨w.heap.size, 4, none⟩ = some (.int .i64 1) := Blk.cell bm 4
 have c5 : wE.cell? ⟨w.heap.size, 5, none⟩ = some (.int .i64 1) := Blk.cell bm 5
 have c6 : wE.cell? ⟨w.heap.size, 6, none⟩ = some (.slice none 0 0) := Blk.cell bm 6
 refine bodyPost_ret (v := .agg #[.int .i64 2, .slice (some ⟨w.heap.size + 1, 0, none⟩) 4 4, .slice (some ⟨w.heap.size + 1 + 1, 0, none⟩) 2 2, .int .i64 4294967296, .int .i64 1, .int .i64 1, .slice none 0 0]) (by simp [results, Tryz.results24, go_sem, c0, c1, c2, c3, c4, c5, c6]) rfl ?_
 exact ⟨w.heap.size + 1, w.heap.size + 1 + 1, rfl, ⟨bA, bQ⟩, ⟨by omega, by omega⟩, Kp.of gr⟩
theorem twFlow (U : Nat) (c0 : Bool) (n0 : Int) (hn0 : 0 ≤ n0 ∧ n0 < 10000000000000000) (a q g : Int) (ba bq : Nat) (hs : smallT a q g) (ticks t : Int) (ht : -1099511627776 ≤ ticks ∧ ticks ≤ 1099511627776) (et : spanZ ticks 4294967296 = t) (w : World) (h : UC U c0 n0 w) (hb : Blk ba (twoAC a) 3 w ∧ Blk bq (twoQC q g) 3 w) :
  Calls Tryz.prog 15 #[.pointer (some ⟨U, 0, none⟩), .agg (mV a q g ba bq).cells, .int .i64 ticks] w fun e w' => ValP 2 2 4 (flowZ (WZ (moA a)) 2 t) 0 (fun w' => UW U (c0 || spanC ticks 4294967296 || flowC (WZ (moA a)) 2 t) n0 300000 w' ∧ Mk U w w') w e w' := by
 have n1 : ba ≠ U := blk_ne hb.1 h (by decide +kernel)
 have n2 : bq ≠ U := blk_ne hb.2 h (by decide +kernel)
 subst et
 exact moFlow_ok U c0 n0 hn0 (mV a q g ba bq) 2 rfl ticks (by unfold I64; omega) w (fun W k => mV_good hs (Blk.mk hb.1 k n1) (Blk.mk hb.2 k n2)) (off_blk n1) (rfL_time (mV_okD hs) ht) h
theorem twNoise (U : Nat) (c0 : Bool) (n0 : Int) (hn0 : 0 ≤ n0 ∧ n0 < 10000000000000000) (a q g : Int) (ba bq : Nat) (hs : smallT a q g) (ticks t : Int) (ht : 0 ≤ ticks ∧ ticks ≤ 1099511627776) (et : spanZ ticks 4294967296 = t) (w : World) (h : UC U c0 n0 w) (hb : Blk ba (twoAC a) 3 w ∧ Blk bq (twoQC q g) 3 w) :
  Calls Tryz.prog 17 #[.pointer (some ⟨U, 0, none⟩), .agg (mV a q g ba bq).cells, .int .i64 ticks] w fun e w' => ValP 2 2 4 (noiseZ (WZ (moA a)) (twoQ q g) 2 t) 0 (fun w' => UW U (c0 || spanC ticks 4294967296 || noiseC (WZ (moA a)) (twoQ q g) 2 t) n0 300000 w' ∧ Mk U w w') w e w' := by
 have n1 : ba ≠ U := blk_ne hb.1 h (by decide +kernel)
 have n2 : bq ≠ U := blk_ne hb.2 h (by decide +kernel)
 subst et
 exact moNoise_ok U c0 n0 hn0 (mV a q g ba bq) 2 rfl ticks (by unfold I64; omega) w (fun W k => mV_good hs (Blk.mk hb.1 k n1) (Blk.mk hb.2 k n2)) (off_blk n1) (off_blk n2) (rfL_time (mV_okD hs) ht) h
end Go.Proofs.YtjobgjcfkomhpaaGreat
namespace Go.Proofs.YtjobgjcfkomhpaaGreat
open Go.RowKit Go.Shelf Go.Proofs.Wd
set_option maxRecDepth 10000
attribute [local go_sem ↓] Go.wp_at_zero Go.wp_at_succ
theorem sp_two : spanZ 2 4294967296 = 8589934592 := by decide +kernel
theorem tw_flow : ∀ i, i < 4 → flowZ (WZ (moA 1)) 2 8589934592 i = oneL [1, 2, 0, 1] i := by decide +kernel
theorem tw_noise : ∀ i, i < 4 → noiseZ (WZ (moA 1)) (twoQ 0 3) 2 8589934592 i = oneL [8, 6, 6, 6] i := by decide +kernel
theorem small103 : smallT 1 0 3 := ⟨⟨by omega, by omega⟩, ⟨by omega, by omega⟩, by omega, by omega⟩
set_option maxRecDepth 50000 in
set_option maxHeartbeats 8000000 in
theorem lawAwake11 (w : World) : Calls Tryz.prog 11 #[] w fun e w' => e = .returned (.bool true) ∧ Kp w w' := by
 have N1 := hide (unitNew w)
 go_enter Tryz.func11, Tryz.ntmps11
 go_wp2_with fail
 refine (unhide N1).mono ?_
 rintro e w1 ⟨rfl, u1, g1⟩
 have S1 : Hid (ST w [([w.heap.size], UO w.heap.size (fun _ => True) 0)] [] w1) := (ST.nil w).push (Kp.of g1) ⟨false, 0, trivial, by omega, by omega, u1⟩ (uo_dep _ _ _) (by simp) (fun q hq => by simp at hq; subst hq; exact ⟨Nat.le_refl _, Blk.lt u1⟩)
 obtain ⟨U, hU⟩ : ∃ U, w.heap.size = U := ⟨_, rfl⟩
 rw [hU] at S1
 rw [hU]
 clear u1 g1 N1 hU
 go_wp2_with fail
 refine (lawTwo11 1 0 3 small103 w1).mono ?_
 intro e w2 hv
 obtain ⟨ba, bq, rfl, S2⟩ := (unhide S1).two hv
 have S2 := hide S2
 obtain ⟨c0, n0, _, q1, q2, hu⟩ := (unhide S2).unit []
 have F2 := hide (twFlow U c0 n0 ⟨q1, by omega⟩ 1 0 3 ba bq small103 2 8589934592 (by omega) sp_two w2 hu ((unhide S2).get (f := fTwo 1 0 3 ba bq) (by simp)))
 have HQ := hide (And.intro q1 q2)
 clear hv S1 hu q1 q2
 unfold DV.cells mV at F2
 unfold DV.cells mV
 go_wp2_with fail
 refine (unhide F2).mono ?_
 intro e w3 hv
 obtain ⟨af, cf, rfl, _, S3⟩ := (unhide S2).value [] (unhide HQ) trivial hv
 have S3 := hide (S3.box #[.int .i64 2, .int .i64 2, .slice af 4 cf] 38)
 clear hv S2 F2 HQ
 go_wp2_with fail
 generalize w3.alloc (.cells #[.int .i64 2, .int .i64 2, .slice af 4 cf] 38) = w4 at *
 generalize w3.heap.size = Fx at *
 refine (lawTwo11 1 0 3 small103 w4).mono ?_
 intro e w5 hv
 obtain ⟨b2, q2', rfl, S5⟩ := (unhide S3).two hv
 have S5 := hide S5
 obtain ⟨c1, n1, _, q1, q2, hu⟩ := (unhide S5).unit []
 have F5 := hide (twNoise U c1 n1 ⟨q1, by omega⟩ 1 0 3 b2 q2' small103 2 8589934592 (by omega) sp_two w5 hu ((unhide S5).get (f := fTwo 1 0 3 b2 q2') (by simp)))
 have HQ := hide (And.intro q1 q2)
 clear hv S3 hu q1 q2
 unfold DV.cells mV at F5
 unfold DV.cells mV
 go_wp2_with fail
 refine (unhide F5).mono ?_
 intro e w6 hv
 obtain ⟨an, cn, rfl, _, S6⟩ := (unhide S5).value [] (unhide HQ) trivial hv
 have S6 := hide (S6.box #[.int .i64 2, .int .i64 2, .slice an 4 cn] 38)
 clear hv S5 F5 HQ
 go_wp2_with fail
 generalize w6.alloc (.cells #[.int .i64 2, .int .i64 2, .slice an 4 cn] 38) = w7 at *
 generalize w6.heap.size = Nx at *
 have CW : Hid (∀ wx, Kp w7 wx → wx.cell? ⟨Fx, 0, none⟩ = some (.int .i64 2) ∧ wx.cell? ⟨Fx, 1, none⟩ = some (.int .i64 2) ∧ wx.cell? ⟨Fx, 2, none⟩ = some (.slice af 4 cf) ∧ wx.cell? ⟨Nx, 0, none⟩ = some (.int .i64 2) ∧ wx.cell? ⟨Nx, 1, none⟩ = some (.int .i64 2) ∧ wx.cell? ⟨Nx, 2, none⟩ = some (.slice an 4 cn)) := fun wx k => by
  have S := (unhide S6).kp k
  obtain ⟨e0, e1, e2⟩ := S.cells (b := Fx) (x := .int .i64 2) (y := .int .i64 2) (z := .slice af 4 cf) (T := 38) (by simp)
  obtain ⟨h0, h1, h2⟩ := S.cells (b := Nx) (x := .int .i64 2) (y := .int .i64 2) (z := .slice an 4 cn) (T := 38) (by simp)
  exact ⟨e0, e1, e2, h0, h1, h2⟩
 have RW : Hid (∀ wx, Kp w7 wx → Row wx af 4 (oneL [1, 2, 0, 1]) ∧ Row wx an 4 (oneL [8, 6, 6, 6])) := fun wx k => by
  have S := (unhide S6).kp k
  exact ⟨rowCongr (S.get (f := fRow af 4 (flowZ (WZ (moA 1)) 2 8589934592)) (by simp)) tw_flow, rowCongr (S.get (f := fRow an 4 (noiseZ (WZ (moA 1)) (twoQ 0 3) 2 8589934592)) (by simp)) tw_noise⟩
 have KW : Hid (Kp w w7) := (unhide S6).keep
 clear S6
 obtain ⟨x0, x1, x2, x3, x4, x5⟩ := unhide CW w7 (Kp.refl _)
 have hxa := heap_gt x0
 have hxb := heap_gt x3
 have KD : Hid (Kp w7 (w7.alloc (.cells #[.int .i64 1, .int .i64 2, .int .i64 0, .int .i64 1] 3)).drew) := (show Kp w7 (w7.alloc (.cells #[.int .i64 1, .int .i64 2, .int .i64 0, .int .i64 1] 3)) from (Kp.refl _).alloc _ _)
 have T1 : Hid (Calls Tryz.prog 25 #[.slice (some ⟨w7.heap.size, 0, none⟩) 4 4] (w7.alloc (.cells #[.int .i64 1, .int .i64 2, .int .i64 0, .int .i64 1] 3)).drew fun e w' => OwnM 2 4 (oneL [1, 2, 0, 1]) (w7.alloc (.cells #[.int .i64 1, .int .i64 2, .int .i64 0, .int .i64 1] 3)).drew e w') := lawSquareL [1, 2, 0, 1] 4 rfl (by omega) (by omega) (by decide) w7.heap.size 4 _ (show Blk w7.heap.size #[.int .i64 1, .int .i64 2, .int .i64 0, .int .i64 1] 3 (w7.alloc (.cells #[.int .i64 1, .int .i64 2, .int .i64 0, .int .i64 1] 3)).drew from Blk.new w7 _ _)
 go_region_held3 (fun w' => w'.cell? ⟨Fx, 0, none⟩ = some (.int .i64 2) ∧ w'.cell? ⟨Fx, 1, none⟩ = some (.int .i64 2) ∧ w'.cell? ⟨Fx, 2, none⟩ = some (.slice af 4 cf) ∧ w'.cell? ⟨Nx, 0, none⟩ = some (.int .i64 2) ∧ w'.cell? ⟨Nx, 1, none⟩ = some (.int .i64 2) ∧ w'.cell? ⟨Nx, 2, none⟩ = some (.slice an 4 cn))
   (simp [go_sem, *])
   (first
    | (go_at_call 25; refine (unhide T1).mono ?_; clear T1; rintro e w8 ⟨B8, c8, rfl, _, _, own8, k8⟩; have K8 : Hid (Kp w7 w8) := ((unhide KD).trans k8); have R8 := hide own8.row; obtain ⟨y0, y1, y2, y3, y4, y5⟩ := unhide CW w8 (unhide K8); have hya := heap_gt y0; have hyb := heap_gt y3; clear own8 k8 KD)
    | (go_at_call_of 19 cf; refine (kitSameM 2 2 af (some ⟨B8, 0, none⟩) 4 cf c8 (oneL [1, 2, 0, 1]) (by omega) _ (unhide RW _ (unhide K8)).1 (unhide R8)).mono ?_; clear R8; rintro e w9 ⟨rfl, k9⟩; have K9 : Hid (Kp w7 w9) := ((unhide K8).trans k9); obtain ⟨z0, z1, z2, z3, z4, z5⟩ := unhide CW w9 (unhide K9); have hza := heap_gt z0; have hzb := heap_gt z3; have KE : Hid (Kp w7 (w9.alloc (.cells #[.int .i64 8, .int .i64 6, .int .i64 6, .int .i64 6] 3))) := ((unhide K9).alloc _ _); have O9 := hide (lawSquareL [8, 6, 6, 6] 4 rfl (by omega) (by omega) (by decide) w9.heap.size 4 _ (show Blk w9.heap.size #[.int .i64 8, .int .i64 6, .int .i64 6, .int .i64 6] 3 (w9.alloc (.cells #[.int .i64 8, .int .i64 6, .int .i64 6, .int .i64 6] 3)) from Blk.new w9 _ _)); clear k9)
    | (go_at_call 25; refine (unhide O9).mono ?_; clear O9; rintro e w10 ⟨B10, c10, rfl, _, _, own10, k10⟩; have K10 : Hid (Kp w7 w10) := ((unhide KE).trans k10); have R10 := hide own10.row; obtain ⟨t0, t1, t2, t3, t4, t5⟩ := unhide CW w10 (unhide K10); have hta := heap_gt t0; have htb := heap_gt t3; clear own10 k10 KE)
    | (go_at_call 19; refine (kitSameM 2 2 an (some ⟨B10, 0, none⟩) 4 cn c10 (oneL [8, 6, 6, 6]) (by omega) _ (unhide RW _ (unhide K10)).2 (unhide R10)).mono ?_; clear R10; rintro e w11 ⟨rfl, k11⟩; have K11 : Hid (Kp w7 w11) := ((unhide K10).trans k11); obtain ⟨s0, s1, s2, s3, s4, s5⟩ := unhide CW w11 (unhide K11); have hsa := heap_gt s0; have hsb := heap_gt s3; clear k11))
 go_wp2
 go_ret
 exact ⟨rfl, (unhide KW).trans (unhide K11)⟩
end Go.Proofs.YtjobgjcfkomhpaaGreat
