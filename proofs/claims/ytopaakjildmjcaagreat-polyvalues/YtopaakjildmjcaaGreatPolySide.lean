/- PolyS PolyRh RegM RegN MatTD PolyQ PolyXs, one after another. -/
import Derived.Test.YtopaakjildmjcaaGreatPolyBas2
import Derived.Test.YtopaakjildmjcaaGreatPolyDoc
import Derived.Test.YtopaakjildmjcaaGreatPolyDoc2
import Derived.Test.YtopaakjildmjcaaGreatPolyBase
import Derived.Test.YtopaakjildmjcaaGreatMatAll
import Derived.Deep.RegionHeld3
import Derived.Deep.DrawnRows
/- Terms, At and Flow, whatever is handed in: what the program's calls come to; laws with both units. -/
namespace Go.Proofs.YtopaakjildmjcaaGreat
open Go.RowKit Go.Shelf Go.Proofs.Wd
set_option linter.unusedVariables false
set_option linter.unusedSimpArgs false
set_option maxRecDepth 10000

/-- What comes of a call that tells a matrix. -/
structure VO where
  r : Int
  c : Int
  len : Nat
  Z : Nat → Int
  err : Int
  cut : Bool
/-- What comes of Terms: m matrices of n rows and columns, of nn numbers. -/
structure TO where
  m : Nat
  n : Nat
  nn : Nat
  err : Int
  cut : Bool
def zeroF : Nat → Int := fun _ => 0
open Classical in
noncomputable def atO (n : Nat) (X : Nat → MV) (t : Int) (c0 : Bool) : VO :=
  if okP n X then ⟨(X 0).R, (X 0).C, (X 0).len, horZ (fun i => (X i).Z) (n - 1) t (n - 1), 0, c0 || horC (fun i => (X i).Z) (n - 1) t (X 0).len (n - 1)⟩ else ⟨0, 0, 0, zeroF, 3, c0⟩
open Classical in
noncomputable def flowO (R C : Int) (len : Nat) (A : Nat → Int) (t : Int) (c0 : Bool) : VO :=
  if sqA R C len then (if upTo A R.toNat R.toNat = true then ⟨R, C, len, flowZ A R.toNat t, 0, c0 || flowC A R.toNat t⟩ else ⟨0, 0, 0, zeroF, 2, c0⟩) else ⟨0, 0, 0, zeroF, 3, c0⟩
open Classical in
noncomputable def termsO (R C : Int) (len : Nat) (A : Nat → Int) (k : Int) (c0 : Bool) : TO :=
  if sqA R C len then (if 0 ≤ k ∧ k ≤ 24 then ⟨k.toNat + 1, R.toNat, len, 0, c0 || termC A R.toNat k.toNat⟩ else ⟨0, 0, 0, 2, c0⟩) else ⟨0, 0, 0, 3, c0⟩
theorem likeM.len {R C R0 C0 : Int} {l : Nat} (h : likeM R C l R0 C0) : l ≤ 144 ∧ (l : Int) = R0 * C0 := by
  obtain ⟨h1, rfl, rfl⟩ := h
  obtain ⟨r, c, rfl, rfl, _, _, hl, _, hk⟩ := h1.nat
  exact ⟨hk, by rw [hl, Int.natCast_mul]⟩
theorem atO_len {n : Nat} {X : Nat → MV} {t : Int} {c0 : Bool} {q : VO} (h : atO n X t c0 = q) : q.len ≤ 144 := by
  subst h
  unfold atO
  by_cases hg : okP n X
  · rw [if_pos hg]
    exact (hg.2 0 (by have := hg.1.1; omega)).len.1
  · rw [if_neg hg]
    exact Nat.zero_le _
theorem flowO_len {R C : Int} {len : Nat} {A : Nat → Int} {t : Int} {c0 : Bool} {q : VO} (h : flowO R C len A t c0 = q) : q.len ≤ 144 := by
  subst h
  unfold flowO
  by_cases hg : sqA R C len
  · rw [if_pos hg]
    obtain ⟨n, _, _, _, _, _, k⟩ := hg.nat
    by_cases hu : upTo A R.toNat R.toNat = true
    · rw [if_pos hu]
      exact k
    · rw [if_neg hu]
      exact Nat.zero_le _
  · rw [if_neg hg]
    exact Nat.zero_le _
theorem termsO_len {R C : Int} {len : Nat} {A : Nat → Int} {k : Int} {c0 : Bool} {q : TO} (h : termsO R C len A k c0 = q) : q.m ≤ 25 ∧ q.nn ≤ 144 := by
  subst h
  unfold termsO
  by_cases hg : sqA R C len
  · rw [if_pos hg]
    obtain ⟨n, _, _, _, _, _, kk⟩ := hg.nat
    by_cases hu : 0 ≤ k ∧ k ≤ 24
    · rw [if_pos hu]
      exact ⟨by show k.toNat + 1 ≤ 25; omega, kk⟩
    · rw [if_neg hu]
      exact ⟨Nat.zero_le _, Nat.zero_le _⟩
  · rw [if_neg hg]
    exact ⟨Nat.zero_le _, Nat.zero_le _⟩

/-- A list of terms, each one's numbers in a block of its own; those from the j-th on are known. -/
def tX (n nn : Nat) (A : Nat → Int) (l : Nat → Nat × Nat) (i : Nat) : MV := ⟨n, n, some ⟨(l i).1, 0, none⟩, nn, (l i).2, termZ A n i⟩
def TLs (lo : Option Addr) (m n nn : Nat) (A : Nat → Int) (l : Nat → Nat × Nat) (j : Nat) (W : World) : Prop :=
  Mats W lo m (tX n nn A l) ∧ ∀ i, j ≤ i → i < m → Own (l i).1 nn (termZ A n i) W
def tD (lo : Option Addr) (m : Nat) (l : Nat → Nat × Nat) : List Nat := rowD lo m ++ (List.range m).map fun i => (l i).1
theorem mats_depL (ao : Option Addr) (n : Nat) (X : Nat → MV) : DepL (rowD ao n) (fun w => Mats w ao n X) := fun w w' h r => by
  rcases r with r | ⟨b, o, rfl, hc⟩
  · exact Or.inl r
  · by_cases h0 : n = 0
    · exact Or.inl h0
    · refine Or.inr ⟨b, o, rfl, fun i hi j hj => (World.cell?_of_block (h b ?_)).trans (hc i hi j hj)⟩
      unfold rowD
      rw [if_neg h0]
      simp
theorem mats_lt {w : World} {ao : Option Addr} {n : Nat} {X : Nat → MV} (h : Mats w ao n X) : ∀ k ∈ rowD ao n, k < w.heap.size := fun k hk => by
  unfold rowD at hk
  split at hk
  · exact absurd hk List.not_mem_nil
  · rename_i h0
    obtain ⟨b, o, rfl, c0, _⟩ := h.at (k := 0) (by omega)
    simp at hk
    subst hk
    exact heap_gt c0
theorem mem_tD {lo : Option Addr} {m : Nat} {l : Nat → Nat × Nat} {i : Nat} (hi : i < m) : (l i).1 ∈ tD lo m l := List.mem_append_right _ (List.mem_map.2 ⟨i, List.mem_range.2 hi, rfl⟩)
theorem tls_dep (lo : Option Addr) (m n nn : Nat) (A : Nat → Int) (l : Nat → Nat × Nat) (j : Nat) : DepL (tD lo m l) (TLs lo m n nn A l j) := fun w w' h ⟨h1, h2⟩ =>
  ⟨mats_depL lo m _ w w' (fun k hk => h k (List.mem_append_left _ hk)) h1, fun i hj hi => let ⟨cur, a, b⟩ := h2 i hj hi; ⟨cur, (h _ (mem_tD hi)).trans a, b⟩⟩
/-- The j-th one is written over. -/
theorem TLs.over {lo : Option Addr} {m n nn : Nat} {A : Nat → Int} {l : Nat → Nat × Nat} {j : Nat} {W W' : World} (h : TLs lo m n nn A l j W) (hd : (tD lo m l).Nodup) (hj : j < m) (k : Mod (l j).1 W W') : TLs lo m n nn A l (j + 1) W' := by
  obtain ⟨n1, n2, n3⟩ := List.nodup_append.1 hd
  refine ⟨h.1.cells fun b o v hb hv => ?_, fun i hi hm => ?_⟩
  · obtain ⟨o', e⟩ := hb (by omega)
    refine (Mk.of k).cell hv (fun e2 => ?_)
    refine n3 b ?_ (l j).1 (List.mem_map.2 ⟨j, List.mem_range.2 hj, rfl⟩) e2
    unfold rowD
    rw [if_neg (by omega), e]
    simp
  · obtain ⟨cur, a, b⟩ := h.2 i (by omega) hm
    refine ⟨cur, Blk.keep a k (fun e => ?_), b⟩
    have := List.pairwise_map.1 n2
    have h2 := List.pairwise_iff_getElem.1 this j i (by simpa using hj) (by simpa using hm) (by omega)
    simp at h2
    exact h2 e.symm
theorem TLs.row {lo : Option Addr} {m n nn : Nat} {A : Nat → Int} {l : Nat → Nat × Nat} {j : Nat} {W : World} (h : TLs lo m n nn A l j W) {i : Nat} (hj : j ≤ i) (hi : i < m) : Row W (some ⟨(l i).1, 0, none⟩) nn (termZ A n i) := (h.2 i hj hi).row

theorem rowD_some {b o len : Nat} (h : len ≠ 0) : rowD (some ⟨b, o, none⟩) len = [b] := by
  unfold rowD
  rw [if_neg h]
/-- What the program's Terms tells. -/
def TermsP (q : TO) (A : Nat → Int) (X : World → Prop) (w : World) (e : Ending) (w' : World) : Prop :=
  ∃ lo cap l, e = .returned (.tuple #[.slice lo q.m cap, .int .i64 q.err]) ∧ (tD lo q.m l).Nodup ∧ (∀ k ∈ tD lo q.m l, w.heap.size ≤ k ∧ k < w'.heap.size) ∧ (∀ i, i < q.m → q.nn ≤ (l i).2) ∧ TLs lo q.m q.n q.nn A l 0 w' ∧ X w'
theorem terms_none {err : Int} {c : Bool} {A : Nat → Int} {X : World → Prop} {w w' : World} (h : X w') : TermsP ⟨0, 0, 0, err, c⟩ A X w (.returned (.tuple #[.slice none 0 0, .int .i64 err])) w' :=
  ⟨none, 0, fun _ => (0, 0), rfl, List.nodup_nil, fun k hk => absurd hk List.not_mem_nil, fun i hi => absurd hi (Nat.not_lt_zero _), ⟨Or.inl rfl, fun i _ hi => absurd hi (Nat.not_lt_zero _)⟩, h⟩

theorem polyTermsAny (U : Nat) (c0 : Bool) (n0 : Int) (hn0 : 0 ≤ n0 ∧ n0 < 1000000000000000000) (R C k : Int) (ao : Option Addr) (len cap : Nat) (A : Nat → Int) (hp : len ≤ cap) (hA : ∀ j, j < len → I64 (A j)) (w : World) (h : UC U c0 n0 w) (ra : Row w ao len A) (oa : Off U len ao) (q : TO) (hq : termsO R C len A k c0 = q) :
    Calls Tryz.prog 9 #[.pointer (some ⟨U, 0, none⟩), .agg #[.int .i64 R, .int .i64 C, .slice ao len cap], .int .i64 k] w fun e w' => TermsP q A (fun w' => UW U q.cut n0 200000 w' ∧ Mk U w w') w e w' := by
  subst hq
  unfold termsO
  by_cases hg : sqA R C len
  · rw [if_pos hg]
    by_cases hk : 0 ≤ k ∧ k ≤ 24
    · rw [if_pos hk]
      obtain ⟨n, rfl, rfl, hn, hl, k1, k2⟩ := hg.nat
      obtain ⟨b, o, rfl, za⟩ := ra.some k1
      obtain ⟨j, rfl⟩ : ∃ j : Nat, k = j := ⟨k.toNat, by omega⟩
      refine (polyTerms_ok U n len b o cap j c0 n0 hn0 A hn hl.symm (by omega) hp hA w h za (off_at oa k1)).mono ?_
      rintro e w' ⟨Lb, pre, rfl, hp, hL, hT, ⟨cnt, q1, q2, hu⟩, hm⟩
      have hat : ∀ i, i < j + 1 → ∃ x, pre[i]? = some x := fun i hi => ⟨pre[i], List.getElem?_eq_getElem (by omega)⟩
      obtain ⟨hb0, cur, hcur⟩ := hL.has
      have ek : ((j : Int)).toNat = j := Int.toNat_natCast j
      have en : ((n : Int)).toNat = n := Int.toNat_natCast n
      simp only [ek, en]
      refine ⟨some ⟨Lb, 0, none⟩, j + 1, fun i => (pre[i]?).getD (0, 0), rfl, ?_, fun x hx => ?_, fun i hi => ?_, ⟨?_, fun i _ hi => ?_⟩, ⟨cnt, q1, by omega, hu⟩, hm⟩
      · refine List.nodup_append.2 ⟨by rw [show rowD (some ⟨Lb, 0, none⟩) (j + 1) = [Lb] from rowD_some (Nat.succ_ne_zero j)]; simp, ?_, fun a ha b hb e => ?_⟩
        · refine List.pairwise_map.2 (List.pairwise_iff_getElem.2 fun i i' hi hi' hlt => ?_)
          simp at hi hi'
          have := List.pairwise_iff_getElem.1 (List.pairwise_map.1 hT.2) i i' (by omega) (by omega) hlt
          simp only [List.getElem_range, List.getElem?_eq_getElem (show i < pre.length by omega), List.getElem?_eq_getElem (show i' < pre.length by omega), Option.getD_some]
          exact Nat.ne_of_lt this
        · subst e
          have ha : a ∈ rowD (some ⟨Lb, 0, none⟩) (j + 1) := ha
          rw [rowD_some (Nat.succ_ne_zero j)] at ha
          simp at ha
          subst ha
          obtain ⟨i, hi, e⟩ := List.mem_map.1 hb
          obtain ⟨x, hx⟩ := hat i (List.mem_range.1 hi)
          have e : ((pre[i]?).getD (0, 0)).1 = _ := e
          rw [hx] at e
          exact blk_ne hcur (hT.1 i x hx).1 (by decide +kernel) e.symm
      · rcases List.mem_append.1 hx with hx | hx
        · have hx : x ∈ rowD (some ⟨Lb, 0, none⟩) (j + 1) := hx
          rw [rowD_some (Nat.succ_ne_zero j)] at hx
          simp at hx
          subst hx
          exact ⟨hb0, Blk.lt hcur⟩
        · obtain ⟨i, hi, e⟩ := List.mem_map.1 hx
          obtain ⟨y, hy⟩ := hat i (List.mem_range.1 hi)
          have e : ((pre[i]?).getD (0, 0)).1 = _ := e
          rw [hy] at e
          subst e
          exact ⟨(hT.1 i y hy).2.1, Blk.lt (hT.1 i y hy).1⟩
      · obtain ⟨y, hy⟩ := hat i hi
        show _ ≤ ((pre[i]?).getD (0, 0)).2
        rw [hy]
        exact (hT.1 i y hy).2.2
      · obtain ⟨ao', cap', e, hM, hc, _⟩ := hL.mats
        rw [listT_len, hp] at e hM
        cases e
        rcases hM with hM | ⟨b2, o2, e, hM⟩
        · exact Or.inl hM
        · refine Or.inr ⟨b2, o2, e, fun i hi p hp' => ?_⟩
          obtain ⟨y, hy⟩ := hat i hi
          have e2 := listT_at n len A pre i y hy
          rw [hM i hi p hp', e2]
          unfold tX XT
          simp only [hy, Option.getD_some]
      · obtain ⟨y, hy⟩ := hat i hi
        show Own ((pre[i]?).getD (0, 0)).1 _ _ _
        rw [hy]
        exact Own.of (hT.1 i y hy).1
    · rw [if_neg hk]
      refine (polyTerms_arg U c0 n0 hn0 R C k ao len cap hg (by omega) w h).mono ?_
      rintro e w' ⟨rfl, hu, hm⟩
      exact terms_none ⟨⟨n0, by omega, by omega, hu⟩, hm⟩
  · rw [if_neg hg]
    refine (polyTerms_size U c0 n0 hn0 R C k ao len cap hg w h).mono ?_
    rintro e w' ⟨rfl, hu, hm⟩
    exact terms_none ⟨⟨n0, by omega, by omega, hu⟩, hm⟩

theorem ValP.to {r c err : Int} {len : Nat} {Z : Nat → Int} {X Y : World → Prop} {w : World} {e : Ending} {w' : World} (h : ValP r c len Z err X w e w') (f : X w' → Y w') : ValP r c len Z err Y w e w' := let ⟨ao, cap, B, h1, h2, h3, h4, h5⟩ := h; ⟨ao, cap, B, h1, h2, h3, h4, f h5⟩
theorem uw_more {U : Nat} {c : Bool} {n0 d : Int} {w w' : World} (hd : d ≤ 200000) (h : UW U c n0 d w' ∧ Mk U w w') : UW U c n0 200000 w' ∧ Mk U w w' := let ⟨⟨m, h1, h2, h3⟩, h4⟩ := h; ⟨⟨m, h1, by omega, h3⟩, h4⟩
theorem uw_none {U : Nat} {c : Bool} {n0 : Int} {w w' : World} (h : UC U c n0 w' ∧ Mk U w w') : UW U c n0 200000 w' ∧ Mk U w w' := ⟨⟨n0, by omega, by omega, h.1⟩, h.2⟩
theorem polyFlowAny (U : Nat) (c0 : Bool) (n0 : Int) (hn0 : 0 ≤ n0 ∧ n0 < 100000000000000000) (R C t : Int) (ht : I64 t) (ao : Option Addr) (len cap : Nat) (A : Nat → Int) (hp : len ≤ cap) (hA : ∀ j, j < len → I64 (A j)) (w : World) (h : UC U c0 n0 w) (ra : Row w ao len A) (oa : Off U len ao) (q : VO) (hq : flowO R C len A t c0 = q) :
    Calls Tryz.prog 11 #[.pointer (some ⟨U, 0, none⟩), .agg #[.int .i64 R, .int .i64 C, .slice ao len cap], .int .i64 t] w fun e w' => ValP q.r q.c q.len q.Z q.err (fun w' => UW U q.cut n0 200000 w' ∧ Mk U w w') w e w' := by
  subst hq
  unfold flowO
  by_cases hg : sqA R C len
  · rw [if_pos hg]
    obtain ⟨n, rfl, rfl, hn, rfl, k1, k2⟩ := hg.nat
    obtain ⟨b, o, rfl, za⟩ := ra.some k1
    have en : ((n : Int)).toNat = n := Int.toNat_natCast n
    rw [en]
    by_cases hu : upTo A n n = true
    · rw [if_pos hu]
      exact (polyFlow_ok U n b o cap c0 n0 t ht hn0 A hn hp hA hu w h za (off_at oa k1)).mono (fun e w' h => h.to (fun h => uw_more (by omega) h))
    · rw [if_neg hu]
      exact (polyFlow_arg U c0 n0 hn0 n b o cap t A zeroF hn (by simpa using hu) w h za (off_at oa k1)).mono (fun e w' h => h.to uw_none)
  · rw [if_neg hg]
    exact (polyFlow_size U c0 n0 hn0 R C t ao len cap zeroF hg w h).mono (fun e w' h => h.to uw_none)
theorem polyAtAny (U : Nat) (c0 : Bool) (n0 : Int) (hn0 : 0 ≤ n0 ∧ n0 < 100000000000000000) (t : Int) (ht : I64 t) (ao : Option Addr) (n cap : Nat) (X : Nat → MV) (hp : n ≤ cap) (hl : n ≤ 9223372036854775807) (hI : ∀ i, i < n → ∀ j, j < (X i).len → I64 ((X i).Z j)) (w : World) (h : UC U c0 n0 w) (hm : Mats w ao n X) (hrow : ∀ i, i < n → Row w (X i).ao (X i).len (X i).Z) (ho : ∀ i, i < n → Off U (X i).len (X i).ao) (hoM : Off U n ao) (q : VO) (hq : atO n X t c0 = q) :
    Calls Tryz.prog 20 #[.pointer (some ⟨U, 0, none⟩), .slice ao n cap, .int .i64 t] w fun e w' => ValP q.r q.c q.len q.Z q.err (fun w' => UW U q.cut n0 200000 w' ∧ Mk U w w') w e w' := by
  subst hq
  unfold atO
  by_cases hg : okP n X
  · rw [if_pos hg]
    obtain ⟨⟨n1, n25⟩, hall⟩ := hg
    obtain ⟨k, rfl⟩ : ∃ k, n = k + 1 := ⟨n - 1, by omega⟩
    obtain ⟨r, c, er, ec, hr, hc, hl0, _, _⟩ := (hall 0 (by omega)).1.nat
    have hL : ∀ i, i < k + 1 → (X i).len = (X 0).len := fun i hi => by
      have a := (hall i hi).len.2
      have b := (hall 0 (by omega)).len.2
      omega
    rw [er, ec, Nat.add_sub_cancel]
    exact (polyAt_ok U r c (X 0).len k cap ao c0 n0 t ⟨hn0.1, by omega⟩ ht hr hc hl0.symm (by omega) hp X (fun i hi => ⟨(hall i (by omega)).2.1.trans er, (hall i (by omega)).2.2.trans ec, hL i (by omega)⟩) (fun i hi j hj => hI i (by omega) j (by rw [hL i (by omega)]; exact hj)) w h hm (fun i hi => by have := hrow i (by omega); rwa [hL i (by omega)] at this) (fun i hi => by have := ho i (by omega); rwa [hL i (by omega)] at this) hoM).mono (fun e w' h => h.to (fun h => uw_more (by omega) h))
  · rw [if_neg hg]
    exact (polyAt_bad U c0 n0 ⟨hn0.1, by omega⟩ t ao n cap X zeroF hl hg w h hm).mono (fun e w' h => h.to uw_none)

end Go.Proofs.YtopaakjildmjcaaGreat

/- The document's Flow; what its Terms, At and Flow come to, whatever is handed in. -/
namespace Go.Proofs.YtopaakjildmjcaaGreat
open Go.RowKit Go.Shelf Go.Proofs.Wd
set_option linter.unusedVariables false
set_option linter.unusedSimpArgs false
set_option maxRecDepth 10000

theorem dtl_at {base n nn : Nat} {A : Nat → Int} {v : Value} {l : List MV} {W : World} (h : DTl base n nn A v l W) {i : Nat} (hi : i < l.length) : ∃ B cp, ixM l i = DTx n nn A i B cp ∧ nn ≤ cp ∧ base ≤ B ∧ Own B nn (termZ A n i) W := by
  obtain ⟨B, cp, e, h1, h2, h3⟩ := h.2 i _ (List.getElem?_eq_getElem hi)
  exact ⟨B, cp, by rw [ixM_at (List.getElem?_eq_getElem hi), e], h1, h2, h3⟩

/-- At of the terms that the document told. -/
theorem refAtTerms (R n nn k : Nat) (c1 : Bool) (cnt t : Int) (hcnt : 0 ≤ cnt ∧ cnt < 1000000000000000000) (ht : I64 t) (hn : 1 ≤ n ∧ n ≤ 12) (hnn : n * n = nn) (hk : n = k + 1) (A : Nat → Int) (base : Nat) (v : Value) (l : List MV) (hl : l.length = k + 1) (w : World) (h : RC R c1 cnt w) (hD : DTl base n nn A v l w) (hR : R < base) :
    Calls Tryz.prog 21 #[.pointer (some ⟨R, 0, none⟩), v, .int .i64 t] w fun e w' => DocP n n nn (horZ (termZ A n) k t k) 0 (fun w' => RW R (c1 || horC (termZ A n) k t nn k) cnt 100000 w' ∧ Mk R w w') w e w' := by
  obtain ⟨ao, cap, e, hM, hc, hoff⟩ := hD.1.mats
  obtain ⟨g, cg, e2, _, hge, _⟩ := hD.1.openL hl (by omega)
  rw [e] at e2
  injection e2 with e3 e4 e5
  subst e3
  rw [hl] at e hM
  subst e
  have k2 := mul12n n n hn hn
  rw [hnn] at k2
  have at' : ∀ i, i ≤ k → ∃ B cp, ixM l i = DTx n nn A i B cp ∧ nn ≤ cp ∧ base ≤ B ∧ Own B nn (termZ A n i) w := fun i hi => dtl_at hD (by omega)
  have hZ : ∀ i, i ≤ k → ∀ p, p < nn → (ixM l i).Z p = termZ A n i p := fun i hi p _ => by
    obtain ⟨B, cp, e, _⟩ := at' i hi
    rw [e]
    rfl
  have hX : ∀ i, i ≤ k → (ixM l i).R = n ∧ (ixM l i).C = n ∧ (ixM l i).len = nn := fun i hi => by
    obtain ⟨B, cp, e, _⟩ := at' i hi
    rw [e]
    exact ⟨rfl, rfl, rfl⟩
  have hc' := hor_congr (fun i => (ixM l i).Z) (termZ A n) k t nn hZ k
  have okn : okM n n nn := ⟨by omega, by omega, by rw [← hnn, Int.natCast_mul]⟩
  refine (pRefAt_ok R n n nn k (k + 1) g 0 cap c1 cnt t hcnt ht hn hn hnn (by omega) rfl (ixM l) ⟨by omega, fun i hi => ?_⟩ hX (fun i hi j hj => ?_) w h hM (fun i hi => ?_) (fun i hi => ?_) (by omega)).mono ?_
  · obtain ⟨a1, a2, a3⟩ := hX i (by omega)
    obtain ⟨b1, b2, b3⟩ := hX 0 (by omega)
    rw [a1, a2, a3, b1, b2]
    exact ⟨okn, rfl, rfl⟩
  · rw [hZ i hi j hj]
    exact termZ_I64 A n i j (by rw [hnn]; exact hj)
  · obtain ⟨B, cp, e, _, _, ho⟩ := at' i hi
    rw [e]
    exact ho.row
  · obtain ⟨B, cp, e, _, hb, _⟩ := at' i hi
    rw [e]
    intro _ a ha
    cases ha
    show B ≠ R
    omega
  · rintro e w6 ⟨a6, c6, rfl, h2, h3, h4, ⟨c', r1, r2, hu6⟩, h6⟩
    refine ⟨a6, c6, rfl, h2, ?_, h4, ⟨c', r1, r2, by rw [← hc'.2]; exact hu6⟩, h6⟩
    rcases h3 with h3 | ⟨b, o, rfl, h3⟩
    · exact Or.inl h3
    · exact Or.inr ⟨b, o, rfl, fun i hi => by rw [h3 i hi, hc'.1 i hi]⟩

set_option maxRecDepth 20000 in
set_option maxHeartbeats 4000000 in
theorem pRefFlow_ok (R n b o cap : Nat) (c0 : Bool) (n0 t : Int) (ht : I64 t) (hn0 : 0 ≤ n0 ∧ n0 < 100000000000000000) (A : Nat → Int) (hn : 1 ≤ n ∧ n ≤ 12) (hcap : n * n ≤ cap) (hA : ∀ j, j < n * n → I64 (A j)) (hup : upTo A n n = true) (w : World) (h : RC R c0 n0 w) (za : ∀ j, j < n * n → w.cell? ⟨b, o + j, none⟩ = some (.int .i64 (A j))) (hb : b ≠ R) :
    Calls Tryz.prog 12 #[.pointer (some ⟨R, 0, none⟩), .agg #[.int .i64 n, .int .i64 n, .slice (some ⟨b, o, none⟩) (n * n) cap], .int .i64 t] w fun e w' => DocP n n (n * n) (flowZ A n t) 0 (fun w' => RW R (c0 || flowC A n t) n0 200000 w' ∧ Mk R w w') w e w' := by
  have SQ := hide (fun w => pRefSquare n n (some ⟨b, o, none⟩) (n * n) cap w)
  rw [sqB_yes (sqA_of hn)] at SQ
  have k2 := mul12n n n hn hn
  have lU := Blk.lt h
  have UPP : Hid (∀ wx, Mk R w wx → Calls Tryz.prog 18 #[.agg #[.int .i64 n, .int .i64 n, .slice (some ⟨b, o, none⟩) (n * n) cap]] wx fun e w' => e = .returned (.bool true) ∧ Grown wx w') := fun wx m => by
    have := pRefUpper_ok n b o cap A hn wx (fun j hj => m.cell (za j hj) hb)
    rwa [hup] at this
  obtain ⟨nn, hnn⟩ : ∃ nn, n * n = nn := ⟨_, rfl⟩
  obtain ⟨k, hk⟩ : ∃ k, n = k + 1 := ⟨n - 1, by omega⟩
  have hk1 : n - 1 = k := by omega
  have TM : Hid (∀ wx, RC R c0 n0 wx → Mk R w wx → Calls Tryz.prog 10 #[.pointer (some ⟨R, 0, none⟩), .agg #[.int .i64 n, .int .i64 n, .slice (some ⟨b, o, none⟩) nn cap], .int .i64 (k : Int)] wx fun e w' => DTermP R n nn c0 n0 A k wx e w') := fun wx u m =>
    pRefTerms_ok R n nn b o cap k c0 n0 ⟨hn0.1, by omega⟩ A hn hnn (by omega) (by omega) (by rw [← hnn]; exact hA) wx u (fun j hj => m.cell (za j (by omega)) hb) hb
  have eF : Hid (flowZ A n t = horZ (termZ A n) k t k ∧ flowC A n t = (termC A n k || horC (termZ A n) k t nn k)) := by
    unfold flowZ flowC
    rw [hk1, hnn]
    exact ⟨rfl, rfl⟩
  rw [hnn] at SQ k2 UPP
  rw [hnn]
  have G : Grown w ((w.alloc (.cells #[.int .i64 n, .int .i64 n, .slice (some ⟨b, o, none⟩) nn cap] 24)).alloc (.cells #[.int .i64 0, .int .i64 0, .slice none 0 0] 24)) := ((Grown.refl _).alloc _ _).alloc _ _
  have HB : Hid (Blk w.heap.size #[.int .i64 n, .int .i64 n, .slice (some ⟨b, o, none⟩) nn cap] 24 ((w.alloc (.cells #[.int .i64 n, .int .i64 n, .slice (some ⟨b, o, none⟩) nn cap] 24)).alloc (.cells #[.int .i64 0, .int .i64 0, .slice none 0 0] 24)) ∧ Blk (w.heap.size + 1) #[.int .i64 0, .int .i64 0, .slice none 0 0] 24 ((w.alloc (.cells #[.int .i64 n, .int .i64 n, .slice (some ⟨b, o, none⟩) nn cap] 24)).alloc (.cells #[.int .i64 0, .int .i64 0, .slice none 0 0] 24))) := ⟨Blk.grown (Blk.new w _ _) ((Grown.refl _).alloc _ _), blk_new2 w _ _ _⟩
  have HG := hide (And.intro G (And.intro (Blk.grown h G) (And.intro hn0 (And.intro lU (And.intro k2 (And.intro ht (And.intro hn (And.intro hk hnn))))))))
  have wk : wrap64 ((n : Int) - 1) = (k : Int) := by unfold wrap64; omega
  clear G h hn0 lU za hb hA hup hcap k2 hk1 ht hn hk hnn
  go_enter Tryz.func12, Tryz.ntmps12
  go_wp2_with fail
  generalize (w.alloc (.cells #[.int .i64 n, .int .i64 n, .slice (some ⟨b, o, none⟩) nn cap] 24)).alloc (.cells #[.int .i64 0, .int .i64 0, .slice none 0 0] 24) = w1 at *
  refine (unhide SQ _).mono ?_
  rintro e w2 ⟨rfl, g2⟩
  have M2 : Mk R w w2 := Mk.kp (Kp.of (gtrans (unhide HG).1 g2))
  have S3 := hide (And.intro (Blk.grown (unhide HG).2.1 g2) (And.intro M2 (And.intro (Blk.grown (unhide HB).1 g2) (Blk.grown (unhide HB).2 g2))))
  have x0 : w2.cell? ⟨w.heap.size, 0, none⟩ = some (.int .i64 n) := Blk.cell (unhide S3).2.2.1 0
  have x1 : w2.cell? ⟨w.heap.size, 1, none⟩ = some (.int .i64 n) := Blk.cell (unhide S3).2.2.1 1
  have x2 : w2.cell? ⟨w.heap.size, 2, none⟩ = some (.slice (some ⟨b, o, none⟩) nn cap) := Blk.cell (unhide S3).2.2.1 2
  clear g2 SQ M2
  go_wp2_with fail
  refine (unhide UPP _ (unhide S3).2.1).mono ?_
  rintro e w4 ⟨rfl, g4⟩
  have S4 := hide (And.intro (Blk.grown (unhide S3).1 g4) (And.intro ((unhide S3).2.1.grown g4) (And.intro (Blk.grown (unhide S3).2.2.1 g4) (Blk.grown (unhide S3).2.2.2 g4))))
  clear g4 S3 x0 x1 x2 UPP
  have x0 : w4.cell? ⟨w.heap.size, 0, none⟩ = some (.int .i64 n) := Blk.cell (unhide S4).2.2.1 0
  have x1 : w4.cell? ⟨w.heap.size, 1, none⟩ = some (.int .i64 n) := Blk.cell (unhide S4).2.2.1 1
  have x2 : w4.cell? ⟨w.heap.size, 2, none⟩ = some (.slice (some ⟨b, o, none⟩) nn cap) := Blk.cell (unhide S4).2.2.1 2
  have T4 := hide (unhide TM _ (unhide S4).1 (unhide S4).2.1)
  clear TM
  go_wp2_with fail
  refine (unhide T4).mono ?_
  rintro e w5 ⟨v, l, rfl, hl, hD, ⟨cnt, q1, q2, hu⟩, hm⟩
  clear T4 x0 x1 x2
  have AT : Hid (Calls Tryz.prog 21 #[.pointer (some ⟨R, 0, none⟩), v, .int .i64 t] w5 fun e w' => DocP n n nn (flowZ A n t) 0 (fun w' => RW R (c0 || flowC A n t) n0 200000 w' ∧ Mk R w5 w') w5 e w') := by
    obtain ⟨_, _, hn0, lU, k2, ht, hn, hk, hnn⟩ := unhide HG
    have lw : w.heap.size ≤ w4.heap.size := (unhide S4).2.1.2.2.2
    refine (refAtTerms R n nn k (c0 || termC A n k) cnt t ⟨by omega, by omega⟩ ht hn hnn hk A w4.heap.size v l hl w5 hu hD (by omega)).mono ?_
    rintro e w6 ⟨a6, c6, rfl, h2, h3, h4, ⟨c', r1, r2, hu6⟩, h6⟩
    refine ⟨a6, c6, rfl, h2, by rw [(unhide eF).1]; exact h3, h4, ⟨c', by omega, by omega, ?_⟩, h6⟩
    rw [(unhide eF).2, ← Bool.or_assoc]
    exact hu6
  have S5 : Hid (Mk R w w5 ∧ Blk (w.heap.size + 1) #[.int .i64 0, .int .i64 0, .slice none 0 0] 24 w5) := ⟨(unhide S4).2.1.trans hm, Blk.mk (unhide S4).2.2.2 hm (by have := (unhide HG).2.2.2.1; omega)⟩
  clear hl hD q1 q2 hu hm S4
  go_wp2_with fail
  refine (unhide AT).mono ?_
  rintro e w6 ⟨a6, c6, rfl, h2, h3, h4, hu6, h6⟩
  have r6 := Blk.mk (unhide S5).2 h6 (by have := (unhide HG).2.2.2.1; omega)
  have M6 : Mk R w w6 := (unhide S5).1.trans h6
  have e0 : w6.cell? ⟨w.heap.size + 1, 0, none⟩ = some (.int .i64 0) := Blk.cell r6 0
  have e1 : w6.cell? ⟨w.heap.size + 1, 1, none⟩ = some (.int .i64 0) := Blk.cell r6 1
  have e2 : w6.cell? ⟨w.heap.size + 1, 2, none⟩ = some (.slice none 0 0) := Blk.cell r6 2
  have f := Blk.free r6
  have l5 := Blk.lt (unhide S5).2
  have RR := hide (And.intro h2 (And.intro h3 (And.intro (fun U (hU : U < w5.heap.size) => h4 U hU) (And.intro hu6 (And.intro M6 (And.intro r6 (And.intro (unhide HG).2.2.2.1 l5)))))))
  clear h2 h3 h4 hu6 h6 r6 M6 AT S5 HB HG l5
  go_wp2
  obtain ⟨h2, h3, h4, ⟨c', r1, r2, hu6⟩, M6, r6, lU, l5⟩ := unhide RR
  have P := putM r6 (.int .i64 n) (.int .i64 n) (.slice a6 nn c6)
  generalize (((w6.setCell ⟨w.heap.size + 1, 0, none⟩ (.int .i64 n)).setCell ⟨w.heap.size + 1, 1, none⟩ (.int .i64 n)).setCell ⟨w.heap.size + 1, 2, none⟩ (.slice a6 nn c6)) = wE at *
  have c0' : wE.cell? ⟨w.heap.size + 1, 0, none⟩ = some (.int .i64 n) := Blk.cell P.1 0
  have c1' : wE.cell? ⟨w.heap.size + 1, 1, none⟩ = some (.int .i64 n) := Blk.cell P.1 1
  have c2' : wE.cell? ⟨w.heap.size + 1, 2, none⟩ = some (.slice a6 nn c6) := Blk.cell P.1 2
  refine bodyPost_ret (v := .tuple #[.agg #[.int .i64 n, .int .i64 n, .slice a6 nn c6], .int .i64 0]) (by simp [results, Tryz.results12, go_sem, c0', c1', c2']) rfl ?_
  exact ⟨a6, c6, rfl, h2, h3.mk (Mk.of P.2) (h4 _ l5), fun U hU => h4 U (by omega), ⟨c', r1, r2, Blk.keep hu6 P.2 (by omega)⟩, M6.new P.2 (by omega)⟩

set_option maxRecDepth 20000 in
set_option maxHeartbeats 4000000 in
theorem pRefFlow_bad (R : Nat) (c0 : Bool) (n0 t : Int) (R1 C1 : Int) (ao : Option Addr) (len cap : Nat) (A Z : Nat → Int) (err : Int) (hb : (¬ sqA R1 C1 len ∧ err = 3) ∨ (sqA R1 C1 len ∧ upO R1 C1 len A = false ∧ err = 2)) (w : World) (h : RC R c0 n0 w) (ra : Row w ao len A) :
    Calls Tryz.prog 12 #[.pointer (some ⟨R, 0, none⟩), .agg #[.int .i64 R1, .int .i64 C1, .slice ao len cap], .int .i64 t] w fun e w' => DocP 0 0 0 Z err (fun w' => RC R c0 n0 w' ∧ Mk R w w') w e w' := by
  have SQ := hide (fun w => pRefSquare R1 C1 ao len cap w)
  have lU := Blk.lt h
  have G : Grown w ((w.alloc (.cells #[.int .i64 R1, .int .i64 C1, .slice ao len cap] 24)).alloc (.cells #[.int .i64 0, .int .i64 0, .slice none 0 0] 24)) := ((Grown.refl _).alloc _ _).alloc _ _
  have UPP : Hid (∀ wx, Grown w wx → Calls Tryz.prog 18 #[.agg #[.int .i64 R1, .int .i64 C1, .slice ao len cap]] wx fun e w' => e = .returned (.bool (upO R1 C1 len A)) ∧ Grown wx w') := fun wx g => pRefUpper R1 C1 ao len cap A wx (ra.grown g)
  have HB : Hid (Blk w.heap.size #[.int .i64 R1, .int .i64 C1, .slice ao len cap] 24 ((w.alloc (.cells #[.int .i64 R1, .int .i64 C1, .slice ao len cap] 24)).alloc (.cells #[.int .i64 0, .int .i64 0, .slice none 0 0] 24)) ∧ Blk (w.heap.size + 1) #[.int .i64 0, .int .i64 0, .slice none 0 0] 24 ((w.alloc (.cells #[.int .i64 R1, .int .i64 C1, .slice ao len cap] 24)).alloc (.cells #[.int .i64 0, .int .i64 0, .slice none 0 0] 24))) := ⟨Blk.grown (Blk.new w _ _) ((Grown.refl _).alloc _ _), blk_new2 w _ _ _⟩
  have HG := hide (And.intro G (And.intro h lU))
  rcases hb with ⟨hs, rfl⟩ | ⟨hs, hu, rfl⟩
  · rw [sqB_no hs] at SQ
    clear G h lU hs UPP ra
    go_enter Tryz.func12, Tryz.ntmps12
    go_wp2_with fail
    generalize (w.alloc (.cells #[.int .i64 R1, .int .i64 C1, .slice ao len cap] 24)).alloc (.cells #[.int .i64 0, .int .i64 0, .slice none 0 0] 24) = w1 at *
    refine (unhide SQ _).mono ?_
    rintro e w6 ⟨rfl, g2⟩
    have r6 := Blk.grown (unhide HB).2 g2
    have GG := hide (And.intro (gtrans (unhide HG).1 g2) r6)
    have e0 : w6.cell? ⟨w.heap.size + 1, 0, none⟩ = some (.int .i64 0) := Blk.cell r6 0
    have e1 : w6.cell? ⟨w.heap.size + 1, 1, none⟩ = some (.int .i64 0) := Blk.cell r6 1
    have e2 : w6.cell? ⟨w.heap.size + 1, 2, none⟩ = some (.slice none 0 0) := Blk.cell r6 2
    have f := Blk.free r6
    clear g2 SQ r6
    go_wp2
    have P := putM (unhide GG).2 (.int .i64 0) (.int .i64 0) (.slice none 0 0)
    generalize (((w6.setCell ⟨w.heap.size + 1, 0, none⟩ (.int .i64 0)).setCell ⟨w.heap.size + 1, 1, none⟩ (.int .i64 0)).setCell ⟨w.heap.size + 1, 2, none⟩ (.slice none 0 0)) = wE at *
    have c0' : wE.cell? ⟨w.heap.size + 1, 0, none⟩ = some (.int .i64 0) := Blk.cell P.1 0
    have c1' : wE.cell? ⟨w.heap.size + 1, 1, none⟩ = some (.int .i64 0) := Blk.cell P.1 1
    have c2' : wE.cell? ⟨w.heap.size + 1, 2, none⟩ = some (.slice none 0 0) := Blk.cell P.1 2
    refine bodyPost_ret (v := .tuple #[.agg #[.int .i64 0, .int .i64 0, .slice none 0 0], .int .i64 3]) (by simp [results, Tryz.results12, go_sem, c0', c1', c2']) rfl ?_
    exact ⟨none, 0, rfl, Nat.le_refl _, Or.inl rfl, fun U _ h0 => absurd h0 (Nat.lt_irrefl _), Blk.keep (Blk.grown (unhide HG).2.1 (unhide GG).1) P.2 (by have := (unhide HG).2.2; omega), (Mk.kp (Kp.of (unhide GG).1)).new P.2 (by omega)⟩
  · rw [sqB_yes hs] at SQ
    rw [hu] at UPP
    clear G h lU hs ra hu
    go_enter Tryz.func12, Tryz.ntmps12
    go_wp2_with fail
    generalize (w.alloc (.cells #[.int .i64 R1, .int .i64 C1, .slice ao len cap] 24)).alloc (.cells #[.int .i64 0, .int .i64 0, .slice none 0 0] 24) = w1 at *
    refine (unhide SQ _).mono ?_
    rintro e w2 ⟨rfl, g2⟩
    have S3 := hide (And.intro (gtrans (unhide HG).1 g2) (And.intro (Blk.grown (unhide HB).1 g2) (Blk.grown (unhide HB).2 g2)))
    have x0 : w2.cell? ⟨w.heap.size, 0, none⟩ = some (.int .i64 R1) := Blk.cell (unhide S3).2.1 0
    have x1 : w2.cell? ⟨w.heap.size, 1, none⟩ = some (.int .i64 C1) := Blk.cell (unhide S3).2.1 1
    have x2 : w2.cell? ⟨w.heap.size, 2, none⟩ = some (.slice ao len cap) := Blk.cell (unhide S3).2.1 2
    clear g2 SQ
    go_wp2_with fail
    refine (unhide UPP _ (unhide S3).1).mono ?_
    rintro e w6 ⟨rfl, g4⟩
    have r6 := Blk.grown (unhide S3).2.2 g4
    have GG := hide (And.intro (gtrans (unhide S3).1 g4) r6)
    have e0 : w6.cell? ⟨w.heap.size + 1, 0, none⟩ = some (.int .i64 0) := Blk.cell r6 0
    have e1 : w6.cell? ⟨w.heap.size + 1, 1, none⟩ = some (.int .i64 0) := Blk.cell r6 1
    have e2 : w6.cell? ⟨w.heap.size + 1, 2, none⟩ = some (.slice none 0 0) := Blk.cell r6 2
    have f := Blk.free r6
    clear g4 UPP r6 x0 x1 x2 S3
    go_wp2
    have P := putM (unhide GG).2 (.int .i64 0) (.int .i64 0) (.slice none 0 0)
    generalize (((w6.setCell ⟨w.heap.size + 1, 0, none⟩ (.int .i64 0)).setCell ⟨w.heap.size + 1, 1, none⟩ (.int .i64 0)).setCell ⟨w.heap.size + 1, 2, none⟩ (.slice none 0 0)) = wE at *
    have c0' : wE.cell? ⟨w.heap.size + 1, 0, none⟩ = some (.int .i64 0) := Blk.cell P.1 0
    have c1' : wE.cell? ⟨w.heap.size + 1, 1, none⟩ = some (.int .i64 0) := Blk.cell P.1 1
    have c2' : wE.cell? ⟨w.heap.size + 1, 2, none⟩ = some (.slice none 0 0) := Blk.cell P.1 2
    refine bodyPost_ret (v := .tuple #[.agg #[.int .i64 0, .int .i64 0, .slice none 0 0], .int .i64 2]) (by simp [results, Tryz.results12, go_sem, c0', c1', c2']) rfl ?_
    exact ⟨none, 0, rfl, Nat.le_refl _, Or.inl rfl, fun U _ h0 => absurd h0 (Nat.lt_irrefl _), Blk.keep (Blk.grown (unhide HG).2.1 (unhide GG).1) P.2 (by have := (unhide HG).2.2; omega), (Mk.kp (Kp.of (unhide GG).1)).new P.2 (by omega)⟩

/-- What the document's Terms tells. -/
def TermsD (q : TO) (A : Nat → Int) (X : World → Prop) (w : World) (e : Ending) (w' : World) : Prop :=
  ∃ lo cap l, e = .returned (.tuple #[.slice lo q.m cap, .int .i64 q.err]) ∧ (∀ k ∈ tD lo q.m l, w.heap.size ≤ k ∧ k < w'.heap.size) ∧ TLs lo q.m q.n q.nn A l 0 w' ∧ X w'
theorem termsD_none {err : Int} {c : Bool} {A : Nat → Int} {X : World → Prop} {w w' : World} (h : X w') : TermsD ⟨0, 0, 0, err, c⟩ A X w (.returned (.tuple #[.slice none 0 0, .int .i64 err])) w' :=
  ⟨none, 0, fun _ => (0, 0), rfl, fun k hk => absurd hk List.not_mem_nil, ⟨Or.inl rfl, fun i _ hi => absurd hi (Nat.not_lt_zero _)⟩, h⟩
theorem refTermsAny (R : Nat) (c0 : Bool) (n0 : Int) (hn0 : 0 ≤ n0 ∧ n0 < 1000000000000000000) (R1 C1 k : Int) (ao : Option Addr) (len cap : Nat) (A : Nat → Int) (hp : len ≤ cap) (hA : ∀ j, j < len → I64 (A j)) (w : World) (h : RC R c0 n0 w) (ra : Row w ao len A) (oa : Off R len ao) (q : TO) (hq : termsO R1 C1 len A k c0 = q) :
    Calls Tryz.prog 10 #[.pointer (some ⟨R, 0, none⟩), .agg #[.int .i64 R1, .int .i64 C1, .slice ao len cap], .int .i64 k] w fun e w' => TermsD q A (fun w' => RW R q.cut n0 200000 w' ∧ Mk R w w') w e w' := by
  subst hq
  unfold termsO
  by_cases hg : sqA R1 C1 len
  · rw [if_pos hg]
    by_cases hk : 0 ≤ k ∧ k ≤ 24
    · rw [if_pos hk]
      obtain ⟨n, rfl, rfl, hn, hl, k1, k2⟩ := hg.nat
      obtain ⟨b, o, rfl, za⟩ := ra.some k1
      obtain ⟨j, rfl⟩ : ∃ j : Nat, k = j := ⟨k.toNat, by omega⟩
      refine (pRefTerms_ok R n len b o cap j c0 n0 hn0 A hn hl.symm (by omega) hp hA w h za (off_at oa k1)).mono ?_
      rintro e w' ⟨v, l, rfl, hl2, hD, ⟨cnt, q1, q2, hu⟩, hm⟩
      have ek : ((j : Int)).toNat = j := Int.toNat_natCast j
      have en : ((n : Int)).toNat = n := Int.toNat_natCast n
      simp only [ek, en]
      obtain ⟨ao', cap', e, hM, hc, _⟩ := hD.1.mats
      obtain ⟨g, cg, e2, _, hge, hcell⟩ := hD.1.openL hl2 (by omega)
      rw [e] at e2
      injection e2 with e3 e4 e5
      subst e3
      rw [hl2] at e hM
      subst e
      have at' : ∀ i, i < j + 1 → ∃ B cp, ixM l i = DTx n len A i B cp ∧ len ≤ cp ∧ w.heap.size ≤ B ∧ Own B len (termZ A n i) w' := fun i hi => dtl_at hD (by omega)
      refine ⟨some ⟨g, 0, none⟩, cap', fun i => (blkM (ixM l i), (ixM l i).cap), rfl, fun x hx => ?_, ⟨?_, fun i _ hi => ?_⟩, ⟨cnt, q1, by omega, hu⟩, hm⟩
      · rcases List.mem_append.1 hx with hx | hx
        · have hx : x ∈ rowD (some ⟨g, 0, none⟩) (j + 1) := hx
          rw [rowD_some (Nat.succ_ne_zero j)] at hx
          simp at hx
          subst hx
          exact ⟨hge, heap_gt (hcell 0 _ (List.getElem?_eq_getElem (by omega))).1⟩
        · obtain ⟨i, hi, e⟩ := List.mem_map.1 hx
          obtain ⟨B, cp, e1, _, hB, ho⟩ := at' i (List.mem_range.1 hi)
          have e : blkM (ixM l i) = x := e
          rw [e1] at e
          have e : B = x := e
          subst e
          exact ⟨hB, Own.ltA ho⟩
      · rcases hM with hM | ⟨b2, o2, e, hM⟩
        · exact Or.inl hM
        · refine Or.inr ⟨b2, o2, e, fun i hi p hp' => ?_⟩
          obtain ⟨B, cp, e1, _, hB, ho⟩ := at' i hi
          have e3 : tX n len A (fun i => (blkM (ixM l i), (ixM l i).cap)) i = ixM l i := by
            unfold tX
            simp only [e1]
            rfl
          rw [hM i hi p hp']
          show _ = (tX n len A (fun i => (blkM (ixM l i), (ixM l i).cap)) i).cells[p]?
          rw [e3]
      · obtain ⟨B, cp, e1, _, hB, ho⟩ := at' i hi
        show Own (blkM (ixM l i)) _ _ _
        rw [e1]
        exact ho
    · rw [if_neg hk]
      refine (pRefTerms_arg _ R1 C1 k ao len cap hg (by omega) w).mono ?_
      rintro e w' ⟨rfl, g⟩
      exact termsD_none ⟨⟨n0, by omega, by omega, Blk.grown h g⟩, Mk.kp (Kp.of g)⟩
  · rw [if_neg hg]
    refine (pRefTerms_size _ R1 C1 k ao len cap hg w).mono ?_
    rintro e w' ⟨rfl, g⟩
    exact termsD_none ⟨⟨n0, by omega, by omega, Blk.grown h g⟩, Mk.kp (Kp.of g)⟩
theorem DocP.toP {r c err : Int} {len : Nat} {Z : Nat → Int} {X Y : World → Prop} {w : World} {e : Ending} {w' : World} (h : DocP r c len Z err X w e w') (f : X w' → Y w') : DocP r c len Z err Y w e w' := let ⟨ao, cap, h1, h2, h3, h4, h5⟩ := h; ⟨ao, cap, h1, h2, h3, h4, f h5⟩
theorem rw_more {U : Nat} {c : Bool} {n0 d : Int} {w w' : World} (hd : d ≤ 200000) (h : RW U c n0 d w' ∧ Mk U w w') : RW U c n0 200000 w' ∧ Mk U w w' := let ⟨⟨m, h1, h2, h3⟩, h4⟩ := h; ⟨⟨m, h1, by omega, h3⟩, h4⟩
theorem rw_none {U : Nat} {c : Bool} {n0 : Int} {w w' : World} (h : RC U c n0 w' ∧ Mk U w w') : RW U c n0 200000 w' ∧ Mk U w w' := ⟨⟨n0, by omega, by omega, h.1⟩, h.2⟩
theorem refFlowAny (R : Nat) (c0 : Bool) (n0 : Int) (hn0 : 0 ≤ n0 ∧ n0 < 100000000000000000) (R1 C1 t : Int) (ht : I64 t) (ao : Option Addr) (len cap : Nat) (A : Nat → Int) (hp : len ≤ cap) (hA : ∀ j, j < len → I64 (A j)) (w : World) (h : RC R c0 n0 w) (ra : Row w ao len A) (oa : Off R len ao) (q : VO) (hq : flowO R1 C1 len A t c0 = q) :
    Calls Tryz.prog 12 #[.pointer (some ⟨R, 0, none⟩), .agg #[.int .i64 R1, .int .i64 C1, .slice ao len cap], .int .i64 t] w fun e w' => DocP q.r q.c q.len q.Z q.err (fun w' => RW R q.cut n0 200000 w' ∧ Mk R w w') w e w' := by
  subst hq
  unfold flowO
  by_cases hg : sqA R1 C1 len
  · rw [if_pos hg]
    have hg' := hg
    obtain ⟨n, rfl, rfl, hn, rfl, k1, k2⟩ := hg.nat
    have en : ((n : Int)).toNat = n := Int.toNat_natCast n
    rw [en]
    by_cases hu : upTo A n n = true
    · rw [if_pos hu]
      obtain ⟨b, o, rfl, za⟩ := ra.some k1
      exact (pRefFlow_ok R n b o cap c0 n0 t ht hn0 A hn hp hA hu w h za (off_at oa k1)).mono (fun e w' h => h.toP (fun h => rw_more (by omega) h))
    · rw [if_neg hu]
      exact (pRefFlow_bad R c0 n0 t n n ao (n * n) cap A zeroF 2 (Or.inr ⟨hg', by unfold upO; rw [if_pos hg', en]; simpa using hu, rfl⟩) w h ra).mono (fun e w' h => h.toP rw_none)
  · rw [if_neg hg]
    exact (pRefFlow_bad R c0 n0 t R1 C1 ao len cap A zeroF 3 (Or.inl ⟨hg, rfl⟩) w h ra).mono (fun e w' h => h.toP rw_none)
theorem refAtAny (R : Nat) (c0 : Bool) (n0 : Int) (hn0 : 0 ≤ n0 ∧ n0 < 100000000000000000) (t : Int) (ht : I64 t) (ao : Option Addr) (n cap : Nat) (X : Nat → MV) (hl : n ≤ 9223372036854775807) (hI : ∀ i, i < n → ∀ j, j < (X i).len → I64 ((X i).Z j)) (w : World) (h : RC R c0 n0 w) (hm : Mats w ao n X) (hrow : ∀ i, i < n → Row w (X i).ao (X i).len (X i).Z) (ho : ∀ i, i < n → Off R (X i).len (X i).ao) (hoM : Off R n ao) (q : VO) (hq : atO n X t c0 = q) :
    Calls Tryz.prog 21 #[.pointer (some ⟨R, 0, none⟩), .slice ao n cap, .int .i64 t] w fun e w' => DocP q.r q.c q.len q.Z q.err (fun w' => RW R q.cut n0 200000 w' ∧ Mk R w w') w e w' := by
  subst hq
  unfold atO
  by_cases hg : okP n X
  · rw [if_pos hg]
    have hg' := hg
    obtain ⟨⟨n1, n25⟩, hall⟩ := hg
    obtain ⟨k, rfl⟩ : ∃ k, n = k + 1 := ⟨n - 1, by omega⟩
    obtain ⟨r, c, er, ec, hr, hc, hl0, _, _⟩ := (hall 0 (by omega)).1.nat
    have hL : ∀ i, i < k + 1 → (X i).len = (X 0).len := fun i hi => by
      have a := (hall i hi).len.2
      have b := (hall 0 (by omega)).len.2
      omega
    rw [er, ec, Nat.add_sub_cancel]
    obtain ⟨b, o, rfl, _⟩ := hm.resolve_left (by omega)
    exact (pRefAt_ok R r c (X 0).len k (k + 1) b o cap c0 n0 t ⟨hn0.1, by omega⟩ ht hr hc hl0.symm (by omega) rfl X hg' (fun i hi => ⟨(hall i (by omega)).2.1.trans er, (hall i (by omega)).2.2.trans ec, hL i (by omega)⟩) (fun i hi j hj => hI i (by omega) j (by rw [hL i (by omega)]; exact hj)) w h hm (fun i hi => by have := hrow i (by omega); rwa [hL i (by omega)] at this) (fun i hi => by have := ho i (by omega); rwa [hL i (by omega)] at this) (off_at hoM (by omega))).mono (fun e w' h => h.toP (fun h => rw_more (by omega) h))
  · rw [if_neg hg]
    exact (pRefAt_bad R c0 n0 t ao n cap X zeroF hl hg w h hm).mono (fun e w' h => h.toP rw_none)

end Go.Proofs.YtopaakjildmjcaaGreat

/- A region that draws its order, 'x, y := f(..), g(..)': what it reads stays, its calls make new memory, its boxes are made and filled. -/
namespace Go.Proofs.YtopaakjildmjcaaGreat
open Go.RowKit Go.Shelf Go.Proofs.Wd
set_option linter.unusedVariables false
set_option linter.unusedSimpArgs false
set_option maxRecDepth 10000

/-- What an operation is: a value that is known ahead; a call; a box that is made; a box that is filled with what a call told. -/
inductive OpK where
  | pure (d : Nat) (v : Value)
  | call (d : Nat) (G : Value → World → Prop)
  | alloc (d : Nat) (cs : Array Value) (T : TypeId)
  | store (ia ic : Nat) (fl : Value → Array Value)
  | same (d j : Nat)
def OpK.dst : OpK → Option Nat
  | .pure d _ => some d
  | .call d _ => some d
  | .alloc d _ _ => some d
  | .store _ _ _ => none
  | .same d _ => some d
def OpK.val (vals : Nat → Value) (addr : Nat → Nat) (i : Nat) : OpK → Value
  | .pure _ v => v
  | .call _ _ => vals i
  | .alloc _ _ _ => .pointer (some ⟨addr i, 0, none⟩)
  | .store _ _ _ => undef
  | .same _ j => vals j
def OpK.isStore (ia : Nat) : OpK → Bool
  | .store i _ _ => i == ia
  | _ => false
/-- It hangs on these blocks alone. -/
def Dep (Bs : List Nat) (F : World → Prop) : Prop := ∀ w w' : World, (∀ k ∈ Bs, w'.heap[k]? = w.heap[k]?) → F w → F w'
def apartD (KL : List OpK) : Bool := (List.range KL.length).all fun i => (List.range KL.length).all fun j => i == j || ((KL[i]?).bind OpK.dst).isNone || ((KL[i]?).bind OpK.dst) != ((KL[j]?).bind OpK.dst)
def onlyStore (KL : List OpK) (ia i : Nat) : Bool := (List.range KL.length).all fun j => !(((KL[j]?).map (OpK.isStore ia)).getD false) || j == i
theorem len_of {α : Type} {l : List α} {i : Nat} {x : α} (h : l[i]? = some x) : i < l.length := (List.getElem?_eq_some_iff.1 h).1
theorem apartD_spec {KL : List OpK} (h : apartD KL = true) {i j : Nat} {k k' : OpK} {d : Nat} (hi : KL[i]? = some k) (hj : KL[j]? = some k') (di : k.dst = some d) (dj : k'.dst = some d) : i = j := by
  unfold apartD at h
  rw [List.all_eq_true] at h
  have h1 := h i (List.mem_range.2 (len_of hi))
  rw [List.all_eq_true] at h1
  have h2 := h1 j (List.mem_range.2 (len_of hj))
  rw [hi, hj] at h2
  simpa [di, dj] using h2
theorem onlyStore_spec {KL : List OpK} {ia i : Nat} (h : onlyStore KL ia i = true) {j ic : Nat} {fl : Value → Array Value} (hj : KL[j]? = some (.store ia ic fl)) : j = i := by
  unfold onlyStore at h
  rw [List.all_eq_true] at h
  have h1 := h j (List.mem_range.2 (len_of hj))
  rw [hj] at h1
  simpa [OpK.isStore] using h1

/-- What is known of the operations that one waits for. -/
def KnJ (a : Act) (w : World) : OpK → Prop
  | .pure d v => a.tmps[d]? = some v
  | .call d G => ∃ v, a.tmps[d]? = some v ∧ G v w
  | .alloc d _ _ => ∃ A, a.tmps[d]? = some (.pointer (some ⟨A, 0, none⟩))
  | .store _ _ _ => True
  | .same d _ => ∃ v, a.tmps[d]? = some v
def Kn (KL : List OpK) (aft : Array Edge) (a : Act) (w : World) : Prop := ∀ j k, waits aft j = true → KL[j]? = some k → KnJ a w k
theorem Kn.pure {KL : List OpK} {aft : Array Edge} {a : Act} {w : World} (h : Kn KL aft a w) (j : Nat) (d : Nat) (v : Value) (hw : waits aft j = true) (hk : KL[j]? = some (.pure d v)) : a.tmps[d]? = some v := h j _ hw hk
theorem Kn.call {KL : List OpK} {aft : Array Edge} {a : Act} {w : World} (h : Kn KL aft a w) (j : Nat) (d : Nat) (G : Value → World → Prop) (hw : waits aft j = true) (hk : KL[j]? = some (.call d G)) : ∃ v, a.tmps[d]? = some v ∧ G v w := h j _ hw hk

/-- What each operation must do. -/
def OpOK (ops : Array Oper) (Q : Exit → Act → World → Prop) (KL : List OpK) (a0 : Act) (S : World → Prop) (H : Nat) (i : Nat) (aft : Array Edge) : OpK → Prop
  | .pure d v => ∀ (a : Act) (w : World) (K : Act → World → Prop), Sl (KL.filterMap OpK.dst) a0 a → Kn KL aft a w → S w → K (a.put (some d) v) w → wpOp Tryz.prog ops Q i K a w
  | .call d G => ∀ (a : Act) (w : World) (K : Act → World → Prop), Sl (KL.filterMap OpK.dst) a0 a → Kn KL aft a w → S w → H ≤ w.heap.size → (∀ v w' Bs, Kp w w' → (∀ k ∈ Bs, w.heap.size ≤ k ∧ k < w'.heap.size) → Dep Bs (G v) → G v w' → K (a.put (some d) v) w') → wpOp Tryz.prog ops Q i K a w
  | .alloc d cs T => ∀ (a : Act) (w : World) (K : Act → World → Prop), K (a.put (some d) (.pointer (some ⟨w.heap.size, 0, none⟩))) (w.alloc (.cells cs T)) → wpOp Tryz.prog ops Q i K a w
  | .store ia ic fl => ∃ da cs T dc G, KL[ia]? = some (.alloc da cs T) ∧ KL[ic]? = some (.call dc G) ∧ waits aft ia = true ∧ waits aft ic = true ∧ onlyStore KL ia i = true ∧
      ∀ (a : Act) (w : World) (K : Act → World → Prop) A v, a.tmps[da]? = some (.pointer (some ⟨A, 0, none⟩)) → a.tmps[dc]? = some v → G v w → Blk A cs T w → (∀ w', Mk A w w' → Blk A (fl v) T w' → K a w') → wpOp Tryz.prog ops Q i K a w
  | .same d j => ∃ dj G, KL[j]? = some (.call dj G) ∧ waits aft j = true ∧ ∀ (a : Act) (w : World) (K : Act → World → Prop) v, a.tmps[dj]? = some v → K (a.put (some d) v) w → wpOp Tryz.prog ops Q i K a w

/-- What is known of an operation that has come up. -/
def Item (KL : List OpK) (listed : Array Bool) (vals : Nat → Value) (addr : Nat → Nat) (gs : Nat → List Nat) (H : Nat) (a : Act) (w : World) (i : Nat) : OpK → Prop
  | .pure d v => a.tmps[d]? = some v
  | .call d G => a.tmps[d]? = some (vals i) ∧ G (vals i) w ∧ Dep (gs i) (G (vals i)) ∧ ∀ k ∈ gs i, k < w.heap.size ∧ ∀ j d cs T, KL[j]? = some (.alloc d cs T) → listed.getD j false = true → addr j ≠ k
  | .alloc d cs T => a.tmps[d]? = some (.pointer (some ⟨addr i, 0, none⟩)) ∧ H ≤ addr i ∧ addr i < w.heap.size ∧ (∀ j d cs T, j ≠ i → KL[j]? = some (.alloc d cs T) → listed.getD j false = true → addr j ≠ addr i) ∧ ((∀ s ic fl, KL[s]? = some (.store i ic fl) → listed.getD s false = false) → Blk (addr i) cs T w)
  | .store ia ic fl => ∀ d cs T, KL[ia]? = some (.alloc d cs T) → listed.getD ia false = true ∧ listed.getD ic false = true ∧ Blk (addr ia) (fl (vals ic)) T w
  | .same d j => a.tmps[d]? = some (vals j) ∧ listed.getD j false = true
/-- What is known in the end. -/
def FinI (KL : List OpK) (vals : Nat → Value) (addr : Nat → Nat) (H : Nat) (w : World) (i : Nat) : OpK → Prop
  | .pure d v => True
  | .call d G => G (vals i) w
  | .alloc d cs T => H ≤ addr i ∧ addr i < w.heap.size
  | .store ia ic fl => ∀ d cs T, KL[ia]? = some (.alloc d cs T) → Blk (addr ia) (fl (vals ic)) T w
  | .same _ _ => True
def putsL (vals : Nat → Value) (addr : Nat → Nat) : Nat → List OpK → List (Nat × Value)
  | _, [] => []
  | i, k :: ks => match k.dst with
    | some d => (d, k.val vals addr i) :: putsL vals addr (i + 1) ks
    | none => putsL vals addr (i + 1) ks
theorem putsL_mem {vals : Nat → Value} {addr : Nat → Nat} : ∀ {i0 : Nat} {ks : List OpK} {p : Nat × Value}, p ∈ putsL vals addr i0 ks → ∃ (i : Nat) (k : OpK), ks[i]? = some k ∧ k.dst = some p.1 ∧ p.2 = k.val vals addr (i0 + i)
  | _, [], _, h => by cases h
  | i0, k :: ks, p, h => by
    unfold putsL at h
    cases hd : k.dst with
    | none =>
      rw [hd] at h
      obtain ⟨i, k', h1, h2, h3⟩ := putsL_mem h
      exact ⟨i + 1, k', by rw [List.getElem?_cons_succ]; exact h1, h2, by rw [h3, Nat.add_assoc, Nat.add_comm 1 i]⟩
    | some d =>
      rw [hd] at h
      rcases List.mem_cons.1 h with rfl | h
      · exact ⟨0, k, rfl, hd, rfl⟩
      · obtain ⟨i, k', h1, h2, h3⟩ := putsL_mem h
        exact ⟨i + 1, k', by rw [List.getElem?_cons_succ]; exact h1, h2, by rw [h3, Nat.add_assoc, Nat.add_comm 1 i]⟩
theorem putsL_fst {vals : Nat → Value} {addr : Nat → Nat} : ∀ (i0 : Nat) (ks : List OpK), (putsL vals addr i0 ks).map Prod.fst = ks.filterMap OpK.dst
  | _, [] => rfl
  | i0, k :: ks => by
    unfold putsL
    cases hd : k.dst with
    | none => simp [hd, putsL_fst (i0 + 1) ks]
    | some d => simp [hd, putsL_fst (i0 + 1) ks]
theorem fold_put : ∀ (l : List (Nat × Value)) (t : Array Value), (∀ p ∈ l, p.1 < t.size) → (∀ p ∈ l, ∀ q ∈ l, p.1 = q.1 → p.2 = q.2) → ∀ k, (l.foldl (fun t p => t.setIfInBounds p.1 p.2) t)[k]? = t[k]? ∧ k ∉ l.map Prod.fst ∨ ∃ p ∈ l, p.1 = k ∧ (l.foldl (fun t p => t.setIfInBounds p.1 p.2) t)[k]? = some p.2
  | [], t, _, _, k => Or.inl ⟨rfl, by simp⟩
  | p :: l, t, hs, hf, k => by
    rcases fold_put l (t.setIfInBounds p.1 p.2) (fun q hq => by rw [Array.size_setIfInBounds]; exact hs q (List.mem_cons_of_mem _ hq)) (fun q hq r hr => hf q (List.mem_cons_of_mem _ hq) r (List.mem_cons_of_mem _ hr)) k with ⟨h1, h2⟩ | ⟨q, hq, e, h⟩
    · by_cases hk : p.1 = k
      · refine Or.inr ⟨p, List.mem_cons_self, hk, ?_⟩
        show (l.foldl _ (t.setIfInBounds p.1 p.2))[k]? = _
        rw [h1, ← hk, Array.getElem?_setIfInBounds_self_of_lt (hs p List.mem_cons_self)]
      · refine Or.inl ⟨?_, ?_⟩
        · show (l.foldl _ (t.setIfInBounds p.1 p.2))[k]? = _
          rw [h1, Array.getElem?_setIfInBounds_ne hk]
        · simp only [List.map_cons, List.mem_cons, not_or]
          exact ⟨fun e => hk e.symm, h2⟩
    · exact Or.inr ⟨q, List.mem_cons_of_mem _ hq, e, h⟩

theorem count_set : ∀ (l : List Bool) (i : Nat), l[i]? = some false → (l.set i true).count false + 1 = l.count false
  | [], _, h => by simp at h
  | b :: l, 0, h => by
    simp at h
    subst h
    simp
  | b :: l, i + 1, h => by
    have ih := count_set l i (by simpa using h)
    cases b <;> simp [List.count_cons] <;> omega
theorem count_zero {l : List Bool} (h : l.count false = 0) {i : Nat} {b : Bool} (hi : l[i]? = some b) : b = true := by
  cases b with
  | true => rfl
  | false => exact absurd (List.mem_of_getElem? hi) (List.count_eq_zero.1 h)
theorem getD_ne {l : Array Bool} {i j : Nat} {b : Bool} (h : i ≠ j) : (l.setIfInBounds i true).getD j b = l.getD j b := by
  rw [Array.getD_eq_getD_getElem?, Array.getD_eq_getD_getElem?, Array.getElem?_setIfInBounds_ne h]

def JM (KL : List OpK) (a0 : Act) (S : World → Prop) (H : Nat) (n : Nat) (listed : Array Bool) (a : Act) (w : World) : Prop :=
  listed.size = KL.length ∧ n = listed.toList.count false ∧ Sl (KL.filterMap OpK.dst) a0 a ∧ S w ∧ H ≤ w.heap.size ∧ ∃ vals addr gs, ∀ i k, KL[i]? = some k → listed.getD i false = true → Item KL listed vals addr gs H a w i k

theorem mem_dst {KL : List OpK} {i d : Nat} {k : OpK} (h : KL[i]? = some k) (hd : k.dst = some d) : d ∈ KL.filterMap OpK.dst := List.mem_filterMap.2 ⟨k, List.mem_of_getElem? h, hd⟩
theorem Item.kn {KL : List OpK} {listed : Array Bool} {vals : Nat → Value} {addr : Nat → Nat} {gs : Nat → List Nat} {H : Nat} {a : Act} {w : World} {i : Nat} {k : OpK} (h : Item KL listed vals addr gs H a w i k) : KnJ a w k := by
  cases k with
  | pure d v => exact h
  | call d G => exact ⟨_, h.1, h.2.1⟩
  | alloc d cs T => exact ⟨_, h.1⟩
  | store ia ic fl => trivial
  | same d j => exact ⟨_, h.1⟩

/-- The world has grown: what is known of the others stays. -/
theorem Item.grow {KL : List OpK} {listed : Array Bool} {vals : Nat → Value} {addr : Nat → Nat} {gs : Nat → List Nat} {H : Nat} {a : Act} {w w' : World} {i j d : Nat} {k : OpK} {v : Value} {vals' : Nat → Value} {addr' : Nat → Nat} {gs' : Nat → List Nat} {ki : OpK} (hd : apartD KL = true)
    (hi : KL[i]? = some ki) (hdi : ki.dst = some d) (hl : listed.getD i true = false) (kk : Kp w w')
    (ev : ∀ x, x ≠ i → vals' x = vals x) (ea : ∀ x, x ≠ i → addr' x = addr x) (eg : ∀ x, x ≠ i → gs' x = gs x) (ei : ∀ d cs T, ki = .alloc d cs T → w.heap.size ≤ addr' i)
    (hj : KL[j]? = some k) (hji : j ≠ i) (hlj : listed.getD j false = true) (h : Item KL listed vals addr gs H a w j k) :
    Item KL (listed.setIfInBounds i true) vals' addr' gs' H (a.put (some d) v) w' j k := by
  have ne : ∀ d', k.dst = some d' → d ≠ d' := fun d' e e' => hji (apartD_spec hd hj hi e (by rw [hdi, e']))
  have li : listed.getD i false = false := by
    cases hx : listed.getD i false with
    | false => rfl
    | true =>
      rw [Array.getD_eq_getD_getElem?] at hx hl
      cases he : listed[i]? with
      | none => rw [he] at hx; cases hx
      | some b => rw [he] at hx hl; simp at hx hl; rw [hx] at hl; cases hl
  cases k with
  | pure d' v' => exact (put_ne (ne d' rfl)).trans h
  | call d' G =>
    obtain ⟨h1, h2, h3, h4⟩ := h
    show _ ∧ _ ∧ _ ∧ _
    rw [ev j hji, eg j hji]
    refine ⟨(put_ne (ne d' rfl)).trans h1, h3 w w' (fun x hx => kk.2.2.1 x (h4 x hx).1) h2, h3, fun x hx => ⟨Nat.lt_of_lt_of_le (h4 x hx).1 kk.2.2.2, fun m d1 cs T hm hml => ?_⟩⟩
    by_cases hmi : m = i
    · subst hmi
      rw [hi] at hm
      have := ei d1 cs T (Option.some.inj hm)
      have := (h4 x hx).1
      omega
    · rw [ea m hmi]
      exact (h4 x hx).2 m d1 cs T hm (by rwa [getD_ne (Ne.symm hmi)] at hml)
  | alloc d' cs T =>
    obtain ⟨h1, h2, h3, h4, h5⟩ := h
    show _ ∧ _ ∧ _ ∧ _ ∧ _
    rw [ea j hji]
    refine ⟨(put_ne (ne d' rfl)).trans h1, h2, Nat.lt_of_lt_of_le h3 kk.2.2.2, fun m d1 cs1 T1 hmj hm hml => ?_, fun hs => Blk.kp (h5 fun s ic fl hs1 => ?_) kk⟩
    · by_cases hmi : m = i
      · subst hmi
        rw [hi] at hm
        have := ei d1 cs1 T1 (Option.some.inj hm)
        omega
      · rw [ea m hmi]
        exact h4 m d1 cs1 T1 hmj hm (by rwa [getD_ne (Ne.symm hmi)] at hml)
    · by_cases hsi : s = i
      · subst hsi; exact li
      · have := hs s ic fl hs1
        rwa [getD_ne (Ne.symm hsi)] at this
  | store ia ic fl =>
    intro d1 cs T ha
    obtain ⟨h1, h2, h3⟩ := h d1 cs T ha
    have na : ia ≠ i := fun e => by rw [e, li] at h1; cases h1
    have nc : ic ≠ i := fun e => by rw [e, li] at h2; cases h2
    rw [getD_ne (Ne.symm na), getD_ne (Ne.symm nc), ea ia na, ev ic nc]
    exact ⟨h1, h2, Blk.kp h3 kk⟩
  | same d' m =>
    obtain ⟨h1, h2⟩ := h
    have nm : m ≠ i := fun e => by rw [e, li] at h2; cases h2
    show _ ∧ _
    rw [ev m nm, getD_ne (Ne.symm nm)]
    exact ⟨(put_ne (ne d' rfl)).trans h1, h2⟩

/-- A fresh block is filled: what is known of the others stays. -/
theorem Item.fill {KL : List OpK} {listed : Array Bool} {vals : Nat → Value} {addr : Nat → Nat} {gs : Nat → List Nat} {H : Nat} {a : Act} {w w' : World} {i j ia ic : Nat} {fl : Value → Array Value} {k : OpK}
    (hi : KL[i]? = some (.store ia ic fl)) (ho : onlyStore KL ia i = true) {da : Nat} {cs : Array Value} {T : TypeId} (hia : KL[ia]? = some (.alloc da cs T)) (hla : listed.getD ia false = true) (hisz : i < listed.size) (kk : Mk (addr ia) w w')
    (hst : ∀ (j ia' ic' : Nat) (fl' : Value → Array Value), KL[j]? = some (OpK.store ia' ic' fl') → ∃ (da : Nat) (cs : Array Value) (T : TypeId), KL[ia']? = some (OpK.alloc da cs T)) (hA : Item KL listed vals addr gs H a w ia (.alloc da cs T))
    (hj : KL[j]? = some k) (hji : j ≠ i) (h : Item KL listed vals addr gs H a w j k) :
    Item KL (listed.setIfInBounds i true) vals addr gs H a w' j k := by
  have nia : ∀ m d1 cs1 T1, KL[m]? = some (.alloc d1 cs1 T1) → i ≠ m := fun m d1 cs1 T1 hm e => by rw [← e, hi] at hm; cases hm
  cases k with
  | pure d' v' => exact h
  | call d' G =>
    obtain ⟨h1, h2, h3, h4⟩ := h
    refine ⟨h1, h3 w w' (fun x hx => kk.2.2.1 x (h4 x hx).1 (Ne.symm ((h4 x hx).2 ia _ _ _ hia hla))) h2, h3, fun x hx => ⟨Nat.lt_of_lt_of_le (h4 x hx).1 kk.2.2.2, fun m d1 cs T hm hml => ?_⟩⟩
    exact (h4 x hx).2 m d1 cs T hm (by rwa [getD_ne (nia _ _ _ _ hm)] at hml)
  | alloc d' cs' T' =>
    obtain ⟨h1, h2, h3, h4, h5⟩ := h
    refine ⟨h1, h2, Nat.lt_of_lt_of_le h3 kk.2.2.2, fun m d1 cs1 T1 hmj hm hml => h4 m d1 cs1 T1 hmj hm (by rwa [getD_ne (nia _ _ _ _ hm)] at hml), fun hs => ?_⟩
    by_cases hja : j = ia
    · subst hja
      have := hs i ic fl hi
      rw [Array.getD_eq_getD_getElem?, Array.getElem?_setIfInBounds_self_of_lt hisz] at this
      cases this
    · refine Blk.mk (h5 fun s ic' fl' hs1 => ?_) kk (fun e => h4 ia _ _ _ (Ne.symm hja) hia hla e.symm)
      have := hs s ic' fl' hs1
      by_cases hsi : s = i
      · subst hsi
        rw [hi] at hs1
        cases hs1
        exact absurd rfl hja
      · rwa [getD_ne (Ne.symm hsi)] at this
  | store ia' ic' fl' =>
    intro d1 cs1 T1 ha
    obtain ⟨h1, h2, h3⟩ := h d1 cs1 T1 ha
    have na : ia' ≠ ia := fun e => by
      subst e
      exact hji (onlyStore_spec ho hj)
    refine ⟨by rwa [getD_ne (nia _ _ _ _ ha)], ?_, Blk.mk h3 kk (hA.2.2.2.1 ia' _ _ _ na ha h1)⟩
    by_cases hc : i = ic'
    · subst hc
      rw [Array.getD_eq_getD_getElem?, Array.getElem?_setIfInBounds_self_of_lt hisz]
      rfl
    · rwa [getD_ne hc]
  | same d' m =>
    obtain ⟨h1, h2⟩ := h
    refine ⟨h1, ?_⟩
    by_cases hc : i = m
    · subst hc
      rw [Array.getD_eq_getD_getElem?, Array.getElem?_setIfInBounds_self_of_lt hisz]
      rfl
    · rwa [getD_ne hc]

theorem getD_false {l : Array Bool} {i : Nat} (h : l.getD i true = false) : i < l.size ∧ l[i]? = some false := by
  rw [Array.getD_eq_getD_getElem?] at h
  cases he : l[i]? with
  | none => rw [he] at h; cases h
  | some b =>
    rw [he] at h
    simp at h
    subst h
    exact ⟨(Array.getElem?_eq_some_iff.1 he).1, rfl⟩
theorem listed_cases {l : Array Bool} {i j : Nat} (h : (l.setIfInBounds i true).getD j false = true) : j = i ∨ l.getD j false = true := by
  by_cases hj : i = j
  · exact Or.inl hj.symm
  · rw [getD_ne hj] at h
    exact Or.inr h

set_option maxHeartbeats 1000000 in
theorem regM {ops : Array Oper} {Q : Exit → Act → World → Prop} {id : Nat} {a0 : Act} {w : World} (KL : List OpK) (S : World → Prop)
    (hm : Tryz.prog.follows .mixedOrders = true) (hs : ops.size = KL.length) (hbk : backs ops = true) (hd : apartD KL = true) (hz : ∀ d ∈ KL.filterMap OpK.dst, d < a0.tmps.size)
    (hst : ∀ (j ia' ic' : Nat) (fl' : Value → Array Value), KL[j]? = some (OpK.store ia' ic' fl') → ∃ (da : Nat) (cs : Array Value) (T : TypeId), KL[ia']? = some (OpK.alloc da cs T))
    (hop : ∀ i o k, ops[i]? = some o → KL[i]? = some k → OpOK ops Q KL a0 S w.heap.size i o.after k)
    (hS : S w.drew) (hSk : ∀ a b, Kp a b → S a → S b) (hSm : ∀ A a b, w.heap.size ≤ A → Mk A a b → S a → S b)
    (fin : ∀ (vals : Nat → Value) (addr : Nat → Nat) (w' : World), S w' → w.heap.size ≤ w'.heap.size → (∀ i k, KL[i]? = some k → FinI KL vals addr w.heap.size w' i k) →
      Q .normal ⟨(putsL vals addr 0 KL).foldl (fun t p => t.setIfInBounds p.1 p.2) a0.tmps, a0.defers⟩ w') :
    (Code.region id ops true).wp Tryz.prog Q a0 w := by
  refine wp_region_any hm ?_
  refine wpAny_inv (JM KL a0 S w.heap.size) ?_ ?_ ops.size _ _ _ ?_
  · rintro listed a w1 ⟨j1, j2, sl, hx, hH, vals, addr, gs, it⟩
    have all : ∀ i k, KL[i]? = some k → listed.getD i false = true := fun i k hk => by
      have hi : i < listed.size := by rw [j1]; exact len_of hk
      have e : listed.toList[i]? = some listed[i] := by simp [hi]
      rw [Array.getD_eq_getD_getElem?, Array.getElem?_eq_getElem hi]
      exact count_zero j2.symm e
    refine ⟨?_, ?_⟩
    · apply List.eq_nil_iff_forall_not_mem.2
      intro i hi
      obtain ⟨h1, h2, _⟩ := ready_mem hi
      obtain ⟨hi', h3⟩ := getD_false h2
      have h4 := all i KL[i] (by rw [List.getElem?_eq_getElem])
      rw [Array.getD_eq_getD_getElem?, h3] at h4
      cases h4
    · have ea : a = ⟨(putsL vals addr 0 KL).foldl (fun t p => t.setIfInBounds p.1 p.2) a0.tmps, a0.defers⟩ := by
        obtain ⟨t, df⟩ := a
        obtain ⟨s1, s2, s3⟩ := sl
        have ed : df = a0.defers := s1
        subst ed
        congr 1
        apply Array.ext_getElem?
        intro x
        rcases fold_put (putsL vals addr 0 KL) a0.tmps (fun p hp => hz _ (by rw [← putsL_fst (vals := vals) (addr := addr) 0 KL]; exact List.mem_map_of_mem hp)) (fun p hp q hq e => by
          obtain ⟨i, k, h1, h2, h3⟩ := putsL_mem hp
          obtain ⟨i', k', h1', h2', h3'⟩ := putsL_mem hq
          obtain rfl := apartD_spec hd h1 h1' h2 (by rw [h2', e])
          rw [h1] at h1'
          cases h1'
          rw [h3, h3']) x with ⟨h1, h2⟩ | ⟨p, hp, rfl, h⟩
        · rw [h1]
          rw [putsL_fst] at h2
          exact s3 x h2
        · rw [h]
          obtain ⟨i, k, h1, h2, h3⟩ := putsL_mem hp
          have I := it i k h1 (all i k h1)
          rw [h3, Nat.zero_add]
          cases k with
          | pure d v => cases h2; exact I
          | call d G => cases h2; exact I.1
          | alloc d cs T => cases h2; exact I.1
          | store ia ic fl => cases h2
          | same d j => cases h2; exact I.1
      rw [ea]
      refine fin vals addr w1 hx hH fun i k hk => ?_
      have I := it i k hk (all i k hk)
      cases k with
      | pure d v => trivial
      | call d G => exact I.2.1
      | alloc d cs T => exact ⟨I.2.1, I.2.2.1⟩
      | store ia ic fl => exact fun d cs T ha => (I d cs T ha).2.2
      | same d j => trivial
  · rintro n listed a w1 ⟨j1, j2, sl, hx, hH, vals, addr, gs, it⟩
    refine ⟨?_, fun i hi => ?_⟩
    · have : ∃ i : Nat, listed.toList[i]? = some false := by
        have : false ∈ listed.toList := List.count_pos_iff.1 (by omega)
        exact List.mem_iff_getElem?.1 this
      obtain ⟨i, hi⟩ := this
      have hi' : listed[i]? = some false := by simpa using hi
      have hlt := (Array.getElem?_eq_some_iff.1 hi').1
      exact ready_ne hbk (by rw [hs, j1]) i i (Nat.le_refl _) (by omega) (by rw [Array.getD_eq_getD_getElem?, hi']; rfl)
    · obtain ⟨hi1, hl, hwt⟩ := ready_mem hi
      obtain ⟨hisz, hlf⟩ := getD_false hl
      obtain ⟨o, ho⟩ : ∃ o, ops[i]? = some o := ⟨ops[i], by simp [hi1]⟩
      obtain ⟨k, hk⟩ : ∃ k, KL[i]? = some k := ⟨KL[i], by rw [List.getElem?_eq_getElem]⟩
      have hok := hop i o k ho hk
      have kn : Kn KL o.after a w1 := fun j kj hw hkj => (it j kj hkj (ready_waits hi ho hw)).kn
      have hcount : n = (listed.setIfInBounds i true).toList.count false := by
        have := count_set listed.toList i (by simpa using hlf)
        rw [Array.toList_setIfInBounds]
        omega
      have hsz' : (listed.setIfInBounds i true).size = KL.length := by rw [Array.size_setIfInBounds, j1]
      have lnot : ∀ j, listed.getD j false = true → j ≠ i := fun j hj e => by
        subst e
        rw [Array.getD_eq_getD_getElem?, hlf] at hj
        cases hj
      cases k with
      | pure d v =>
        refine hok a w1 _ sl kn hx ⟨hsz', hcount, sl.put _ _ (mem_dst hk rfl), hx, hH, vals, addr, gs, fun j kj hkj hlj => ?_⟩
        by_cases hji : j = i
        · subst hji
          rw [hk] at hkj
          cases hkj
          exact put_same (by rw [sl.2.1]; exact hz _ (mem_dst hk rfl))
        · have hlj' := (listed_cases hlj).resolve_left hji
          exact (it j kj hkj hlj').grow hd hk rfl hl (Kp.refl _) (fun _ _ => rfl) (fun _ _ => rfl) (fun _ _ => rfl) (fun _ _ _ e => by cases e) hkj hji hlj'
      | call d G =>
        refine hok a w1 _ sl kn hx hH fun v w2 Bs kk hB hdep hG => ⟨hsz', hcount, sl.put _ _ (mem_dst hk rfl), hSk _ _ kk hx, Nat.le_trans hH kk.2.2.2, fun x => if x = i then v else vals x, addr, fun x => if x = i then Bs else gs x, fun j kj hkj hlj => ?_⟩
        by_cases hji : j = i
        · subst hji
          rw [hk] at hkj
          cases hkj
          show _ ∧ _ ∧ _ ∧ _
          simp only [if_pos]
          refine ⟨put_same (by rw [sl.2.1]; exact hz _ (mem_dst hk rfl)), hG, hdep, fun x hx => ⟨(hB x hx).2, fun m d1 cs T hm hml => ?_⟩⟩
          have hmi : m ≠ j := fun e => by subst e; rw [hk] at hm; cases hm
          have hml' := (listed_cases hml).resolve_left hmi
          have := (it m _ hm hml').2.2.1
          have := (hB x hx).1
          omega
        · have hlj' := (listed_cases hlj).resolve_left hji
          exact (it j kj hkj hlj').grow hd hk rfl hl kk (fun x hx => if_neg hx) (fun _ _ => rfl) (fun x hx => if_neg hx) (fun _ _ _ e => by cases e) hkj hji hlj'
      | alloc d cs T =>
        have kk : Kp w1 (w1.alloc (.cells cs T)) := (Kp.refl _).alloc _ _
        refine hok a w1 _ ⟨hsz', hcount, sl.put _ _ (mem_dst hk rfl), hSk _ _ kk hx, Nat.le_trans hH kk.2.2.2, vals, fun x => if x = i then w1.heap.size else addr x, gs, fun j kj hkj hlj => ?_⟩
        by_cases hji : j = i
        · subst hji
          rw [hk] at hkj
          cases hkj
          show _ ∧ _ ∧ _ ∧ _ ∧ _
          simp only [if_pos]
          refine ⟨put_same (by rw [sl.2.1]; exact hz _ (mem_dst hk rfl)), hH, by simp, fun m d1 cs1 T1 hmj hm hml => ?_, fun _ => Blk.new w1 _ _⟩
          rw [if_neg hmj]
          have := (it m _ hm ((listed_cases hml).resolve_left hmj)).2.2.1
          omega
        · have hlj' := (listed_cases hlj).resolve_left hji
          exact (it j kj hkj hlj').grow hd hk rfl hl kk (fun _ _ => rfl) (fun x hx => if_neg hx) (fun _ _ => rfl) (fun _ _ _ e => by rw [if_pos rfl]; exact Nat.le_refl _) hkj hji hlj'
      | store ia ic fl =>
        obtain ⟨da, cs, T, dc, G, h1, h2, w1', w2', h5, h6⟩ := hok
        have la := ready_waits hi ho w1'
        have lc := ready_waits hi ho w2'
        have Ia := it ia _ h1 la
        have Ic := it ic _ h2 lc
        refine h6 a w1 _ (addr ia) (vals ic) Ia.1 Ic.1 Ic.2.1 (Ia.2.2.2.2 fun s ic' fl' hs1 => ?_) fun w2 mk bl => ⟨hsz', hcount, sl, hSm _ _ _ Ia.2.1 mk hx, Nat.le_trans hH mk.2.2.2, vals, addr, gs, fun j kj hkj hlj => ?_⟩
        · obtain rfl := onlyStore_spec h5 hs1
          rw [Array.getD_eq_getD_getElem?, hlf]; rfl
        · by_cases hji : j = i
          · subst hji
            rw [hk] at hkj
            cases hkj
            intro d1 cs1 T1 ha
            rw [h1] at ha
            cases ha
            exact ⟨by rw [getD_ne (Ne.symm (lnot _ la))]; exact la, by rw [getD_ne (Ne.symm (lnot _ lc))]; exact lc, bl⟩
          · have hlj' := (listed_cases hlj).resolve_left hji
            exact Item.fill hk h5 h1 la hisz mk hst Ia hkj hji (it j kj hkj hlj')
      | same d m =>
        obtain ⟨dm, G, h1, w1', h6⟩ := hok
        have lm := ready_waits hi ho w1'
        have Im := it m _ h1 lm
        refine h6 a w1 _ (vals m) Im.1 ⟨hsz', hcount, sl.put _ _ (mem_dst hk rfl), hx, hH, vals, addr, gs, fun j kj hkj hlj => ?_⟩
        by_cases hji : j = i
        · subst hji
          rw [hk] at hkj
          cases hkj
          exact ⟨put_same (by rw [sl.2.1]; exact hz _ (mem_dst hk rfl)), by rw [getD_ne (Ne.symm (lnot _ lm))]; exact lm⟩
        · have hlj' := (listed_cases hlj).resolve_left hji
          exact (it j kj hkj hlj').grow hd hk rfl hl (Kp.refl _) (fun _ _ => rfl) (fun _ _ => rfl) (fun _ _ => rfl) (fun _ _ _ e => by cases e) hkj hji hlj'
  · refine ⟨by rw [Array.size_replicate, hs], by simp, Sl.refl _ _, hS, Nat.le_refl _, fun _ => undef, fun _ => 0, fun _ => [], fun i k hk hl => ?_⟩
    rw [Array.getD_eq_getD_getElem?] at hl
    by_cases hi : i < ops.size
    · simp [hi] at hl
    · simp [hi] at hl

end Go.Proofs.YtopaakjildmjcaaGreat

/- 'x, y := CopyMat(..), ..': the kinds of operations that such regions hold (RegM), and what stays beside them. -/
namespace Go.Proofs.YtopaakjildmjcaaGreat
open Go.RowKit Go.Shelf Go.Proofs.Wd
set_option linter.unusedVariables false
set_option linter.unusedSimpArgs false
set_option maxRecDepth 10000

def aggOf : Value → Array Value
  | .agg cs => cs
  | _ => #[]
/-- A matrix that was made; it lies beside all below H. -/
def GM (r c : Int) (n : Nat) (Z : Nat → Int) (H : Nat) (v : Value) (w : World) : Prop := ∃ ao cap, v = .agg #[.int .i64 r, .int .i64 c, .slice ao n cap] ∧ n ≤ cap ∧ Row w ao n Z ∧ ∀ U, U < H → Off U n ao
/-- A list that was made. -/
def GI (n : Nat) (Z : Nat → Int) (H : Nat) (v : Value) (w : World) : Prop := ∃ ao cap, v = .slice ao n cap ∧ n ≤ cap ∧ Row w ao n Z ∧ ∀ U, U < H → Off U n ao
theorem row_dep {ao : Option Addr} {n : Nat} {Z : Nat → Int} {w w' : World} (row : Row w' ao n Z) (off : ∀ U, U < w.heap.size → Off U n ao) : ∃ Bs : List Nat, (∀ k ∈ Bs, w.heap.size ≤ k ∧ k < w'.heap.size) ∧ Dep Bs (fun wx => Row wx ao n Z) := by
  by_cases hn : n = 0
  · exact ⟨[], fun _ h => absurd h List.not_mem_nil, fun _ _ _ _ => Or.inl hn⟩
  · rcases row with h0 | ⟨b, o, rfl, hc⟩
    · exact absurd h0 hn
    · refine ⟨[b], fun k hk => ?_, fun w1 w2 he h => ?_⟩
      · rcases List.mem_singleton.1 hk with rfl
        refine ⟨Nat.le_of_not_lt fun hlt => off k hlt (by omega) _ rfl rfl, heap_gt (hc 0 (by omega))⟩
      · rcases h with h0 | ⟨b', o', e, hc'⟩
        · exact absurd h0 hn
        · cases e
          exact Or.inr ⟨b, o, rfl, fun i hi => (World.cell?_of_block (he b (by simp))).trans (hc' i hi)⟩
theorem copyM_dep {r c : Int} {n H : Nat} {Z : Nat → Int} {w w' : World} {e : Ending} (h : CopyM r c n Z w e w') (hH : H ≤ w.heap.size) : ∃ v Bs, e = .returned v ∧ Kp w w' ∧ (∀ k ∈ Bs, w.heap.size ≤ k ∧ k < w'.heap.size) ∧ Dep Bs (GM r c n Z H v) ∧ GM r c n Z H v w' := by
  obtain ⟨ao, cap, rfl, hc, row, off, kp⟩ := h
  obtain ⟨Bs, h1, h2⟩ := row_dep row off
  refine ⟨_, Bs, rfl, kp, h1, fun w1 w2 he hg => ?_, ao, cap, rfl, hc, row, fun U hU => off U (by omega)⟩
  obtain ⟨ao', cap', e, h3, h4, h5⟩ := hg
  cases e
  exact ⟨ao, cap, rfl, h3, h2 w1 w2 he h4, h5⟩
theorem copyQ_dep {n H : Nat} {Z : Nat → Int} {w w' : World} {e : Ending} (h : CopyQ n Z w e w') (hH : H ≤ w.heap.size) : ∃ v Bs, e = .returned v ∧ Kp w w' ∧ (∀ k ∈ Bs, w.heap.size ≤ k ∧ k < w'.heap.size) ∧ Dep Bs (GI n Z H v) ∧ GI n Z H v w' := by
  obtain ⟨ao, cap, rfl, hc, row, off, kp⟩ := h
  obtain ⟨Bs, h1, h2⟩ := row_dep row off
  refine ⟨_, Bs, rfl, kp, h1, fun w1 w2 he hg => ?_, ao, cap, rfl, hc, row, fun U hU => off U (by omega)⟩
  obtain ⟨ao', cap', e, h3, h4, h5⟩ := hg
  cases e
  exact ⟨ao, cap, rfl, h3, h2 w1 w2 he h4, h5⟩

section
variable {ops : Array Oper} {Q : Exit → Act → World → Prop} {KL : List OpK} {a0 : Act} {S : World → Prop} {H i d k j : Nat} {T : TypeId} {pos : String} {aft : Array Edge}
theorem okLoad {B : Nat} {v0 v1 v2 : Value} (hi : ops[i]? = some ⟨some d, .load 24 (.tmp k), T, pos, aft, none⟩) (hk : (KL.filterMap OpK.dst).contains k = false) (g : a0.tmps[k]? = some (.pointer (some ⟨B, 0, none⟩))) (hb : ∀ w, S w → Blk B #[v0, v1, v2] 24 w) : OpOK ops Q KL a0 S H i aft (.pure d (.agg #[v0, v1, v2])) :=
  fun a w K sl kn hs h => wpOp_load hi ((sl.2.2 k (by simpa using hk)).trans g) (hb w hs) h
theorem okMove {v : Value} (hi : ops[i]? = some ⟨some d, .move (.tmp k), T, pos, aft, none⟩) (hk : (KL.filterMap OpK.dst).contains k = false) (g : a0.tmps[k]? = some v) : OpOK ops Q KL a0 S H i aft (.pure d v) := by
  intro a w K sl kn hs h
  refine wpOp_of hi rfl ?_
  have ev := (sl.2.2 k (by simpa using hk)).trans g
  unfold Oper.wp
  simp [go_sem, ev]
  exact h
theorem okCall1 {f dj : Nat} {vj : Value} {T1 : TypeId} {G : Value → World → Prop} (hi : ops[i]? = some ⟨some d, .call ⟨.value (.func f), #[.tmp dj], #[T1]⟩, T, pos, aft, none⟩) (hj : KL[j]? = some (.pure dj vj)) (hw : waits aft j = true) (hf : ∀ w, Sem.run Tryz.prog (callFunc f #[vj]) w = .ok (.enter f #[vj]) w)
    (hc : ∀ w, S w → H ≤ w.heap.size → Calls Tryz.prog f #[vj] w fun e w' => ∃ v Bs, e = .returned v ∧ Kp w w' ∧ (∀ k ∈ Bs, w.heap.size ≤ k ∧ k < w'.heap.size) ∧ Dep Bs (G v) ∧ G v w') : OpOK ops Q KL a0 S H i aft (.call d G) := by
  intro a w K sl kn hs hH h
  refine wpOp_of hi rfl ?_
  have ev := kn.pure j dj vj hw hj
  unfold Oper.wp
  simp [go_sem, ev, hf]
  refine (hc w hs hH).mono ?_
  rintro e w' ⟨v, Bs, rfl, h1, h2, h3, h4⟩
  exact h v w' Bs h1 h2 h3 h4
theorem okAlloc (hi : ops[i]? = some ⟨some d, .alloc 24, T, pos, aft, none⟩) : OpOK ops Q KL a0 S H i aft (.alloc d #[.int .i64 0, .int .i64 0, .slice none 0 0] 24) :=
  fun a w K h => wpOp_alloc hi h
theorem okStore {da dc ia ic : Nat} {r c : Int} {n H' : Nat} {Z : Nat → Int} (hi : ops[i]? = some ⟨none, .store 24 (.tmp da) (.tmp dc), T, pos, aft, none⟩) (h1 : KL[ia]? = some (.alloc da #[.int .i64 0, .int .i64 0, .slice none 0 0] 24)) (h2 : KL[ic]? = some (.call dc (GM r c n Z H'))) (w1 : waits aft ia = true) (w2 : waits aft ic = true) (ho : onlyStore KL ia i = true) : OpOK ops Q KL a0 S H i aft (.store ia ic aggOf) := by
  refine ⟨_, _, _, _, _, h1, h2, w1, w2, ho, fun a w K A v ha hv hG hB h => ?_⟩
  obtain ⟨ao, cap, rfl, _⟩ := hG
  exact wpOp_store hi ha hv hB fun w' m b => h w' (Mk.of m) b
theorem okSame {dj : Nat} {G : Value → World → Prop} (hi : ops[i]? = some ⟨some d, .assign (.tmp dj), T, pos, aft, none⟩) (hj : KL[j]? = some (.call dj G)) (hw : waits aft j = true) : OpOK ops Q KL a0 S H i aft (.same d j) := by
  refine ⟨_, _, hj, hw, fun a w K v hv h => ?_⟩
  refine wpOp_of hi rfl ?_
  unfold Oper.wp
  simp [go_sem, hv]
  exact h
end

/-- Each operation of a region, one behind the other. -/
def OpsOK (ops : Array Oper) (Q : Exit → Act → World → Prop) (KL : List OpK) (a0 : Act) (S : World → Prop) (H : Nat) : Nat → List Oper → List OpK → Prop
  | _, [], _ => True
  | _, _ :: _, [] => False
  | i, o :: os, k :: ks => OpOK ops Q KL a0 S H i o.after k ∧ OpsOK ops Q KL a0 S H (i + 1) os ks
theorem OpsOK.hop {ops : Array Oper} {Q : Exit → Act → World → Prop} {KL : List OpK} {a0 : Act} {S : World → Prop} {H : Nat} : ∀ {i0 : Nat} {os : List Oper} {ks : List OpK}, OpsOK ops Q KL a0 S H i0 os ks → ∀ (i : Nat) (o : Oper) (k : OpK), os[i]? = some o → ks[i]? = some k → OpOK ops Q KL a0 S H (i0 + i) o.after k
  | _, [], _, _, i, o, k, ho, _ => by simp at ho
  | _, _ :: _, [], h, _, _, _, _, _ => h.elim
  | i0, o' :: os, k' :: ks, h, 0, o, k, ho, hk => by
    simp at ho hk
    subst ho hk
    exact h.1
  | i0, o' :: os, k' :: ks, h, i + 1, o, k, ho, hk => by
    have := OpsOK.hop h.2 i o k (by simpa using ho) (by simpa using hk)
    rwa [show i0 + (i + 1) = i0 + 1 + i from by omega]
theorem regN {ops : Array Oper} {Q : Exit → Act → World → Prop} {id : Nat} {a0 : Act} {w : World} (KL : List OpK) (S : World → Prop)
    (hm : Tryz.prog.follows .mixedOrders = true) (hs : ops.size = KL.length) (hbk : backs ops = true) (hd : apartD KL = true) (hz : (KL.filterMap OpK.dst).all (fun d => decide (d < a0.tmps.size)) = true)
    (hst : KL.all (fun k => match k with | .store ia _ _ => (match KL[ia]? with | some (.alloc _ _ _) => true | _ => false) | _ => true) = true)
    (hop : OpsOK ops Q KL a0 S w.heap.size 0 ops.toList KL)
    (hS : S w.drew) (hSk : ∀ a b, Kp a b → S a → S b) (hSm : ∀ A a b, w.heap.size ≤ A → Mk A a b → S a → S b)
    (fin : ∀ (vals : Nat → Value) (addr : Nat → Nat) (w' : World), S w' → w.heap.size ≤ w'.heap.size → (∀ i k, KL[i]? = some k → FinI KL vals addr w.heap.size w' i k) →
      Q .normal ⟨(putsL vals addr 0 KL).foldl (fun t p => t.setIfInBounds p.1 p.2) a0.tmps, a0.defers⟩ w') :
    (Code.region id ops true).wp Tryz.prog Q a0 w := by
  refine regM KL S hm hs hbk hd (fun d hd => by simpa using List.all_eq_true.1 hz d hd) (fun j ia ic fl hj => ?_) (fun i o k ho hk => ?_) hS hSk hSm fin
  · have h := List.all_eq_true.1 hst _ (List.mem_of_getElem? hj)
    simp only at h
    cases hk : KL[ia]? with
    | none => rw [hk] at h; cases h
    | some k =>
      rw [hk] at h
      cases k with
      | alloc d cs T => exact ⟨d, cs, T, rfl⟩
      | pure _ _ => cases h
      | call _ _ => cases h
      | store _ _ _ => cases h
      | same _ _ => cases h
  · have := hop.hop i o k (by simpa using ho) hk
    rwa [Nat.zero_add] at this

/-- What stays beside: boxes and lists, and X. -/
def SL (H : Nat) (w0 : World) (E : List Nat) (bx : List (Nat × Array Value)) (rows : List (Option Addr × Nat × (Nat → Int))) (X : World → Prop) (wx : World) : Prop :=
  LS w0 E bx rows wx ∧ X wx ∧ (∀ A, H ≤ A → OffR A bx rows) ∧ (∀ e ∈ E, e < H) ∧ w0.heap.size ≤ H
section
variable {w0 a b : World} {E : List Nat} {bx : List (Nat × Array Value)} {rows : List (Option Addr × Nat × (Nat → Int))} {X : World → Prop} {H A : Nat}
theorem LS.mkOff (h : LS w0 E bx rows a) (m : Mk A a b) (hw : w0.heap.size ≤ A) (f : OffR A bx rows) : LS w0 E bx rows b :=
  ⟨h.1.mk m hw, fun e he => ⟨(h.2.1 e he).1, Nat.lt_of_lt_of_le (h.2.1 e he).2 m.2.2.2⟩, fun x hx => ⟨Blk.mk (h.2.2.1 x hx).1 m (f.1 x hx), (h.2.2.1 x hx).2⟩, fun r hr => ⟨(h.2.2.2 r hr).1.mk m (f.2 r hr), (h.2.2.2 r hr).2⟩⟩
theorem SL.of (h : LS w0 E bx rows a) (hx : X a) : SL a.heap.size w0 E bx rows X a := ⟨h, hx, fun A hA => h.fresh hA, fun e he => (h.2.1 e he).2, h.1.2.2.2⟩
theorem SL.kp (hX : ∀ a b, Kp a b → X a → X b) (k : Kp a b) (h : SL H w0 E bx rows X a) : SL H w0 E bx rows X b := ⟨h.1.kp k, hX a b k h.2.1, h.2.2⟩
theorem SL.mk (hX : ∀ A a b, H ≤ A → Mk A a b → X a → X b) (hA : H ≤ A) (m : Mk A a b) (h : SL H w0 E bx rows X a) : SL H w0 E bx rows X b := ⟨h.1.mkOff m (Nat.le_trans h.2.2.2.2 hA) (h.2.2.1 A hA), hX A a b hA m h.2.1, h.2.2⟩
theorem LS.boxA {cs : Array Value} (h : LS w0 E bx rows a) (hb : Blk A cs 24 a) (hA : A ∉ E) : LS w0 E ((A, cs) :: bx) rows a :=
  ⟨h.1, h.2.1, fun x hx => by
    rcases List.mem_cons.1 hx with rfl | hx
    · exact ⟨hb, hA⟩
    · exact h.2.2.1 x hx, h.2.2.2⟩
end

end Go.Proofs.YtopaakjildmjcaaGreat

/- Laws with a unit and the document's unit under way. -/
namespace Go.Proofs.YtopaakjildmjcaaGreat
open Go.RowKit Go.Shelf Go.Proofs.Wd
set_option linter.unusedVariables false
set_option linter.unusedSimpArgs false
set_option maxRecDepth 10000

theorem LS.nilD (w : World) : LS w [] [] [] w := ⟨Kp.refl _, fun _ h => absurd h List.not_mem_nil, fun _ h => absurd h List.not_mem_nil, fun _ h => absurd h List.not_mem_nil⟩
theorem LS.subD {w : World} {E E' : List Nat} {bx bx' : List (Nat × Array Value)} {rows rows' : List (Option Addr × Nat × (Nat → Int))} {wx : World} (h : LS w E bx rows wx) (hE : ∀ x ∈ E', x ∈ E) (hb : ∀ x ∈ bx', x ∈ bx) (hr : ∀ x ∈ rows', x ∈ rows) : LS w E' bx' rows' wx :=
  ⟨h.1, fun e he => h.2.1 e (hE e he), fun b hb' => ⟨(h.2.2.1 b (hb b hb')).1, fun he => (h.2.2.1 b (hb b hb')).2 (hE _ he)⟩, fun r hr' => ⟨(h.2.2.2 r (hr r hr')).1, fun e he => (h.2.2.2 r (hr r hr')).2 e (hE e he)⟩⟩
theorem LS.swapD {w : World} {U V : Nat} {bx : List (Nat × Array Value)} {rows : List (Option Addr × Nat × (Nat → Int))} {wx : World} (h : LS w [V, U] bx rows wx) : LS w [U, V] bx rows wx :=
  h.subD (fun x hx => by simp at hx ⊢; exact hx.symm) (fun _ h => h) (fun _ h => h)
theorem LS.cellsD {w : World} {E : List Nat} {bx : List (Nat × Array Value)} {rows : List (Option Addr × Nat × (Nat → Int))} {wx : World} (h : LS w E bx rows wx) {b : Nat} {x y z : Value} (hb : (b, #[x, y, z]) ∈ bx) : wx.cell? ⟨b, 0, none⟩ = some x ∧ wx.cell? ⟨b, 1, none⟩ = some y ∧ wx.cell? ⟨b, 2, none⟩ = some z := ⟨h.cell hb 0, h.cell hb 1, h.cell hb 2⟩
section
variable {w : World} {U V : Nat} {cu cv cu' cv' : Array Value} {tu tv : TypeId} {bx : List (Nat × Array Value)} {rows : List (Option Addr × Nat × (Nat → Int))} {wx w' : World} {r c err : Int} {len : Nat} {Z : Nat → Int} {e : Ending}
theorem TS.toldDoc (h : TS w U V cu tu cv tv bx rows wx) (m : DocP r c len Z err (fun w' => Blk V cv' tv w' ∧ Mk V wx w') wx e w') :
    ∃ ao cap, e = .returned (.tuple #[.agg #[.int .i64 r, .int .i64 c, .slice ao len cap], .int .i64 err]) ∧ len ≤ cap ∧ TS w U V cu tu cv' tv bx ((ao, len, Z) :: rows) w' := by
  obtain ⟨ao, cap, rfl, h1, h2, h3, h4, h5⟩ := m
  have t := h.mkV h5 h4
  exact ⟨ao, cap, rfl, h1, t.1, t.2.1, t.2.2.1, t.2.2.2.row h2 (fun e he => h3 e (h.2.2.2.2.1 e he).2)⟩
theorem TS.listDoc (h : TS w U V cu tu cv tv bx rows wx) (m : LiD len Z err (fun w' => Blk V cv' tv w' ∧ Mk V wx w') wx e w') :
    ∃ ao cap, e = .returned (.tuple #[.slice ao len cap, .int .i64 err]) ∧ len ≤ cap ∧ TS w U V cu tu cv' tv bx ((ao, len, Z) :: rows) w' := by
  obtain ⟨ao, cap, rfl, h1, h2, h3, h4, h5⟩ := m
  have t := h.mkV h5 h4
  exact ⟨ao, cap, rfl, h1, t.1, t.2.1, t.2.2.1, t.2.2.2.row h2 (fun e he => h3 e (h.2.2.2.2.1 e he).2)⟩
theorem TS.listU (h : TS w U V cu tu cv tv bx rows wx) (m : ListP len Z err (fun w' => Blk U cu' tu w' ∧ Mk U wx w') wx e w') :
    ∃ ao cap, e = .returned (.tuple #[.slice ao len cap, .int .i64 err]) ∧ len ≤ cap ∧ TS w U V cu' tu cv tv bx ((ao, len, Z) :: rows) w' := by
  obtain ⟨ao, cap, B, rfl, h1, h2, h3, h4, h5⟩ := m
  have t := h.mkU h5 h4
  refine ⟨ao, cap, rfl, h3, t.1, t.2.1, t.2.2.1, t.2.2.2.row ?_ (fun e he => ?_)⟩
  · rcases h2 with rfl | ⟨rfl, hb⟩
    · exact Or.inl rfl
    · exact hb.row
  · rcases h2 with rfl | ⟨rfl, hb⟩
    · exact fun hl => absurd hl (Nat.lt_irrefl _)
    · exact fun _ a ha => by cases ha; have := (h.2.2.2.2.1 e he).2; show B ≠ e; omega
end
theorem refUCutD (R : Nat) (c : Bool) (n : Int) (w : World) (h : RC R c n w) : Calls Tryz.prog 16 #[.pointer (some ⟨R, 0, none⟩)] w fun e w' => e = .returned (.bool c) ∧ w' = w := by
  have c0 := RC.c0 h
  clear h
  go_enter Tryz.func16, Tryz.ntmps16
  go_wp2
  go_ret
  exact ⟨rfl, rfl⟩

end Go.Proofs.YtopaakjildmjcaaGreat

/- A law with both units under way. -/
namespace Go.Proofs.YtopaakjildmjcaaGreat
open Go.RowKit Go.Shelf Go.Proofs.Wd
set_option linter.unusedVariables false
set_option linter.unusedSimpArgs false
set_option maxRecDepth 10000

def UE (U : Nat) (c : Bool) (d : Int) (wx : World) : Prop := ∃ n, 0 ≤ n ∧ n ≤ d ∧ UC U c n wx
def RE (R : Nat) (c : Bool) (d : Int) (wx : World) : Prop := ∃ n, 0 ≤ n ∧ n ≤ d ∧ RC R c n wx
theorem ue_dep (U : Nat) (c : Bool) (d : Int) : DepL [U] (UE U c d) := fun w w' h ⟨n, h2, h3, h4⟩ => ⟨n, h2, h3, (h U (by simp)).trans h4⟩
theorem re_dep (U : Nat) (c : Bool) (d : Int) : DepL [U] (RE U c d) := fun w w' h ⟨n, h2, h3, h4⟩ => ⟨n, h2, h3, (h U (by simp)).trans h4⟩
/-- Numbers that a call made, if there are any. -/
def ovD (B len : Nat) : List Nat := if len = 0 then [] else [B]
def OvP (ao : Option Addr) (B len : Nat) (Z : Nat → Int) (W : World) : Prop := len = 0 ∨ (ao = some ⟨B, 0, none⟩ ∧ Own B len Z W)
theorem ov_dep (ao : Option Addr) (B len : Nat) (Z : Nat → Int) : DepL (ovD B len) (OvP ao B len Z) := fun w w' h k => by
  rcases k with k | ⟨e, cur, h1, h2⟩
  · exact Or.inl k
  · by_cases h0 : len = 0
    · exact Or.inl h0
    · refine Or.inr ⟨e, cur, (h B ?_).trans h1, h2⟩
      unfold ovD
      rw [if_neg h0]
      simp
theorem OvP.row {ao : Option Addr} {B len : Nat} {Z : Nat → Int} {W : World} (h : OvP ao B len Z W) : Row W ao len Z := h.elim Or.inl fun ⟨e, k⟩ => by subst e; exact k.row
theorem true_dep (D : List Nat) : DepL D (fun _ => True) := fun _ _ _ _ => trivial

section
variable {w wx w' : World} {es pre post fs : List Ob} {U R : Nat} {c : Bool} {d : Int}
theorem ST.unitE (pre : List Ob) (h : ST w (pre ++ ([U], UE U c d) :: post) fs wx) : ∃ n, 0 ≤ n ∧ n ≤ d ∧ UC U c n wx := h.ob (c := ([U], UE U c d)) (by simp)
theorem ST.unitR (pre : List Ob) (h : ST w (pre ++ ([R], RE R c d) :: post) fs wx) : ∃ n, 0 ≤ n ∧ n ≤ d ∧ RC R c n wx := h.ob (c := ([R], RE R c d)) (by simp)
theorem ST.offE (h : ST w es fs wx) {ao : Option Addr} {len : Nat} {Z : Nat → Int} (hf : fRow ao len Z ∈ fs) {c : Ob} (hc : c ∈ es) {U : Nat} (hU : U ∈ c.1) : Off U len ao := h.off hf hc hU
/-- The program's call that tells a matrix, which will be written over. -/
theorem ST.callV {F : Nat} {args : Array Value} {q : VO} (pre : List Ob) (d' : Int) (h : ST w (pre ++ ([U], UE U c d) :: post) fs wx) (hD : d ≤ 1000000000) (hD' : d + 200000 ≤ d')
    (m : ∀ n0, 0 ≤ n0 ∧ n0 < 100000000000000000 → UC U c n0 wx → Calls Tryz.prog F args wx fun e w' => ValP q.r q.c q.len q.Z q.err (fun w' => UW U q.cut n0 200000 w' ∧ Mk U wx w') wx e w') :
    Calls Tryz.prog F args wx fun e w' => ∃ ao cap B, e = .returned (.tuple #[.agg #[.int .i64 q.r, .int .i64 q.c, .slice ao q.len cap], .int .i64 q.err]) ∧ q.len ≤ cap ∧ ST w ((ovD B q.len, OvP ao B q.len q.Z) :: (pre ++ ([U], UE U q.cut d') :: post)) fs w' := by
  obtain ⟨n0, h1, h2, h3⟩ := h.unitE pre
  refine (m n0 ⟨h1, by omega⟩ h3).mono ?_
  rintro e w' ⟨ao, cap, B, rfl, hc, hB, ho, ⟨k, k1, k2, hu⟩, hm⟩
  refine ⟨ao, cap, B, rfl, hc, h.pushU pre (MkL.one hm) ⟨k, by omega, by omega, hu⟩ (ue_dep _ _ _) (by simp) ho (ov_dep _ _ _ _) (by unfold ovD; split <;> simp) (fun x hx => ?_)⟩
  unfold ovD at hx
  split at hx
  · exact absurd hx List.not_mem_nil
  · simp at hx
    subst hx
    exact ⟨hB, (ho.resolve_left (by assumption)).2.lt⟩
/-- The document's. -/
theorem ST.callD {F : Nat} {args : Array Value} {q : VO} (pre : List Ob) (d' : Int) (h : ST w (pre ++ ([R], RE R c d) :: post) fs wx) (hD : d ≤ 1000000000) (hD' : d + 200000 ≤ d')
    (m : ∀ n0, 0 ≤ n0 ∧ n0 < 100000000000000000 → RC R c n0 wx → Calls Tryz.prog F args wx fun e w' => DocP q.r q.c q.len q.Z q.err (fun w' => RW R q.cut n0 200000 w' ∧ Mk R wx w') wx e w') :
    Calls Tryz.prog F args wx fun e w' => ∃ ao cap, e = .returned (.tuple #[.agg #[.int .i64 q.r, .int .i64 q.c, .slice ao q.len cap], .int .i64 q.err]) ∧ q.len ≤ cap ∧ ST w (pre ++ ([R], RE R q.cut d') :: post) (fRow ao q.len q.Z :: fs) w' := by
  obtain ⟨n0, h1, h2, h3⟩ := h.unitR pre
  refine (m n0 ⟨h1, by omega⟩ h3).mono ?_
  rintro e w' ⟨ao, cap, rfl, hc, hr, ho, ⟨k, k1, k2, hu⟩, hm⟩
  refine ⟨ao, cap, rfl, hc, h.tellU pre (MkL.one hm) ⟨k, by omega, by omega, hu⟩ (re_dep _ _ _) (by simp) (q := fun w => Row w ao q.len q.Z) hr (row_depL _ _ _) (fun x hx => ⟨?_, rowD_lt hr x hx⟩)⟩
  rcases Nat.lt_or_ge x wx.heap.size with hlt | hge
  · exact absurd hx (rowD_off (ho x hlt))
  · exact hge
/-- Terms: the program's, and the document's. -/
theorem ST.callT {F : Nat} {args : Array Value} {q : TO} {A : Nat → Int} (pre : List Ob) (d' : Int) (h : ST w (pre ++ ([U], UE U c d) :: post) fs wx) (hD : d ≤ 1000000000) (hD' : d + 200000 ≤ d')
    (m : ∀ n0, 0 ≤ n0 ∧ n0 < 100000000000000000 → UC U c n0 wx → Calls Tryz.prog F args wx fun e w' => TermsP q A (fun w' => UW U q.cut n0 200000 w' ∧ Mk U wx w') wx e w') :
    Calls Tryz.prog F args wx fun e w' => ∃ lo cap l, e = .returned (.tuple #[.slice lo q.m cap, .int .i64 q.err]) ∧ (tD lo q.m l).Nodup ∧ (∀ i, i < q.m → q.nn ≤ (l i).2) ∧ ST w ((tD lo q.m l, TLs lo q.m q.n q.nn A l 0) :: (pre ++ ([U], UE U q.cut d') :: post)) fs w' := by
  obtain ⟨n0, h1, h2, h3⟩ := h.unitE pre
  refine (m n0 ⟨h1, by omega⟩ h3).mono ?_
  rintro e w' ⟨lo, cap, l, rfl, hn, hD, hc, hT, ⟨k, k1, k2, hu⟩, hm⟩
  exact ⟨lo, cap, l, rfl, hn, hc, h.pushU pre (MkL.one hm) ⟨k, by omega, by omega, hu⟩ (ue_dep _ _ _) (by simp) hT (tls_dep _ _ _ _ _ _ _) hn hD⟩
theorem ST.callTD {F : Nat} {args : Array Value} {q : TO} {A : Nat → Int} (pre : List Ob) (d' : Int) (h : ST w (pre ++ ([R], RE R c d) :: post) fs wx) (hD : d ≤ 1000000000) (hD' : d + 200000 ≤ d')
    (m : ∀ n0, 0 ≤ n0 ∧ n0 < 100000000000000000 → RC R c n0 wx → Calls Tryz.prog F args wx fun e w' => TermsD q A (fun w' => RW R q.cut n0 200000 w' ∧ Mk R wx w') wx e w') :
    Calls Tryz.prog F args wx fun e w' => ∃ lo cap l, e = .returned (.tuple #[.slice lo q.m cap, .int .i64 q.err]) ∧ ST w (pre ++ ([R], RE R q.cut d') :: post) ((tD lo q.m l, TLs lo q.m q.n q.nn A l 0) :: fs) w' := by
  obtain ⟨n0, h1, h2, h3⟩ := h.unitR pre
  refine (m n0 ⟨h1, by omega⟩ h3).mono ?_
  rintro e w' ⟨lo, cap, l, rfl, hD, hT, ⟨k, k1, k2, hu⟩, hm⟩
  exact ⟨lo, cap, l, rfl, h.tellU pre (MkL.one hm) ⟨k, by omega, by omega, hu⟩ (re_dep _ _ _) (by simp) hT (tls_dep _ _ _ _ _ _ _) hD⟩
/-- What was told is written over. -/
theorem ST.overV {ao : Option Addr} {B len cap : Nat} {Z : Nat → Int} (pre : List Ob) (hl : len ≤ 1000000) (h : ST w (pre ++ (ovD B len, OvP ao B len Z) :: post) fs wx) :
    Calls Tryz.prog 19 #[.slice ao len cap] wx fun e w' => e = .returned (.tuple #[]) ∧ ST w (pre ++ (ovD B len, fun _ => True) :: post) fs w' := by
  have ho : OvP ao B len Z wx := h.ob (c := (ovD B len, OvP ao B len Z)) (by simp)
  have nd : (ovD B len).Nodup := by unfold ovD; split <;> simp
  by_cases h0 : len = 0
  · refine (kitOverI wx.heap.size ao len cap Z hl wx (Or.inl h0)).mono ?_
    rintro e w' ⟨rfl, m⟩
    exact ⟨rfl, h.upd pre (MkL.kp (Mk.fresh (Mk.of m)) _) trivial (true_dep _) nd⟩
  · refine (kitOverI B ao len cap Z hl wx (Or.inr (ho.resolve_left h0))).mono ?_
    rintro e w' ⟨rfl, m⟩
    refine ⟨rfl, h.upd pre ?_ trivial (true_dep _) nd⟩
    have := MkL.one (Mk.of m)
    unfold ovD
    rw [if_neg h0]
    exact this
/-- The j-th term is. -/
theorem ST.overT {lo : Option Addr} {m n nn : Nat} {A : Nat → Int} {l : Nat → Nat × Nat} {j cap : Nat} (pre : List Ob) (hl : nn ≤ 1000000) (hd : (tD lo m l).Nodup) (hj : j < m) (h : ST w (pre ++ (tD lo m l, TLs lo m n nn A l j) :: post) fs wx) :
    Calls Tryz.prog 19 #[.slice (some ⟨(l j).1, 0, none⟩) nn cap] wx fun e w' => e = .returned (.tuple #[]) ∧ ST w (pre ++ (tD lo m l, TLs lo m n nn A l (j + 1)) :: post) fs w' := by
  have ho : TLs lo m n nn A l j wx := h.ob (c := (tD lo m l, TLs lo m n nn A l j)) (by simp)
  refine (kitOverI (l j).1 _ nn cap (termZ A n j) hl wx (Or.inr ⟨rfl, ho.2 j (Nat.le_refl _) hj⟩)).mono ?_
  rintro e w' ⟨rfl, k⟩
  refine ⟨rfl, h.upd pre ⟨(Mk.of k).1, (Mk.of k).2.1, fun x hx hn => (Mk.of k).2.2.1 x hx (fun e => hn (e ▸ mem_tD hj)), (Mk.of k).2.2.2⟩ (ho.over hd hj k) (tls_dep _ _ _ _ _ _ _) hd⟩
end

end Go.Proofs.YtopaakjildmjcaaGreat

/- The law's same: two lists of matrices. -/
namespace Go.Proofs.YtopaakjildmjcaaGreat
open Go.RowKit Go.Shelf Go.Proofs.Wd
set_option linter.unusedVariables false
set_option linter.unusedSimpArgs false
set_option maxRecDepth 10000
attribute [local go_sem ↓] Go.wp_at_zero Go.wp_at_succ

/-- Two matrices are the same. -/
def eqMV (x y : MV) : Prop := x.R = y.R ∧ x.C = y.C ∧ x.len = y.len ∧ ∀ p, p < x.len → x.Z p = y.Z p
theorem rowCongrX {w : World} {ao : Option Addr} {len : Nat} {Z Y : Nat → Int} (h : Row w ao len Z) (e : ∀ i, i < len → Z i = Y i) : Row w ao len Y := by
  rcases h with h | ⟨b, o, rfl, hc⟩
  · exact Or.inl h
  · exact Or.inr ⟨b, o, rfl, fun i hi => by rw [hc i hi, e i hi]⟩
set_option maxRecDepth 20000 in
set_option maxHeartbeats 4000000 in
theorem lawSameP (ao bo : Option Addr) (n ca cb : Nat) (hn : n ≤ 1000) (X Y : Nat → MV) (hl : ∀ i, i < n → (X i).len ≤ 1000000) (he : ∀ i, i < n → eqMV (X i) (Y i)) (w : World) (hx : Mats w ao n X) (hy : Mats w bo n Y) (rx : ∀ i, i < n → Row w (X i).ao (X i).len (X i).Z) (ry : ∀ i, i < n → Row w (Y i).ao (Y i).len (Y i).Z) :
    Calls Tryz.prog 13 #[.slice ao n ca, .slice bo n cb] w fun e w' => e = .returned (.bool true) ∧ Kp w w' := by
  have HX := hide hx
  have HY := hide hy
  have SM : Hid (∀ k, k < n → ∀ W, Kp w W → Calls Tryz.prog 14 #[.agg #[.int .i64 (X k).R, .int .i64 (X k).C, .slice (X k).ao (X k).len (X k).cap], .agg #[.int .i64 (X k).R, .int .i64 (X k).C, .slice (Y k).ao (X k).len (Y k).cap]] W fun e w' => e = .returned (.bool true) ∧ Kp W w') := fun k hk W g => by
    obtain ⟨e1, e2, e3, e4⟩ := he k hk
    have r2 := ry k hk
    rw [← e3] at r2
    exact kitSameM _ _ _ _ _ _ _ _ (hl k hk) W ((rx k hk).kp g) (rowCongrX (r2.kp g) (fun i hi => (e4 i hi).symm))
  have HE := hide he
  clear hx hy hl he rx ry
  go_enter Tryz.func13, Tryz.ntmps13
  go_wp2_with fail
  go_loopw [5] (fun i wr => ∃ k : Nat, k ≤ n ∧ i = .int .i64 k ∧ Hid (Kp w wr)) (fun i _ => n - (intOf i).toNat)
  case atStart => exact ⟨0, Nat.zero_le _, rfl, Kp.refl _⟩
  case round =>
    obtain ⟨k, hk, rfl, HI⟩ := hrel
    by_cases hlt : k < n
    · obtain ⟨b, o, rfl, c0, c1, c2⟩ := ((unhide HX).kp (unhide HI)).at hlt
      obtain ⟨b2, o2, rfl, d0, d1, d2⟩ := ((unhide HY).kp (unhide HI)).at hlt
      have S1 : Hid (∀ W, Kp wr W → Calls Tryz.prog 14 #[.agg #[.int .i64 (X k).R, .int .i64 (X k).C, .slice (X k).ao (X k).len (X k).cap], .agg #[.int .i64 (X k).R, .int .i64 (X k).C, .slice (Y k).ao (X k).len (Y k).cap]] W fun e w' => e = .returned (.bool true) ∧ Kp W w') := fun W g => unhide SM k hlt W ((unhide HI).trans g)
      obtain ⟨e1, e2, e3, _⟩ := unhide HE k hlt
      rw [← e1] at d0
      rw [← e2] at d1
      rw [← e3] at d2
      clear e1 e2 e3
      have i0 : (0 : Int) ≤ (k : Int) := Int.natCast_nonneg _
      have i1 : (k : Int) < (n : Int) := Int.ofNat_lt.2 hlt
      have B1 : Hid (k + 1 ≤ n) := hlt
      generalize (X k).R = R at *
      generalize (X k).C = C at *
      generalize (X k).ao = a1 at *
      generalize (X k).len = len at *
      generalize (X k).cap = p1 at *
      generalize (Y k).ao = a2 at *
      generalize (Y k).cap = p2 at *
      have CW : Hid (∀ W, Kp wr W → (W.cell? ⟨b, o + k * 3, none⟩ = some (.int .i64 R) ∧ W.cell? ⟨b, o + k * 3 + 1, none⟩ = some (.int .i64 C) ∧ W.cell? ⟨b, o + k * 3 + 2, none⟩ = some (.slice a1 len p1)) ∧ (W.cell? ⟨b2, o2 + k * 3, none⟩ = some (.int .i64 R) ∧ W.cell? ⟨b2, o2 + k * 3 + 1, none⟩ = some (.int .i64 C) ∧ W.cell? ⟨b2, o2 + k * 3 + 2, none⟩ = some (.slice a2 len p2))) := fun W g => ⟨⟨g.cell c0, g.cell c1, g.cell c2⟩, ⟨g.cell d0, g.cell d1, g.cell d2⟩⟩
      have gx := heap_gt c0
      have gy := heap_gt d0
      go_wp2_with fail
      go_region_held3 (fun w' => w'.cell? ⟨b, o + k * 3, none⟩ = some (.int .i64 R) ∧ w'.cell? ⟨b, o + k * 3 + 1, none⟩ = some (.int .i64 C) ∧ w'.cell? ⟨b, o + k * 3 + 2, none⟩ = some (.slice a1 len p1) ∧ w'.cell? ⟨b2, o2 + k * 3, none⟩ = some (.int .i64 R) ∧ w'.cell? ⟨b2, o2 + k * 3 + 1, none⟩ = some (.int .i64 C) ∧ w'.cell? ⟨b2, o2 + k * 3 + 2, none⟩ = some (.slice a2 len p2))
          (simp [go_sem, *])
          (first
            | (go_at_call 14; refine (unhide S1 _ (show Kp wr wr.drew from Kp.refl _)).mono ?_; clear S1; rintro e w5 ⟨rfl, k5⟩; have K5 : Hid (Kp wr w5) := k5; obtain ⟨⟨y0, y1, y2⟩, ⟨y3, y4, y5⟩⟩ := unhide CW w5 (unhide K5); have gy1 := heap_gt y0; have gy2 := heap_gt y3; clear k5))
      have K6 : Hid (Kp w w5) := (unhide HI).trans (unhide K5)
      clear CW HI HE SM
      go_wp2
      go_roundw
      case rel => exact ⟨k + 1, unhide B1, by go_num, K6⟩
      case measure => have := unhide B1; simp [intOf]; omega
    · obtain rfl : k = n := by omega
      go_wp2
      go_ret
      exact ⟨rfl, unhide HI⟩

end Go.Proofs.YtopaakjildmjcaaGreat
