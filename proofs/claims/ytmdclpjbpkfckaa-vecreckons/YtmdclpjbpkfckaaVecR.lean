/- VecReckons. -/
import Derived.Test.YtmdclpjbpkfckaaVecQ
namespace Go.Proofs.Ytmdclpjbpkfckaa
open Go.RowKit Go.Proofs.Wd
set_option linter.unusedVariables false
set_option linter.unusedSimpArgs false

theorem likeStep {w : World} {U R xb B : Nat} {c : Bool} {n : Int} {rows : List (Option Addr × Nat × (Nat → Int))} {wx : World} (h : QS w U R xb c n c n rows wx) (f : Fr w U R xb rows B) (ao bo : Option Addr) (len ca cb : Nat) (Z : Nat → Int) (e : Int) (hl : len ≤ 1000000) (hA : len = 0 ∨ (ao = some ⟨B, 0, none⟩ ∧ Blk B (ints len Z) 3 wx)) (hb : Row wx bo len Z) :
    Calls Try.prog 15 #[.agg #[.pointer (some ⟨U, 0, none⟩), .pointer (some ⟨R, 0, none⟩)], .slice ao len ca, .int .i64 e, .slice bo len cb, .int .i64 e] wx fun e' w' => e' = .returned (.bool true) ∧ QS w U R xb c n c n rows w' := by
  have hra : Row wx ao len Z := by
    rcases hA with h | ⟨rfl, h⟩
    · exact Or.inl h
    · exact h.row
  refine (vecLike U R B c n ao bo len ca cb Z e hl wx h.1 h.2.1 hA hra hb).mono ?_
  rintro e' w' ⟨rfl, m⟩
  exact ⟨rfl, h.modB f m⟩
theorem QS.kp {w : World} {U R xb : Nat} {cu cr : Bool} {nu nr : Int} {rows : List (Option Addr × Nat × (Nat → Int))} {wx w' : World} (h : QS w U R xb cu nu cr nr rows wx) (k : Kp wx w') : QS w U R xb cu nu cr nr rows w' :=
  ⟨Blk.kp h.1 k, Blk.kp h.2.1 k, Blk.kp h.2.2.1 k, h.2.2.2.1.trans k, h.2.2.2.2.1, fun r hr => ⟨(h.2.2.2.2.2 r hr).1.kp k, (h.2.2.2.2.2 r hr).2⟩⟩
theorem QS.copy {w : World} {U R xb : Nat} {cu cr : Bool} {nu nr : Int} {rows : List (Option Addr × Nat × (Nat → Int))} {wx w' : World} {e : Ending} {len : Nat} {Z : Nat → Int} (h : QS w U R xb cu nu cr nr rows wx) (k : CopyP len Z wx e w') :
    ∃ ai ci, e = .returned (.slice ai len ci) ∧ QS w U R xb cu nu cr nr ((ai, len, Z) :: rows) w' := by
  obtain ⟨ai, ci, h1, h2, h3, h4⟩ := k
  have h' := h.kp h4
  refine ⟨ai, ci, h1, h'.1, h'.2.1, h'.2.2.1, h'.2.2.2.1, h'.2.2.2.2.1, fun r hr => ?_⟩
  rw [List.mem_cons] at hr
  rcases hr with rfl | hr
  · exact ⟨h2, h3 U (Blk.lt h.1), h3 R (Blk.lt h.2.1)⟩
  · exact h'.2.2.2.2.2 r hr
theorem stepV {w : World} {U R xb : Nat} {c c' c2 : Bool} {n n' n2 err : Int} {rows : List (Option Addr × Nat × (Nat → Int))} {wx w' : World} {e : Ending} {len : Nat} {Z : Nat → Int} (h : QS w U R xb c n c' n' rows wx) (v : VA U len Z err c2 n2 wx e w') :
    ∃ aL cL B, e = .returned (.tuple #[.slice aL len cL, .int .i64 err]) ∧ QS w U R xb c2 n2 c' n' rows w' ∧ Fr w U R xb rows B ∧ (len = 0 ∨ (aL = some ⟨B, 0, none⟩ ∧ Blk B (ints len Z) 3 w')) := by
  obtain ⟨aL, cL, B, h1, h2, h3, h4, h5⟩ := v
  exact ⟨aL, cL, B, h1, h.modU h4 h5, h.fresh h2, h3⟩
theorem stepR {w : World} {U R xb B : Nat} {c c' c2 : Bool} {n n' n2 err : Int} {rows : List (Option Addr × Nat × (Nat → Int))} {wx w' : World} {e : Ending} {len : Nat} {Z : Nat → Int} {aL : Option Addr} (h : QS w U R xb c n c' n' rows wx ∧ Fr w U R xb rows B ∧ (len = 0 ∨ (aL = some ⟨B, 0, none⟩ ∧ Blk B (ints len Z) 3 wx))) (v : RA R len Z err c2 n2 wx e w') :
    ∃ aR cR, e = .returned (.tuple #[.slice aR len cR, .int .i64 err]) ∧ QS w U R xb c n c2 n2 rows w' ∧ Fr w U R xb rows B ∧ (len = 0 ∨ (aL = some ⟨B, 0, none⟩ ∧ Blk B (ints len Z) 3 w')) ∧ Row w' aR len Z := by
  obtain ⟨h, f, hA⟩ := h
  obtain ⟨aR, cR, h1, h2, h3, h4⟩ := v
  exact ⟨aR, cR, h1, h.mkR h3 h4, f, hA.imp id (fun x => ⟨x.1, Blk.mk x.2 h4 f.2.2.1⟩), h2⟩
theorem ints_one (d : Int) : (#[.int .i64 d] : Array Value) = ints 1 (fun _ => d) := rfl
theorem oneStep {w : World} {U R xb : Nat} {c : Bool} {n : Int} {rows : List (Option Addr × Nat × (Nat → Int))} {wx : World} (h : QS w U R xb c n c n rows wx) (d e : Int) :
    Calls Try.prog 15 #[.agg #[.pointer (some ⟨U, 0, none⟩), .pointer (some ⟨R, 0, none⟩)], .slice (some ⟨wx.heap.size, 0, none⟩) 1 1, .int .i64 e, .slice (some ⟨wx.heap.size + 1, 0, none⟩) 1 1, .int .i64 e] ((wx.alloc (.cells #[.int .i64 d] 3)).alloc (.cells #[.int .i64 d] 3)) fun e' w' => e' = .returned (.bool true) ∧ QS w U R xb c n c n rows w' := by
  have G : Grown wx ((wx.alloc (.cells #[.int .i64 d] 3)).alloc (.cells #[.int .i64 d] 3)) := ((Grown.refl _).alloc _ _).alloc _ _
  have b1 : Blk wx.heap.size #[.int .i64 d] 3 ((wx.alloc (.cells #[.int .i64 d] 3)).alloc (.cells #[.int .i64 d] 3)) := Blk.grown (Blk.new wx _ _) ((Grown.refl _).alloc _ _)
  have b2 : Blk (wx.heap.size + 1) #[.int .i64 d] 3 ((wx.alloc (.cells #[.int .i64 d] 3)).alloc (.cells #[.int .i64 d] 3)) := blk_new2 _ _ _ _
  rw [ints_one] at b1 b2
  exact likeStep (h.grown G) (h.fresh (Nat.le_refl _)) _ _ 1 1 1 (fun _ => d) e (by omega) (Or.inr ⟨rfl, b1⟩) b2.row

set_option maxRecDepth 20000 in
set_option maxHeartbeats 8000000 in
theorem lawVecReckons (ao bo : Option Addr) (l1 c1 l2 c2 : Nat) (X Y : Nat → Int) (s : Int) (hs : Hid (I64 s)) (le1 : l1 ≤ c1) (le2 : l2 ≤ c2) (lm1 : c1 ≤ 9223372036854775807) (lm2 : c2 ≤ 9223372036854775807) (hX : Hid (∀ i, i < l1 → I64 (X i))) (hY : Hid (∀ i, i < l2 → I64 (Y i))) (n1 : Hid (ao = none → l1 = 0 ∧ c1 = 0)) (n2 : Hid (bo = none → l2 = 0 ∧ c2 = 0)) (w : World) (hr : Row w ao l1 X) (ht : Row w bo l2 Y) :
    Calls Try.prog 3 #[.slice ao l1 c1, .slice bo l2 c2, .int .i64 s] w fun e w' => e = .returned (.bool true) ∧ Kp w w' := by
  have HR := hide (And.intro hr ht)
  clear hr ht
  go_enter Try.func3, Try.ntmps3
  go_wp2_with fail
  refine (unitNew w).mono ?_
  rintro e w1 ⟨rfl, u1, g1⟩
  have S1 : Hid (UC w.heap.size false 0 w1 ∧ Grown w w1) := ⟨u1, g1⟩
  clear u1 g1
  by_cases hb1 : l1 ≤ 150
  · by_cases hb2 : l2 ≤ 150
    · go_wp2_with fail
      refine (refUNew w1).mono ?_
      rintro e w2 ⟨rfl, u2, g2⟩
      have S2 : Hid (UC w.heap.size false 0 w2 ∧ RC w1.heap.size false 0 w2 ∧ Grown w w2 ∧ w.heap.size < w1.heap.size) := ⟨Blk.grown (unhide S1).1 g2, u2, gtrans (unhide S1).2 g2, Blk.lt (unhide S1).1⟩
      clear u2 g2 S1
      have hle := Nat.le_refl w.heap.size
      generalize w1.heap.size = R at *
      go_wp2_with fail
      have S3 : Hid (QS w w.heap.size R w2.heap.size false 0 false 0 [(ao, l1, X), (bo, l2, Y)] (w2.alloc (.cells #[.pointer (some ⟨w.heap.size, 0, none⟩), .pointer (some ⟨R, 0, none⟩)] 29))) := by
        obtain ⟨s1, s2, s3, s4⟩ := unhide S2
        obtain ⟨r1, r2⟩ := unhide HR
        have G : Grown w2 (w2.alloc (.cells #[.pointer (some ⟨w.heap.size, 0, none⟩), .pointer (some ⟨R, 0, none⟩)] 29)) := (Grown.refl _).alloc _ _
        have k1 := Blk.lt s1
        have k2 := Blk.lt s2
        refine ⟨Blk.grown s1 G, Blk.grown s2 G, Blk.new _ _ _, (Kp.of s3).grown G, ⟨Nat.le_refl _, by omega, by omega, by omega, by omega⟩, fun r hr => ?_⟩
        simp at hr
        rcases hr with rfl | rfl
        · exact ⟨(r1.grown s3).grown G, r1.off (Nat.le_refl _), r1.off (by omega)⟩
        · exact ⟨(r2.grown s3).grown G, r2.off (Nat.le_refl _), r2.off (by omega)⟩
      clear S2 HR hle
      generalize w2.alloc (.cells #[.pointer (some ⟨w.heap.size, 0, none⟩), .pointer (some ⟨R, 0, none⟩)] 29) = w3 at *
      generalize w2.heap.size = xb at *
      generalize hU : w.heap.size = U at *
      clear hU
      refine (kitCopy ao l1 c1 X (by omega) (unhide n1) w3 ((unhide S3).2.2.2.2.2 (ao, l1, X) (by simp)).1).mono ?_
      intro e w4 hv
      obtain ⟨ai, ci, rfl, s4⟩ := (unhide S3).copy hv
      have S4 := hide s4
      clear hv s4 S3
      go_wp2_with fail
      refine (kitCopy bo l2 c2 Y (by omega) (unhide n2) w4 ((unhide S4).2.2.2.2.2 (bo, l2, Y) (by simp)).1).mono ?_
      intro e w5 hv
      obtain ⟨bi, di, rfl, s5⟩ := (unhide S4).copy hv
      have S5 := hide s5
      clear hv s5 S4
      obtain ⟨o1, eo1⟩ : ∃ o, outOf l1 l2 false (false || zC s2C X Y l1) 0 (0 + 2 * l1) = o := ⟨_, rfl⟩
      have ob1 := out_n l1 l2 false (false || zC s2C X Y l1) 0 (0 + 2 * l1) hb1 (by omega) ⟨by omega, by omega⟩
      rw [eo1] at ob1
      have V1 := hide (fun wx h hr ho ht hp => sumAny U false 0 ai bi l1 ci l2 di X Y hb1 hb2 ⟨by omega, by omega⟩ (unhide hX) (unhide hY) wx h hr ho ht hp o1 eo1)
      have D1 := hide (fun wx h hr ho ht hp => refSumAny R false 0 ao bo l1 c1 l2 c2 X Y hb1 hb2 ⟨by omega, by omega⟩ (unhide hX) (unhide hY) wx h hr ho ht hp o1 eo1)
      clear eo1
      obtain ⟨m1, err1, cc1, nn1⟩ := o1
      simp only at ob1 V1 D1
      go_wp2_with fail
      refine ((unhide V1 _ (unhide S5).1 ((unhide S5).2.2.2.2.2 (ai, l1, X) (by simp)).1 ((unhide S5).2.2.2.2.2 (ai, l1, X) (by simp)).2.1 ((unhide S5).2.2.2.2.2 (bi, l2, Y) (by simp)).1 ((unhide S5).2.2.2.2.2 (bi, l2, Y) (by simp)).2.1)).mono ?_
      intro e w6 hv
      obtain ⟨aL1, cL1, B1, rfl, sv⟩ := stepV (unhide S5) hv
      obtain ⟨p0, p1⟩ := sv.1.pair
      have SV := hide sv
      clear hv sv S5 V1
      go_wp2_with fail
      refine (unhide D1 _ (unhide SV).1.2.1 ((unhide SV).1.2.2.2.2.2 (ao, l1, X) (by simp)).1 ((unhide SV).1.2.2.2.2.2 (ao, l1, X) (by simp)).2.2 ((unhide SV).1.2.2.2.2.2 (bo, l2, Y) (by simp)).1 ((unhide SV).1.2.2.2.2.2 (bo, l2, Y) (by simp)).2.2).mono ?_
      intro e w7 hv
      obtain ⟨aR1, cR1, rfl, sr⟩ := stepR (unhide SV) hv
      clear p0 p1
      obtain ⟨p0, p1⟩ := sr.1.pair
      have SR := hide sr
      clear hv sr SV D1
      go_wp2_with fail
      refine (likeStep (unhide SR).1 (unhide SR).2.1 _ _ _ _ _ _ _ (by omega) (unhide SR).2.2.1 (unhide SR).2.2.2).mono ?_
      rintro e w8 ⟨rfl, s8⟩
      have S8 := hide s8
      clear s8 SR p0 p1
      obtain ⟨o2, eo2⟩ : ∃ o, outOf l1 l2 cc1 (cc1 || zC subC X Y l1) nn1 (nn1 + 1 * l1) = o := ⟨_, rfl⟩
      have ob2 := out_n l1 l2 cc1 (cc1 || zC subC X Y l1) nn1 (nn1 + 1 * l1) hb1 (by omega) ⟨by omega, by omega⟩
      rw [eo2] at ob2
      have V2 := hide (fun wx h hr ho ht hp => lessAny U cc1 nn1 ai bi l1 ci l2 di X Y hb1 hb2 ⟨by omega, by omega⟩ (unhide hX) (unhide hY) wx h hr ho ht hp o2 eo2)
      have D2 := hide (fun wx h hr ho ht hp => refLessAny R cc1 nn1 ao bo l1 c1 l2 c2 X Y hb1 hb2 ⟨by omega, by omega⟩ (unhide hX) (unhide hY) wx h hr ho ht hp o2 eo2)
      clear eo2
      obtain ⟨m2, err2, cc2, nn2⟩ := o2
      simp only at ob2 V2 D2
      go_wp2_with fail
      refine ((unhide V2 _ (unhide S8).1 ((unhide S8).2.2.2.2.2 (ai, l1, X) (by simp)).1 ((unhide S8).2.2.2.2.2 (ai, l1, X) (by simp)).2.1 ((unhide S8).2.2.2.2.2 (bi, l2, Y) (by simp)).1 ((unhide S8).2.2.2.2.2 (bi, l2, Y) (by simp)).2.1)).mono ?_
      intro e w9 hv
      obtain ⟨aL2, cL2, B2, rfl, sv⟩ := stepV (unhide S8) hv
      obtain ⟨p0, p1⟩ := sv.1.pair
      have SV := hide sv
      clear hv sv S8 V2
      go_wp2_with fail
      refine (unhide D2 _ (unhide SV).1.2.1 ((unhide SV).1.2.2.2.2.2 (ao, l1, X) (by simp)).1 ((unhide SV).1.2.2.2.2.2 (ao, l1, X) (by simp)).2.2 ((unhide SV).1.2.2.2.2.2 (bo, l2, Y) (by simp)).1 ((unhide SV).1.2.2.2.2.2 (bo, l2, Y) (by simp)).2.2).mono ?_
      intro e w10 hv
      obtain ⟨aR2, cR2, rfl, sr⟩ := stepR (unhide SV) hv
      clear p0 p1
      obtain ⟨p0, p1⟩ := sr.1.pair
      have SR := hide sr
      clear hv sr SV D2
      go_wp2_with fail
      refine (likeStep (unhide SR).1 (unhide SR).2.1 _ _ _ _ _ _ _ (by omega) (unhide SR).2.2.1 (unhide SR).2.2.2).mono ?_
      rintro e w11 ⟨rfl, s11⟩
      have S11 := hide s11
      clear s11 SR p0 p1
      have V3 := hide (fun wx h hr ho => (vecScale_ok U cc2 nn2 s ai l1 ci X (by omega) ⟨by omega, by omega⟩ (unhide hs) (unhide hX) wx h hr ho).mono fun e w' hv => hv.any)
      have D3 := hide (fun wx h hr ho => (refVScale_ok R cc2 nn2 s ao l1 c1 X (by omega) ⟨by omega, by omega⟩ hs hX wx h hr ho).mono fun e w' hv => hv.any)
      obtain ⟨cc3, ec3⟩ : ∃ q, (cc2 || zC m2C X (fun _ => s) l1) = q := ⟨_, rfl⟩
      obtain ⟨nn3, en3⟩ : ∃ q, nn2 + 2 * (l1 : Int) = q := ⟨_, rfl⟩
      have ob3 : 0 ≤ nn3 ∧ nn3 ≤ nn2 + 300 := by omega
      rw [ec3, en3] at V3 D3
      clear ec3 en3
      go_wp2_with fail
      refine ((unhide V3 _ (unhide S11).1 ((unhide S11).2.2.2.2.2 (ai, l1, X) (by simp)).1 ((unhide S11).2.2.2.2.2 (ai, l1, X) (by simp)).2.1)).mono ?_
      intro e w12 hv
      obtain ⟨aL3, cL3, B3, rfl, sv⟩ := stepV (unhide S11) hv
      obtain ⟨p0, p1⟩ := sv.1.pair
      have SV := hide sv
      clear hv sv S11 V3
      go_wp2_with fail
      refine (unhide D3 _ (unhide SV).1.2.1 ((unhide SV).1.2.2.2.2.2 (ao, l1, X) (by simp)).1 ((unhide SV).1.2.2.2.2.2 (ao, l1, X) (by simp)).2.2).mono ?_
      intro e w13 hv
      obtain ⟨aR3, cR3, rfl, sr⟩ := stepR (unhide SV) hv
      clear p0 p1
      obtain ⟨p0, p1⟩ := sr.1.pair
      have SR := hide sr
      clear hv sr SV D3
      go_wp2_with fail
      refine (likeStep (unhide SR).1 (unhide SR).2.1 _ _ _ _ _ _ _ (by omega) (unhide SR).2.2.1 (unhide SR).2.2.2).mono ?_
      rintro e w14 ⟨rfl, s14⟩
      have S14 := hide s14
      clear s14 SR p0 p1
      obtain ⟨o4, eo4⟩ : ∃ o, outOf l1 l2 cc3 (cc3 || dotC X Y l1) nn3 (nn3 + 2 * l1) = o := ⟨_, rfl⟩
      have ob4 := out_n l1 l2 cc3 (cc3 || dotC X Y l1) nn3 (nn3 + 2 * l1) hb1 (by omega) ⟨by omega, by omega⟩
      rw [eo4] at ob4
      have V4 := hide (fun wx h hr ho ht hp => dotAny U cc3 nn3 ai bi l1 ci l2 di X Y hb1 hb2 ⟨by omega, by omega⟩ (unhide hX) (unhide hY) wx h hr ho ht hp o4 eo4)
      have D4 := hide (fun wx h hr ho ht hp => refDotAny R cc3 nn3 ao bo l1 c1 l2 c2 X Y hb1 hb2 ⟨by omega, by omega⟩ (unhide hX) (unhide hY) wx h hr ho ht hp o4 eo4)
      clear eo4
      obtain ⟨m4, err4, cc4, nn4⟩ := o4
      simp only at ob4 V4 D4
      generalize dotV l1 l2 X Y = d4 at *
      go_wp2_with fail
      refine (unhide V4 _ (unhide S14).1 ((unhide S14).2.2.2.2.2 (ai, l1, X) (by simp)).1 ((unhide S14).2.2.2.2.2 (ai, l1, X) (by simp)).2.1 ((unhide S14).2.2.2.2.2 (bi, l2, Y) (by simp)).1 ((unhide S14).2.2.2.2.2 (bi, l2, Y) (by simp)).2.1).mono ?_
      rintro e wd1 ⟨rfl, u, m⟩
      have sv := (unhide S14).modU u m
      obtain ⟨p0, p1⟩ := sv.pair
      have SV := hide sv
      clear u m sv S14 V4
      go_wp2_with fail
      refine (unhide D4 _ (unhide SV).2.1 ((unhide SV).2.2.2.2.2 (ao, l1, X) (by simp)).1 ((unhide SV).2.2.2.2.2 (ao, l1, X) (by simp)).2.2 ((unhide SV).2.2.2.2.2 (bo, l2, Y) (by simp)).1 ((unhide SV).2.2.2.2.2 (bo, l2, Y) (by simp)).2.2).mono ?_
      rintro e wd2 ⟨rfl, u, m⟩
      have sr := (unhide SV).mkR u (Mk.of m)
      clear p0 p1
      obtain ⟨p0, p1⟩ := sr.pair
      have SR := hide sr
      clear u m sr SV D4
      go_wp2_with fail
      refine (oneStep (unhide SR) d4 err4).mono ?_
      rintro e wd3 ⟨rfl, sq⟩
      have SQ := hide sq
      clear sq SR p0 p1
      have V5 := hide (fun wx h hr ho => vecMost_ok U cc4 nn4 ai l1 ci X (by omega) ⟨by omega, by omega⟩ (unhide hX) wx h hr ho)
      have D5 := hide (fun wx h hr ho => refVMost_ok R cc4 nn4 ao l1 c1 X (by omega) ⟨by omega, by omega⟩ (unhide hX) wx h hr ho)
      generalize mostN X l1 = d5 at *
      go_wp2_with fail
      refine (unhide V5 _ (unhide SQ).1 ((unhide SQ).2.2.2.2.2 (ai, l1, X) (by simp)).1 ((unhide SQ).2.2.2.2.2 (ai, l1, X) (by simp)).2.1).mono ?_
      rintro e wd4 ⟨rfl, u, m⟩
      have sv := (unhide SQ).modU u m
      obtain ⟨p0, p1⟩ := sv.pair
      have SV := hide sv
      clear u m sv SQ V5
      go_wp2_with fail
      refine (unhide D5 _ (unhide SV).2.1 ((unhide SV).2.2.2.2.2 (ao, l1, X) (by simp)).1 ((unhide SV).2.2.2.2.2 (ao, l1, X) (by simp)).2.2).mono ?_
      rintro e wd5 ⟨rfl, u, m⟩
      have sr := (unhide SV).mkR u (Mk.of m)
      clear p0 p1
      obtain ⟨p0, p1⟩ := sr.pair
      have SR := hide sr
      clear u m sr SV D5
      go_wp2_with fail
      refine (oneStep (unhide SR) d5 0).mono ?_
      rintro e wd6 ⟨rfl, sq⟩
      have SQ := hide sq
      clear sq SR p0 p1
      go_wp2_with fail
      refine (kitSameQ ai ao l1 _ _ X (by omega) wd6 ((unhide SQ).2.2.2.2.2 (ai, l1, X) (by simp)).1 ((unhide SQ).2.2.2.2.2 (ao, l1, X) (by simp)).1).mono ?_
      rintro e wd7 ⟨rfl, q7, rfl⟩
      go_wp2_with fail
      refine (kitSameQ bi bo l2 _ _ Y (by omega) _ (by exact ((unhide SQ).2.2.2.2.2 (bi, l2, Y) (by simp)).1) (by exact ((unhide SQ).2.2.2.2.2 (bo, l2, Y) (by simp)).1)).mono ?_
      rintro e wd8 ⟨rfl, q8, rfl⟩
      go_wp2_with fail
      refine (lawVecAwake _).mono ?_
      rintro e wd9 ⟨rfl, k9⟩
      have K9 : Hid (Kp w wd9) := Kp.trans (show Kp w _ from (unhide SQ).2.2.2.1) k9
      clear k9 SQ
      go_wp2
      go_ret
      exact ⟨rfl, unhide K9⟩
    · have hb2' : ((150 : Int) < (l2 : Int)) := by omega
      go_wp2_with fail
      refine (lawVecAwake w1).mono ?_
      rintro e w2 ⟨rfl, k2⟩
      have K2 := hide ((Kp.of (unhide S1).2).trans k2)
      clear k2
      go_wp2
      go_ret
      exact ⟨rfl, unhide K2⟩
  · have hb1' : ((150 : Int) < (l1 : Int)) := by omega
    go_wp2_with fail
    refine (lawVecAwake w1).mono ?_
    rintro e w2 ⟨rfl, k2⟩
    have K2 := hide ((Kp.of (unhide S1).2).trans k2)
    clear k2
    go_wp2
    go_ret
    exact ⟨rfl, unhide K2⟩

end Go.Proofs.Ytmdclpjbpkfckaa
