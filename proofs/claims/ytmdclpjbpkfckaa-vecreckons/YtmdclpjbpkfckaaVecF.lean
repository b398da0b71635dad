/- Lists that are written out, and the laws' helper awake: some of the chapter's examples. -/
import Derived.Test.YtmdclpjbpkfckaaVecE
import Derived.Test.YtmdclpjbpkfckaaUnitD
import Derived.Test.YtmdclpjbpkfckaaKitA
namespace Go.Proofs.Ytmdclpjbpkfckaa
open Go.RowKit Go.Proofs.Wd
set_option linter.unusedVariables false
set_option linter.unusedSimpArgs false
theorem ix_zip (f : Int → Int → Int) (a b : List Int) (i : Nat) (ha : i < a.length) (hb : i < b.length) : ix (List.zipWith f a b) i = f (ix a i) (ix b i) := by
  simp [ix, List.getElem?_zipWith, ha, hb]
theorem ix_map (f : Int → Int) (a : List Int) (i : Nat) (ha : i < a.length) : ix (a.map f) i = f (ix a i) := by
  simp [ix, ha]

theorem VP.congr {U len : Nat} {Z Y : Nat → Int} {c : Bool} {n : Int} {w : World} {e : Ending} {w' : World} (h : VP U len Z c n w e w') (hz : ∀ i, i < len → Z i = Y i) : VP U len Y c n w e w' := by
  obtain ⟨L, h1, h2, h3, h4, h5⟩ := h
  rw [ints_congr len Z Y hz] at h3
  exact ⟨L, h1, h2, h3, h4, h5⟩

theorem vecSumL (a b r : List Int) (len : Nat) (d : Bool) (hal : a.length = len) (hbl : b.length = len) (ha : ∀ x ∈ a, I64 x) (hb : ∀ x ∈ b, I64 x) (hr : List.zipWith s2N a b = r) (hd : zC s2C (ix a) (ix b) len = d) (hl : len ≤ 1000000)
    (U : Nat) (c : Bool) (n : Int) (hn : 0 ≤ n ∧ n < 1152921504606846976) (ao bo : Option Addr) (c1 c2 : Nat) (w : World) (h : UC U c n w) (hra : Row w ao len (ix a)) (hoa : Off U len ao) (hrb : Row w bo len (ix b)) (hob : Off U len bo) :
    Calls Try.prog 13 #[.pointer (some ⟨U, 0, none⟩), .slice ao len c1, .slice bo len c2] w fun e w' => VP U len (ix r) (c || d) (n + 2 * len) w e w' := by
  have := vecSum_ok U c n ao bo len c1 c2 (ix a) (ix b) hl hn (by have := ix_I64 ha; rwa [hal] at this) (by have := ix_I64 hb; rwa [hbl] at this) w h hra hoa hrb hob
  rw [hd] at this
  refine this.mono fun e w' hv => hv.congr fun i hi => ?_
  rw [← hr, ix_zip _ _ _ _ (by omega) (by omega)]
theorem vecLessL (a b r : List Int) (len : Nat) (d : Bool) (hal : a.length = len) (hbl : b.length = len) (ha : ∀ x ∈ a, I64 x) (hb : ∀ x ∈ b, I64 x) (hr : List.zipWith subN a b = r) (hd : zC subC (ix a) (ix b) len = d) (hl : len ≤ 1000000)
    (U : Nat) (c : Bool) (n : Int) (hn : 0 ≤ n ∧ n < 1152921504606846976) (ao bo : Option Addr) (c1 c2 : Nat) (w : World) (h : UC U c n w) (hra : Row w ao len (ix a)) (hoa : Off U len ao) (hrb : Row w bo len (ix b)) (hob : Off U len bo) :
    Calls Try.prog 16 #[.pointer (some ⟨U, 0, none⟩), .slice ao len c1, .slice bo len c2] w fun e w' => VP U len (ix r) (c || d) (n + 1 * len) w e w' := by
  have := vecLess_ok U c n ao bo len c1 c2 (ix a) (ix b) hl hn (by have := ix_I64 ha; rwa [hal] at this) (by have := ix_I64 hb; rwa [hbl] at this) w h hra hoa hrb hob
  rw [hd] at this
  refine this.mono fun e w' hv => hv.congr fun i hi => ?_
  rw [← hr, ix_zip _ _ _ _ (by omega) (by omega)]
theorem vecScaleL (a r : List Int) (s : Int) (len : Nat) (d : Bool) (hal : a.length = len) (ha : ∀ x ∈ a, I64 x) (hs : I64 s) (hr : a.map (fun x => m2N x s) = r) (hd : zC m2C (ix a) (fun _ => s) len = d) (hl : len ≤ 1000000)
    (U : Nat) (c : Bool) (n : Int) (hn : 0 ≤ n ∧ n < 1152921504606846976) (ao : Option Addr) (c1 : Nat) (w : World) (h : UC U c n w) (hra : Row w ao len (ix a)) (hoa : Off U len ao) :
    Calls Try.prog 18 #[.pointer (some ⟨U, 0, none⟩), .slice ao len c1, .int .i64 s] w fun e w' => VP U len (ix r) (c || d) (n + 2 * len) w e w' := by
  have := vecScale_ok U c n s ao len c1 (ix a) hl hn hs (by have := ix_I64 ha; rwa [hal] at this) w h hra hoa
  rw [hd] at this
  refine this.mono fun e w' hv => hv.congr fun i hi => ?_
  rw [← hr, ix_map (fun x => m2N x s) _ _ (by omega)]

theorem vlits : (∀ x ∈ [4294967296, (8589934592 : Int)], I64 x) ∧ (∀ x ∈ [12884901888, (-4294967296 : Int)], I64 x) ∧ (∀ x ∈ [4294967296, (3 : Int)], I64 x) := by
  refine ⟨?_, ?_, ?_⟩ <;> (intro x hx; simp at hx; unfold I64; omega)

/-- Where a list of two that a call told lies, with all else that goes on. -/
def AwS (w : World) (U : Nat) (n : Int) (rows : List (Option Addr × List Int)) (wx : World) : Prop := UC U false n wx ∧ Kp w wx ∧ w.heap.size ≤ U ∧ ∀ r ∈ rows, Row wx r.1 2 (ix r.2) ∧ Off U 2 r.1
theorem AwS.grown {w : World} {U : Nat} {n : Int} {rows : List (Option Addr × List Int)} {wx w' : World} (h : AwS w U n rows wx) (g : Grown wx w') : AwS w U n rows w' :=
  ⟨Blk.grown h.1 g, h.2.1.grown g, h.2.2.1, fun r hr => ⟨(h.2.2.2 r hr).1.grown g, (h.2.2.2 r hr).2⟩⟩
theorem AwS.tell {w : World} {U : Nat} {n m : Int} {rows : List (Option Addr × List Int)} {wx : World} {e : Ending} {w' : World} {c : Bool} {l : List Int} (h : AwS w U n rows wx) (v : VP U 2 (ix l) c m wx e w') (hc : c = false) :
    ∃ L, e = .returned (.tuple #[.slice (some ⟨L, 0, none⟩) 2 2, .int .i64 0]) ∧ AwS w U m (rows ++ [(some ⟨L, 0, none⟩, l)]) w' := by
  obtain ⟨L, h1, h2, h3, h4, h5⟩ := v
  subst hc
  refine ⟨L, h2, h4, h.2.1.mod h5 h.2.2.1, h.2.2.1, fun r hr => ?_⟩
  rw [List.mem_append] at hr
  rcases hr with hr | hr
  · exact ⟨(h.2.2.2 r hr).1.mod h5 (h.2.2.2 r hr).2, (h.2.2.2 r hr).2⟩
  · simp at hr
    subst hr
    exact ⟨h3.row, off_blk (by have := Blk.lt h.1; show L ≠ U; omega)⟩
theorem AwS.lit {w : World} {U : Nat} {n : Int} {rows : List (Option Addr × List Int)} {wx : World} (h : AwS w U n rows wx) (x y : Int) (t : TypeId) : AwS w U n (rows ++ [(some ⟨wx.heap.size, 0, none⟩, [x, y])]) (wx.alloc (.cells #[.int .i64 x, .int .i64 y] t)) := by
  have h' := h.grown ((Grown.refl wx).alloc #[.int .i64 x, .int .i64 y] t)
  refine ⟨h'.1, h'.2.1, h'.2.2.1, fun r hr => ?_⟩
  rw [List.mem_append] at hr
  rcases hr with hr | hr
  · exact h'.2.2.2 r hr
  · simp at hr
    subst hr
    exact ⟨row_lit (l := [x, y]) (Blk.new wx _ _), off_blk (by have := Blk.lt h.1; show wx.heap.size ≠ U; omega)⟩

/-- The same list of two, told and written out. -/
theorem awSame {w : World} {U : Nat} {n : Int} {rows : List (Option Addr × List Int)} {wx : World} (h : AwS w U n rows wx) (ao bo : Option Addr) (l : List Int) (h1 : (ao, l) ∈ rows) (h2 : (bo, l) ∈ rows) (c1 c2 : Nat) :
    Calls Try.prog 24 #[.slice ao 2 c1, .slice bo 2 c2] wx fun e w' => e = .returned (.bool true) ∧ AwS w U n rows w' := by
  refine (kitSameQ ao bo 2 c1 c2 (ix l) (by omega) wx (h.2.2.2 _ h1).1 (h.2.2.2 _ h2).1).mono ?_
  rintro e w' ⟨rfl, m, rfl⟩
  exact ⟨rfl, h⟩

theorem size_alloc (w : World) (o : Obj) : (w.alloc o).heap.size = w.heap.size + 1 := by simp
theorem AwS.lit2 {w : World} {U : Nat} {n : Int} {rows : List (Option Addr × List Int)} {wx : World} (h : AwS w U n rows wx) (x y x2 y2 : Int) (t : TypeId) : AwS w U n (rows ++ [(some ⟨wx.heap.size, 0, none⟩, [x, y])] ++ [(some ⟨wx.heap.size + 1, 0, none⟩, [x2, y2])]) ((wx.alloc (.cells #[.int .i64 x, .int .i64 y] t)).alloc (.cells #[.int .i64 x2, .int .i64 y2] t)) := by
  have := (h.lit x y t).lit x2 y2 t
  rwa [size_alloc] at this

set_option maxHeartbeats 4000000 in
theorem lawVecAwake (w : World) : Calls Try.prog 10 #[] w fun e w' => e = .returned (.bool true) ∧ Kp w w' := by
  have N1 := hide (unitNew w)
  have hU := Nat.le_refl w.heap.size
  generalize e : w.heap.size = U at N1 hU
  replace hU : w.heap.size ≤ U := by omega
  have HE := hide hU
  clear e hU
  go_enter Try.func10, Try.ntmps10
  go_wp2_with fail
  refine (unhide N1).mono ?_
  rintro e w1 ⟨rfl, h1, g1⟩
  have S1 : Hid (AwS w U 0 [] w1) := ⟨h1, Kp.of g1, unhide HE, fun r hr => absurd hr (List.not_mem_nil)⟩
  clear h1 g1 N1
  have S2 := hide ((unhide S1).lit2 4294967296 8589934592 12884901888 (-4294967296) 3)
  go_wp2_with fail
  generalize (w1.alloc (.cells #[.int .i64 4294967296, .int .i64 8589934592] 3)).alloc (.cells #[.int .i64 12884901888, .int .i64 (-4294967296)] 3) = w2 at *
  refine (vecSumL [4294967296, 8589934592] [12884901888, -4294967296] [17179869184, 4294967296] 2 false rfl rfl vlits.1 vlits.2.1 (by decide) (by decide) (by omega) U false 0 ⟨by omega, by omega⟩ _ _ _ _ w2 (unhide S2).1 ((unhide S2).2.2.2 (_, [4294967296, 8589934592]) (by simp)).1 ((unhide S2).2.2.2 (_, [4294967296, 8589934592]) (by simp)).2 ((unhide S2).2.2.2 (_, [12884901888, -4294967296]) (by simp)).1 ((unhide S2).2.2.2 (_, [12884901888, -4294967296]) (by simp)).2).mono ?_
  intro e w3 hv
  obtain ⟨L3, rfl, s3⟩ := (unhide S2).tell hv rfl
  have S3 : Hid (AwS w U 4 _ w3) := s3
  clear hv s3 S2 S1
  go_wp2_with fail
  refine (vecLessL [4294967296, 8589934592] [12884901888, -4294967296] [-8589934592, 12884901888] 2 false rfl rfl vlits.1 vlits.2.1 (by decide) (by decide) (by omega) U false 4 ⟨by omega, by omega⟩ _ _ _ _ w3 (unhide S3).1 ((unhide S3).2.2.2 (_, [4294967296, 8589934592]) (by simp)).1 ((unhide S3).2.2.2 (_, [4294967296, 8589934592]) (by simp)).2 ((unhide S3).2.2.2 (_, [12884901888, -4294967296]) (by simp)).1 ((unhide S3).2.2.2 (_, [12884901888, -4294967296]) (by simp)).2).mono ?_
  intro e w4 hv
  obtain ⟨L4, rfl, s4⟩ := (unhide S3).tell hv rfl
  have S4 : Hid (AwS w U 6 _ w4) := s4
  clear hv s4 S3
  have S5 := hide ((unhide S4).lit 4294967296 3 3)
  go_wp2_with fail
  generalize w4.alloc (.cells #[.int .i64 4294967296, .int .i64 3] 3) = w5 at *
  refine (vecScaleL [4294967296, 3] [2147483648, 2] 2147483648 2 false rfl vlits.2.2 (by unfold I64; omega) (by decide) (by decide) (by omega) U false 6 ⟨by omega, by omega⟩ _ _ w5 (unhide S5).1 ((unhide S5).2.2.2 (_, [4294967296, 3]) (by simp)).1 ((unhide S5).2.2.2 (_, [4294967296, 3]) (by simp)).2).mono ?_
  intro e w6 hv
  obtain ⟨L6, rfl, s6⟩ := (unhide S5).tell hv rfl
  have S6 : Hid (AwS w U 10 _ w6) := s6
  clear hv s6 S5 S4
  have S7 := hide ((unhide S6).lit 17179869184 4294967296 3)
  go_wp2_with fail
  generalize w6.alloc (.cells #[.int .i64 17179869184, .int .i64 4294967296] 3) = w7 at *
  refine (awSame (unhide S7) _ _ [17179869184, 4294967296] (by simp) (by simp) _ _).mono ?_
  rintro e w8 ⟨rfl, s8⟩
  have S9 := hide (s8.lit (-8589934592) 12884901888 3)
  clear s8 S7 S6
  go_wp2_with fail
  generalize w8.alloc (.cells #[.int .i64 (-8589934592), .int .i64 12884901888] 3) = w9 at *
  refine (awSame (unhide S9) _ _ [-8589934592, 12884901888] (by simp) (by simp) _ _).mono ?_
  rintro e w10 ⟨rfl, s10⟩
  have S11 := hide (s10.lit 2147483648 2 3)
  clear s10 S9
  go_wp2_with fail
  generalize w10.alloc (.cells #[.int .i64 2147483648, .int .i64 2] 3) = w11 at *
  refine (awSame (unhide S11) _ _ [2147483648, 2] (by simp) (by simp) _ _).mono ?_
  rintro e w12 ⟨rfl, s12⟩
  have K := hide s12.2.1
  clear s12 S11
  go_wp2
  go_ret
  exact ⟨rfl, unhide K⟩

end Go.Proofs.Ytmdclpjbpkfckaa
