/- The law's helper 'awake', and the walk of UnitKnown: the chapter's examples. -/
import Derived.Test.YtecelkneiffceaaGreatUnitN
namespace Go.Proofs.YtecelkneiffceaaGreat
open Go.RowKit Go.Proofs.Wd
set_option linter.unusedVariables false
set_option linter.unusedSimpArgs false
set_option maxRecDepth 10000

def ix (l : List Int) (i : Nat) : Int := l.getD i 0
theorem row_lit {w : World} {b : Nat} {l : List Int} {t : TypeId} (h : Blk b (l.map (Value.int .i64)).toArray t w) : Row w (some ⟨b, 0, none⟩) l.length (ix l) := by
  refine Or.inr ⟨b, 0, rfl, fun i hi => ?_⟩
  rw [Blk.cell h]
  simp [ix, hi]
theorem off_lit {U b len : Nat} (h : b ≠ U) : Off U len (some ⟨b, 0, none⟩) := by
  intro _ a ha
  cases ha
  exact h
theorem off_none (U len : Nat) : Off U len none := by
  intro _ a ha
  cases ha
theorem ix_I64 {l : List Int} (h : ∀ x ∈ l, I64 x) : ∀ i, i < l.length → I64 (ix l i) := by
  intro i hi
  simp only [ix, List.getD, List.getElem?_eq_getElem hi]
  exact h _ (List.getElem_mem _)

theorem unitAddL (l : List Int) (r : Int) (d : Bool) (hl : ∀ x ∈ l, I64 x) (h3 : l.length ≤ 1000000) (h1 : thN addN 0 (ix l) l.length = r) (h2 : thC addN addC 0 (ix l) l.length = d)
    (U : Nat) (c : Bool) (n : Int) (hn : 0 ≤ n ∧ n < 2305843009213693952) (b cap : Nat) (t : TypeId) (w : World) (h : UC U c n w) (hrow : Blk b (l.map (Value.int .i64)).toArray t w) (hb : b ≠ U) :
    Calls Tryz.prog 14 #[.pointer (some ⟨U, 0, none⟩), .slice (some ⟨b, 0, none⟩) l.length cap] w fun e w' => e = .returned (.int .i64 r) ∧ UC U (c || d) (n + l.length) w' ∧ Mod U w w' := by
  have := unitAdd U c n (some ⟨b, 0, none⟩) l.length cap (ix l) hn h3 (ix_I64 hl) w h (row_lit hrow) (off_lit hb)
  rw [h1, h2] at this
  exact this
theorem unitMulL (l : List Int) (r : Int) (d : Bool) (hl : ∀ x ∈ l, I64 x) (h3 : l.length ≤ 1000000) (h1 : thN mulN 4294967296 (ix l) l.length = r) (h2 : thC mulN mulC 4294967296 (ix l) l.length = d)
    (U : Nat) (c : Bool) (n : Int) (hn : 0 ≤ n ∧ n < 2305843009213693952) (b cap : Nat) (t : TypeId) (w : World) (h : UC U c n w) (hrow : Blk b (l.map (Value.int .i64)).toArray t w) (hb : b ≠ U) :
    Calls Tryz.prog 15 #[.pointer (some ⟨U, 0, none⟩), .slice (some ⟨b, 0, none⟩) l.length cap] w fun e w' => e = .returned (.int .i64 r) ∧ UC U (c || d) (n + l.length) w' ∧ Mod U w w' := by
  have := unitMul U c n (some ⟨b, 0, none⟩) l.length cap (ix l) hn h3 (ix_I64 hl) w h (row_lit hrow) (off_lit hb)
  rw [h1, h2] at this
  exact this
theorem unitDotL (l k : List Int) (r : Int) (d : Bool) (hl : ∀ x ∈ l, I64 x) (hk : ∀ x ∈ k, I64 x) (h3 : l.length ≤ 1000000) (h4 : k.length = l.length) (h1 : dotN (ix l) (ix k) l.length = r) (h2 : dotC (ix l) (ix k) l.length = d)
    (U : Nat) (c : Bool) (n : Int) (hn : 0 ≤ n ∧ n < 2305843009213693952) (b cap bb cap2 : Nat) (t t2 : TypeId) (w : World) (h : UC U c n w) (hrow : Blk b (l.map (Value.int .i64)).toArray t w) (hb : b ≠ U) (hrow2 : Blk bb (k.map (Value.int .i64)).toArray t2 w) (hb2 : bb ≠ U) :
    Calls Tryz.prog 16 #[.pointer (some ⟨U, 0, none⟩), .slice (some ⟨b, 0, none⟩) l.length cap, .slice (some ⟨bb, 0, none⟩) k.length cap2] w fun e w' => e = .returned (.tuple #[.int .i64 r, .int .i64 0]) ∧ UC U (c || d) (n + 2 * l.length) w' ∧ Mod U w w' := by
  have R2 : Row w (some ⟨bb, 0, none⟩) k.length (ix k) := row_lit hrow2
  have K2 : ∀ i, i < k.length → I64 (ix k i) := ix_I64 hk
  rw [h4] at R2 K2
  have := unitDot_ok U c n (some ⟨b, 0, none⟩) (some ⟨bb, 0, none⟩) l.length cap cap2 (ix l) (ix k) hn h3 (ix_I64 hl) K2 w h (row_lit hrow) (off_lit hb) R2 (off_lit hb2)
  rw [h1, h2] at this
  rw [h4]
  exact this

theorem blk_new2 (w : World) (A : Obj) (cs : Array Value) (t : TypeId) : Blk (w.heap.size + 1) cs t ((w.alloc A).alloc (.cells cs t)) := by
  have := heap_alloc_new (w.alloc A) (.cells cs t)
  simpa [Blk] using this

theorem i64_lits : (∀ x ∈ [4294967296, 4294967296, (4294967296 : Int)], I64 x) ∧ (∀ x ∈ [2147483648, (2147483648 : Int)], I64 x) ∧ (∀ x ∈ [4294967296, (8589934592 : Int)], I64 x) ∧ (∀ x ∈ [12884901888, (2147483648 : Int)], I64 x) ∧ (∀ x ∈ [9223372036854775807, 4294967296, (-4294967296 : Int)], I64 x) ∧ (∀ x ∈ [(1 : Int)], I64 x) := by
  refine ⟨?_, ?_, ?_, ?_, ?_, ?_⟩ <;> (intro x hx; simp at hx; unfold I64; omega)

set_option maxHeartbeats 2000000 in
theorem lawAwake (w : World) : Calls Tryz.prog 7 #[] w fun e w' => e = .returned (.bool true) ∧ Grown w w' := by
  have A0 := hide (fun U w h => unitAdd U false 0 none 0 0 (fun _ => 0) ⟨by omega, by omega⟩ (by omega) (fun _ h => absurd h (Nat.not_lt_zero _)) w h (Or.inl rfl) (off_none U 0))
  have M0 := hide (fun U w h => unitMul U false 0 none 0 0 (fun _ => 0) ⟨by omega, by omega⟩ (by omega) (fun _ h => absurd h (Nat.not_lt_zero _)) w h (Or.inl rfl) (off_none U 0))
  change Hid (∀ U w, UC U false 0 w → Calls Tryz.prog 14 #[.pointer (some ⟨U, 0, none⟩), .slice none 0 0] w fun e w' => e = .returned (.int .i64 0) ∧ UC U false 0 w' ∧ Mod U w w') at A0
  change Hid (∀ U w, UC U false 0 w → Calls Tryz.prog 15 #[.pointer (some ⟨U, 0, none⟩), .slice none 0 0] w fun e w' => e = .returned (.int .i64 4294967296) ∧ UC U false 0 w' ∧ Mod U w w') at M0
  have N1 := hide (unitNew w)
  have hU := Nat.le_refl w.heap.size
  generalize e : w.heap.size = U at N1 hU
  replace hU : w.heap.size ≤ U := by omega
  have HE := hide hU
  clear e hU
  go_enter Tryz.func7, Tryz.ntmps7
  go_wp2_with fail
  refine (unhide N1).mono ?_
  rintro e w1 ⟨rfl, h1, g1⟩
  have H1 := hide h1
  have G1 := hide g1
  clear h1 g1
  go_wp2_with fail
  refine (unhide A0 _ _ (unhide H1)).mono ?_
  rintro e w2 ⟨rfl, h2, m2⟩
  have H2 := hide h2
  have G2 := hide (Mod.grown (unhide G1) m2 (unhide HE))
  clear h2 m2
  go_wp2_with fail
  refine (unhide M0 _ _ (unhide H2)).mono ?_
  rintro e w3 ⟨rfl, h3, m3⟩
  have H3 := hide h3
  have G3 := hide (Mod.grown (unhide G2) m3 (unhide HE))
  clear h3 m3
  go_wp2_with fail
  refine (unitAddL [4294967296, 4294967296, 4294967296] 12884901888 false i64_lits.1 (by decide) (by decide) (by decide) U false 0 ⟨by omega, by omega⟩ _ _ _ _ (Blk.grown (unhide H3) ((Grown.refl _).alloc _ _)) (heap_alloc_new _ _) (Nat.ne_of_gt (Blk.lt (unhide H3)))).mono ?_
  rintro e w4 ⟨rfl, h4, m4⟩
  have H4 : Hid (UC U false 3 w4) := h4
  have G4 := hide (Mod.grown ((unhide G3).alloc _ _) m4 (unhide HE))
  clear h4 m4
  go_wp2_with fail
  refine (unitMulL [2147483648, 2147483648] 1073741824 false i64_lits.2.1 (by decide) (by decide) (by decide) U false 3 ⟨by omega, by omega⟩ _ _ _ _ (Blk.grown (unhide H4) ((Grown.refl _).alloc _ _)) (heap_alloc_new _ _) (Nat.ne_of_gt (Blk.lt (unhide H4)))).mono ?_
  rintro e w5 ⟨rfl, h5, m5⟩
  have H5 : Hid (UC U false 5 w5) := h5
  have G5 := hide (Mod.grown ((unhide G4).alloc _ _) m5 (unhide HE))
  clear h5 m5
  go_wp2_with fail
  refine (unitCount U _ _ _ (unhide H5)).mono ?_
  rintro e w6 ⟨rfl, rfl⟩
  go_wp2_with fail
  refine (unitDotL [4294967296, 8589934592] [12884901888, 2147483648] 17179869184 false i64_lits.2.2.1 i64_lits.2.2.2.1 (by decide) (by decide) (by decide) (by decide) U false 5 ⟨by omega, by omega⟩ _ _ _ _ _ _ _ (Blk.grown (unhide H5) (((Grown.refl _).alloc _ _).alloc _ _)) (Blk.grown (heap_alloc_new w6 _) ((Grown.refl _).alloc _ _)) (Nat.ne_of_gt (Blk.lt (unhide H5))) (blk_new2 _ _ _ _) (Nat.ne_of_gt (Nat.lt_succ_of_lt (Blk.lt (unhide H5))))).mono ?_
  rintro e w7 ⟨rfl, h7, m7⟩
  have H7 : Hid (UC U false 9 w7) := h7
  have G7 := hide (Mod.grown (((unhide G5).alloc _ _).alloc _ _) m7 (unhide HE))
  clear h7 m7
  go_wp2_with fail
  refine (unitCut U _ _ _ (unhide H7)).mono ?_
  rintro e w8 ⟨rfl, rfl⟩
  go_wp2
  go_ret
  exact ⟨rfl, unhide G7⟩

end Go.Proofs.YtecelkneiffceaaGreat
