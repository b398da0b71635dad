/- The laws' helper cut; VecBack. -/
import Derived.Test.YtmdclpjbpkfckaaVecG
namespace Go.Proofs.Ytmdclpjbpkfckaa
open Go.RowKit Go.Proofs.Wd
set_option linter.unusedVariables false
set_option linter.unusedSimpArgs false

set_option maxHeartbeats 1000000 in
theorem lawCut (ao bo : Option Addr) (l1 c1 l2 c2 m : Nat) (h1 : l1 ≤ c1) (h2 : l1 ≤ 1000) (h3 : l2 ≤ 1000) (hm : m = if l1 ≤ l2 then l1 else l2) (w : World) :
    Calls Try.prog 25 #[.slice ao l1 c1, .slice bo l2 c2] w fun e w' => e = .returned (.slice ao m c1) ∧ w' = w := by
  have hmc : m ≤ c1 := by rw [hm]; split <;> omega
  have S := slice_to ao l1 c1 m hmc
  by_cases hlt : l1 ≤ l2
  · rw [if_pos hlt] at hm
    subst hm
    by_cases he : m = l2
    · subst he
      go_enter Try.func25, Try.ntmps25
      go_wp2
      go_ret
      exact ⟨rfl, rfl⟩
    · have hlt2 : (m : Int) < l2 := by omega
      go_enter Try.func25, Try.ntmps25
      go_wp2
      go_ret
      exact ⟨rfl, rfl⟩
  · rw [if_neg hlt] at hm
    subst hm
    have hlt2 : (m : Int) < l1 := by omega
    go_enter Try.func25, Try.ntmps25
    go_wp2
    go_ret
    exact ⟨rfl, rfl⟩

theorem Row.congr {w : World} {ao : Option Addr} {len : Nat} {Z Y : Nat → Int} (h : Row w ao len Z) (e : ∀ i, i < len → Z i = Y i) : Row w ao len Y := by
  rcases h with h | ⟨b, o, rfl, hc⟩
  · exact Or.inl h
  · exact Or.inr ⟨b, o, rfl, fun i hi => by rw [← e i hi]; exact hc i hi⟩

/-- A law under way: its unit, what came in is as it was, and where lists lie. -/
def VS (w : World) (U : Nat) (c : Bool) (n : Int) (len : Nat) (rows : List (Option Addr × (Nat → Int))) (wx : World) : Prop := UC U c n wx ∧ Kp w wx ∧ w.heap.size ≤ U ∧ ∀ r ∈ rows, Row wx r.1 len r.2 ∧ Off U len r.1
theorem VS.mod {w : World} {U : Nat} {c c' : Bool} {n n' : Int} {len : Nat} {rows : List (Option Addr × (Nat → Int))} {wx w' : World} (h : VS w U c n len rows wx) (u : UC U c' n' w') (m : Mod U wx w') : VS w U c' n' len rows w' :=
  ⟨u, h.2.1.mod m h.2.2.1, h.2.2.1, fun r hr => ⟨(h.2.2.2 r hr).1.mod m (h.2.2.2 r hr).2, (h.2.2.2 r hr).2⟩⟩
theorem VS.grown {w : World} {U : Nat} {c : Bool} {n : Int} {len : Nat} {rows : List (Option Addr × (Nat → Int))} {wx w' : World} (h : VS w U c n len rows wx) (g : Grown wx w') : VS w U c n len rows w' :=
  h.mod (Blk.grown h.1 g) (Mod.of g)
theorem VS.kp {w : World} {U : Nat} {c : Bool} {n : Int} {len : Nat} {rows : List (Option Addr × (Nat → Int))} {wx w' : World} (h : VS w U c n len rows wx) (k : Kp wx w') : VS w U c n len rows w' :=
  ⟨Blk.kp h.1 k, h.2.1.trans k, h.2.2.1, fun r hr => ⟨(h.2.2.2 r hr).1.kp k, (h.2.2.2 r hr).2⟩⟩
theorem VS.tell {w : World} {U : Nat} {c c' : Bool} {n m : Int} {len : Nat} {rows : List (Option Addr × (Nat → Int))} {wx : World} {e : Ending} {w' : World} {Z : Nat → Int} (h : VS w U c n len rows wx) (v : VP U len Z c' m wx e w') :
    ∃ L, e = .returned (.tuple #[.slice (some ⟨L, 0, none⟩) len len, .int .i64 0]) ∧ VS w U c' m len (rows ++ [(some ⟨L, 0, none⟩, Z)]) w' := by
  obtain ⟨L, h1, h2, h3, h4, h5⟩ := v
  have h' := h.mod h4 h5
  refine ⟨L, h2, h4, h'.2.1, h'.2.2.1, fun r hr => ?_⟩
  rw [List.mem_append] at hr
  rcases hr with hr | hr
  · exact h'.2.2.2 r hr
  · simp at hr
    subst hr
    exact ⟨h3.row, off_blk (by have := Blk.lt h.1; show L ≠ U; omega)⟩
theorem VS.same {w : World} {U : Nat} {c : Bool} {n : Int} {len : Nat} {rows : List (Option Addr × (Nat → Int))} {wx : World} (h : VS w U c n len rows wx) (hl : len ≤ 1000000) (ao bo : Option Addr) (Z Y : Nat → Int) (h1 : (ao, Z) ∈ rows) (h2 : (bo, Y) ∈ rows) (he : ∀ i, i < len → Z i = Y i) (c1 c2 : Nat) :
    Calls Try.prog 24 #[.slice ao len c1, .slice bo len c2] wx fun e w' => e = .returned (.bool true) ∧ VS w U c n len rows w' := by
  refine (kitSameQ ao bo len c1 c2 Y hl wx ((h.2.2.2 _ h1).1.congr he) (h.2.2.2 _ h2).1).mono ?_
  rintro e w' ⟨rfl, m, rfl⟩
  exact ⟨rfl, h⟩
theorem VS.sum {w : World} {U : Nat} {c : Bool} {n : Int} {len : Nat} {rows : List (Option Addr × (Nat → Int))} {wx : World} (h : VS w U c n len rows wx) (hl : len ≤ 1000000) (hn : 0 ≤ n ∧ n < 1152921504606846976) (ao bo : Option Addr) (Z Y : Nat → Int) (h1 : (ao, Z) ∈ rows) (h2 : (bo, Y) ∈ rows) (hZ : ∀ i, i < len → I64 (Z i)) (hY : ∀ i, i < len → I64 (Y i)) (c1 c2 : Nat) :
    Calls Try.prog 13 #[.pointer (some ⟨U, 0, none⟩), .slice ao len c1, .slice bo len c2] wx fun e w' => ∃ L, e = .returned (.tuple #[.slice (some ⟨L, 0, none⟩) len len, .int .i64 0]) ∧ VS w U (c || zC s2C Z Y len) (n + 2 * len) len (rows ++ [(some ⟨L, 0, none⟩, fun i => s2N (Z i) (Y i))]) w' :=
  (vecSum_ok U c n ao bo len c1 c2 Z Y hl hn hZ hY wx h.1 (h.2.2.2 _ h1).1 (h.2.2.2 _ h1).2 (h.2.2.2 _ h2).1 (h.2.2.2 _ h2).2).mono fun e w' hv => h.tell hv
theorem VS.less {w : World} {U : Nat} {c : Bool} {n : Int} {len : Nat} {rows : List (Option Addr × (Nat → Int))} {wx : World} (h : VS w U c n len rows wx) (hl : len ≤ 1000000) (hn : 0 ≤ n ∧ n < 1152921504606846976) (ao bo : Option Addr) (Z Y : Nat → Int) (h1 : (ao, Z) ∈ rows) (h2 : (bo, Y) ∈ rows) (hZ : ∀ i, i < len → I64 (Z i)) (hY : ∀ i, i < len → I64 (Y i)) (c1 c2 : Nat) :
    Calls Try.prog 16 #[.pointer (some ⟨U, 0, none⟩), .slice ao len c1, .slice bo len c2] wx fun e w' => ∃ L, e = .returned (.tuple #[.slice (some ⟨L, 0, none⟩) len len, .int .i64 0]) ∧ VS w U (c || zC subC Z Y len) (n + 1 * len) len (rows ++ [(some ⟨L, 0, none⟩, fun i => subN (Z i) (Y i))]) w' :=
  (vecLess_ok U c n ao bo len c1 c2 Z Y hl hn hZ hY wx h.1 (h.2.2.2 _ h1).1 (h.2.2.2 _ h1).2 (h.2.2.2 _ h2).1 (h.2.2.2 _ h2).2).mono fun e w' hv => h.tell hv
theorem VS.dot {w : World} {U : Nat} {c : Bool} {n : Int} {len : Nat} {rows : List (Option Addr × (Nat → Int))} {wx : World} (h : VS w U c n len rows wx) (hl : len ≤ 1000000) (hn : 0 ≤ n ∧ n < 1152921504606846976) (ao bo : Option Addr) (Z Y : Nat → Int) (h1 : (ao, Z) ∈ rows) (h2 : (bo, Y) ∈ rows) (hZ : ∀ i, i < len → I64 (Z i)) (hY : ∀ i, i < len → I64 (Y i)) (c1 c2 : Nat) :
    Calls Try.prog 20 #[.pointer (some ⟨U, 0, none⟩), .slice ao len c1, .slice bo len c2] wx fun e w' => e = .returned (.tuple #[.int .i64 (dotN Z Y len), .int .i64 0]) ∧ VS w U (c || dotC Z Y len) (n + 2 * len) len rows w' := by
  refine vecDot_of _ _ _ (fun e w' => VS w U (c || dotC Z Y len) (n + 2 * len) len rows w') _ _ wx ?_
  refine (unitDot_ok U c n ao bo len c1 c2 Z Y ⟨hn.1, by omega⟩ hl hZ hY wx h.1 (h.2.2.2 _ h1).1 (h.2.2.2 _ h1).2 (h.2.2.2 _ h2).1 (h.2.2.2 _ h2).2).mono ?_
  rintro e w' ⟨rfl, u, m⟩
  exact ⟨rfl, h.mod u m⟩

set_option maxHeartbeats 4000000 in
theorem lawVecBack (ao bo : Option Addr) (l1 c1 l2 c2 : Nat) (X Y : Nat → Int) (le1 : l1 ≤ c1) (le2 : l2 ≤ c2) (lm1 : c1 ≤ 9223372036854775807) (lm2 : c2 ≤ 9223372036854775807) (hX : Hid (∀ i, i < l1 → I64 (X i))) (hY : Hid (∀ i, i < l2 → I64 (Y i))) (w : World) (hr : Row w ao l1 X) (ht : Row w bo l2 Y) :
    Calls Try.prog 6 #[.slice ao l1 c1, .slice bo l2 c2] w fun e w' => e = .returned (.bool true) ∧ Kp w w' := by
  have HR := hide (And.intro hr ht)
  clear hr ht
  go_enter Try.func6, Try.ntmps6
  go_wp2_with fail
  refine (lawVecKnown w).mono ?_
  rintro e w1 ⟨rfl, k1⟩
  have K1 := hide k1
  clear k1
  go_wp2_with fail
  refine (unitNew w1).mono ?_
  rintro e w2 ⟨rfl, h2, g2⟩
  have hU : w.heap.size ≤ w1.heap.size := (unhide K1).2.2.2
  have S2 : Hid (UC w1.heap.size false 0 w2 ∧ Kp w w2 ∧ w.heap.size ≤ w1.heap.size) := ⟨h2, (unhide K1).grown g2, hU⟩
  clear h2 g2 hU K1
  generalize w1.heap.size = U at *
  by_cases hb1 : l1 ≤ 150
  · by_cases hb2 : l2 ≤ 150
    · obtain ⟨m, hm⟩ : ∃ m, m = if l1 ≤ l2 then l1 else l2 := ⟨_, rfl⟩
      have hm1 : m ≤ l1 ∧ m ≤ l2 := by rw [hm]; split <;> omega
      have hm2 : m = if l2 ≤ l1 then l2 else l1 := by rw [hm]; split <;> split <;> omega
      have S3 : Hid (VS w U false 0 m [(ao, X), (bo, Y)] w2) := by
        obtain ⟨s1, s2, s3⟩ := unhide S2
        obtain ⟨r1, r2⟩ := unhide HR
        refine ⟨s1, s2, s3, fun r hr => ?_⟩
        simp at hr
        rcases hr with rfl | rfl
        · exact ⟨(r1.sub hm1.1).kp s2, (r1.sub hm1.1).off s3⟩
        · exact ⟨(r2.sub hm1.2).kp s2, (r2.sub hm1.2).off s3⟩
      have HX : Hid (∀ i, i < m → I64 (X i)) := fun i hi => unhide hX i (by omega)
      have HY : Hid (∀ i, i < m → I64 (Y i)) := fun i hi => unhide hY i (by omega)
      have C1 := hide (lawCut ao bo l1 c1 l2 c2 m le1 (by omega) (by omega) hm)
      have C2 := hide (lawCut bo ao l2 c2 l1 c1 m le2 (by omega) (by omega) hm2)
      have hm3 : m ≤ 150 := by omega
      clear hm hm2 S2 HR
      go_wp2_with fail
      refine (unhide C1 _).mono ?_
      rintro e w3 ⟨rfl, rfl⟩
      go_wp2_with fail
      refine (unhide C2 _).mono ?_
      rintro e w4 ⟨rfl, rfl⟩
      clear C1 C2
      go_wp2_with fail
      refine ((unhide S3).sum (by omega) ⟨by omega, by omega⟩ ao bo X Y (by simp) (by simp) (unhide HX) (unhide HY) _ _).mono ?_
      rintro e w5 ⟨L5, rfl, s5⟩
      have S5 := hide s5
      clear s5 S3
      go_wp2_with fail
      refine ((unhide S5).sum (by omega) ⟨by omega, by omega⟩ bo ao Y X (by simp) (by simp) (unhide HY) (unhide HX) _ _).mono ?_
      rintro e w6 ⟨L6, rfl, s6⟩
      have S6 := hide s6
      clear s6 S5
      go_wp2_with fail
      refine ((unhide S6).same (by omega) (some ⟨L5, 0, none⟩) (some ⟨L6, 0, none⟩) _ _ (by simp) (by simp) (fun i hi => s2N_comm _ _ (unhide HX i hi) (unhide HY i hi)) _ _).mono ?_
      rintro e w7 ⟨rfl, s7⟩
      have S7 := hide s7
      clear s7 S6
      obtain ⟨q, eq⟩ : ∃ q, (false || zC s2C X Y m || zC s2C Y X m) = q := ⟨_, rfl⟩
      rw [eq] at S7
      have EQ := hide eq
      clear eq
      go_wp2_with fail
      refine (unitCut U q _ w7 (unhide S7).1).mono ?_
      rintro e w8 ⟨rfl, rfl⟩
      cases q
      · have NC : Hid (∀ i, i < m → s2C (X i) (Y i) = false) := by
          have := unhide EQ
          rw [Bool.or_eq_false_iff, Bool.or_eq_false_iff] at this
          exact zC_false _ _ _ _ this.1.2
        go_wp2_with fail
        refine ((unhide S7).less (by omega) ⟨by omega, by omega⟩ (some ⟨L5, 0, none⟩) bo (fun i => s2N (X i) (Y i)) Y (by simp) (by simp) (fun i hi => s2N_I64 _ _) (unhide HY) _ _).mono ?_
        rintro e w9 ⟨L9, rfl, s9⟩
        rw [Bool.false_or, zC_of subC _ _ m (fun i hi => (s2_back _ _ (unhide HX i hi) (unhide HY i hi) (unhide NC i hi)).2)] at s9
        have S9 := hide s9
        clear s9 S7
        go_wp2_with fail
        refine ((unhide S9).same (by omega) (some ⟨L9, 0, none⟩) ao _ X (by simp) (by simp) (fun i hi => (s2_back _ _ (unhide HX i hi) (unhide HY i hi) (unhide NC i hi)).1) _ _).mono ?_
        rintro e w10 ⟨rfl, s10⟩
        have S10 := hide s10
        clear s10 S9
        go_wp2_with fail
        refine (unitCut U false _ w10 (unhide S10).1).mono ?_
        rintro e w11 ⟨rfl, rfl⟩
        have K := hide (unhide S10).2.1
        go_wp2
        go_ret
        exact ⟨rfl, unhide K⟩
      · have K := hide (unhide S7).2.1
        go_wp2
        go_ret
        exact ⟨rfl, unhide K⟩
    · have hb2' : ((150 : Int) < (l2 : Int)) := by omega
      go_wp2
      go_ret
      exact ⟨rfl, (unhide S2).2.1⟩
  · have hb1' : ((150 : Int) < (l1 : Int)) := by omega
    go_wp2
    go_ret
    exact ⟨rfl, (unhide S2).2.1⟩

end Go.Proofs.Ytmdclpjbpkfckaa
