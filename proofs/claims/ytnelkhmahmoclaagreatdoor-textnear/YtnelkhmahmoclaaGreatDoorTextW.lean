/- Digits of the program: a run cut off, digits written. -/
import Derived.Test.YtnelkhmahmoclaaGreatDoorTextS
import Derived.Test.YtnelkhmahmoclaaGreatDoorFixD
import Derived.Test.YtnelkhmahmoclaaGreatDoorTextA
import Derived.Defers
import Derived.Deep.OwnRows
namespace Go.Proofs.YtnelkhmahmoclaaGreatDoor
open Go.RowKit Go.Shelf Go.Proofs.Wd
set_option linter.unusedVariables false
set_option linter.unusedSimpArgs false
set_option maxRecDepth 10000

theorem or_i64 (a b : Nat) (ha : a < 9223372036854775808) (hb : b < 9223372036854775808) : bits .or .i64 (a : Int) (b : Int) = ((a ||| b : Nat) : Int) := by
  have hx : a ||| b < 2 ^ 63 := Nat.or_lt_two_pow (by omega) (by omega)
  have h1 : (BitVec.ofInt 64 (a : Int)).toNat = a := by
    rw [BitVec.ofInt_natCast, BitVec.toNat_ofNat]; exact Nat.mod_eq_of_lt (by omega)
  have h2 : (BitVec.ofInt 64 (b : Int)).toNat = b := by
    rw [BitVec.ofInt_natCast, BitVec.toNat_ofNat]; exact Nat.mod_eq_of_lt (by omega)
  have h3 : (BitVec.ofInt 64 (a : Int) ||| BitVec.ofInt 64 (b : Int)).toNat = a ||| b := by rw [BitVec.toNat_or, h1, h2]
  show IntKind.i64.wrap ((BitVec.ofInt 64 (a : Int) ||| BitVec.ofInt 64 (b : Int)).toNat : Int) = _
  rw [h3]
  simp only [IntKind.wrap, IntKind.signed, IntKind.bits]
  have hx' : a ||| b < 9223372036854775808 := by simpa using hx
  generalize a ||| b = c at *
  simp
  omega
theorem or_run (h l : Nat) (hh : h ≤ 4194304) (hl : l ≤ 18446744073709551615) : bits .or .i64 (wrap64 ((h : Int) * 4294967296)) (wrap64 ((l : Int) / 4294967296)) = ((h * 4294967296 + l / 4294967296 : Nat) : Int) := by
  have e1 : wrap64 ((h : Int) * 4294967296) = ((2 ^ 32 * h : Nat) : Int) := by unfold wrap64; simp [IntKind.wrap, IntKind.signed, IntKind.bits]; omega
  have e2 : wrap64 ((l : Int) / 4294967296) = ((l / 4294967296 : Nat) : Int) := by unfold wrap64; simp [IntKind.wrap, IntKind.signed, IntKind.bits]; omega
  rw [e1, e2, or_i64 _ _ (by omega) (by omega), ← Nat.two_pow_add_eq_or_of_lt (show l / 4294967296 < 2 ^ 32 by omega) h]
  omega

set_option maxHeartbeats 400000 in
theorem textCutRun (p : Nat) (hp : p ≤ 4294967295) (w : World) : Calls Tryz.prog 30 #[.int .i64 p] w fun e w' => e = .returned (.tuple #[.int .i64 ((p * 10000000000000000 / 4294967296 : Nat) : Int), .int .i64 ((p * 10000000000000000 % 4294967296 : Nat) : Int)]) ∧ Grown w w' := by
  have M := hide (fun w => wideMul p 10000000000000000 (by unfold I64; omega) (by unfold I64; omega) w)
  have x0 : Hid (hiOf ((p : Int) * 10000000000000000) = ((p * 10000000000000000 / 18446744073709551616 : Nat) : Int)) := by
    show _ = _
    have e : (p : Int) * 10000000000000000 = ((p * 10000000000000000 : Nat) : Int) := by simp
    have hq : p * 10000000000000000 ≤ 42949672950000000000000000 := by omega
    rw [e]
    generalize p * 10000000000000000 = q at *
    unfold hiOf
    omega
  have x1 : Hid (loOf ((p : Int) * 10000000000000000) = ((p * 10000000000000000 % 18446744073709551616 : Nat) : Int)) := by
    show _ = _
    unfold loOf
    omega
  have Y : Hid (p * 10000000000000000 / 18446744073709551616 ≤ 4194304 ∧ p * 10000000000000000 % 18446744073709551616 ≤ 18446744073709551615 ∧ p * 10000000000000000 / 4294967296 = p * 10000000000000000 / 18446744073709551616 * 4294967296 + p * 10000000000000000 % 18446744073709551616 / 4294967296 ∧ p * 10000000000000000 % 4294967296 = p * 10000000000000000 % 18446744073709551616 % 4294967296) := by
    show _ ∧ _
    omega
  generalize p * 10000000000000000 / 18446744073709551616 = h at *
  generalize p * 10000000000000000 % 18446744073709551616 = l at *
  generalize p * 10000000000000000 / 4294967296 = A at *
  generalize p * 10000000000000000 % 4294967296 = B at *
  go_enter Tryz.func30, Tryz.ntmps30
  go_wp2_with fail
  refine (unhide M _).mono ?_
  rintro e w1 ⟨rfl, g1⟩
  rw [unhide x0, unhide x1]
  clear M x0 x1
  go_wp2
  go_region
  go_wp2
  obtain ⟨y1, y2, y3, y4⟩ := unhide Y
  go_ret2
  rw [or_run h l y1 y2, y3, y4]
  exact ⟨by congr 5, (gtrans g1 ((Grown.refl _).alloc _ _)).drew⟩

def byteV (x : UInt8) : Value := .int .u8 (x.toNat : Int)
theorem Tryz.infoByte : (Tryz.prog.info? 5).map (fun i => (i.zero, i.size, i.bytes)) = some (some (.int .u8 0), 1, 1) := by kernel_rfl
theorem owns_bytes {w : World} {base : Nat} {v : Value} {l : List UInt8} (h : w.ownsRow base 5 1 v l.length (l.map byteV)) (hl : 0 < l.length) :
    ∃ g cap, v = .slice (some ⟨g, 0, none⟩) l.length cap ∧ base ≤ g ∧ g < w.heap.size ∧ ∀ i, i < l.length → w.cell? ⟨g, 0 + i, none⟩ = some (byteV (l.getD i 0)) ∧ w.frozen? ⟨g, 0 + i, none⟩ = false := by
  rcases h.2 with ⟨h1, h2⟩ | ⟨g, cap, cur, rfl, hb, hg, hn, _, hsz, hxs⟩
  · omega
  · refine ⟨g, cap, rfl, hb, (Array.getElem?_eq_some_iff.1 hg).1, fun i hi => ⟨?_, ?_⟩⟩
    · rw [Nat.zero_add, cell_of_row w g i cur 5 (0, 0) hg]
      have e : (cur.toList.take (l.length * 1))[i]? = some (byteV (l.getD i 0)) := by rw [hxs]; simp [List.getD, List.getElem?_eq_getElem hi]
      rw [List.getElem?_take, if_pos (by omega)] at e
      simpa using e
    · simp [World.frozen?, hg]

set_option maxHeartbeats 400000 in
theorem textWritten1 (B g cap : Nat) (l : List UInt8) (hl : l.length ≤ 1000000) (u : FrameMode) (w : World) (hc : w.cell? ⟨B, 0, none⟩ = some (.slice (some ⟨g, 0, none⟩) l.length cap))
    (hg : ∀ i, i < l.length → w.cell? ⟨g, 0 + i, none⟩ = some (byteV (l.getD i 0)) ∧ w.frozen? ⟨g, 0 + i, none⟩ = false) :
    CallsD Tryz.prog 57 #[.pointer (some ⟨B, 0, none⟩)] u w fun e u' w' => u' = u ∧ (e = .returned (.tuple #[]) ∧ Mod g w w' ∧ ∀ i, i < l.length → w'.cell? ⟨g, 0 + i, none⟩ = some (.int .u8 ((l.reverse.getD i 0).toNat : Int))) := by
  have hH : Sort.Holds (fun x : UInt8 => Value.int .u8 x.toNat) w g 0 l.toArray := by
    intro j hj
    have hj' : j < l.length := by simpa using hj
    have h := hg j hj'
    refine ⟨?_, h.2⟩
    rw [h.1]
    simp [byteV, List.getD, List.getElem?_eq_getElem hj', getElem!_pos, hj']
  have R := hide (libReverse g 0 cap l w hH hl)
  clear hH hg
  generalize hn : l.length = n at *
  have HN := hide hn
  clear hn
  go_enter_d Tryz.func57, Tryz.ntmps57
  go_wp2_with fail
  refine (unhide R).mono ?_
  rintro e w1 ⟨rfl, m1, c1⟩
  go_wp2
  go_end0
  exact ⟨rfl, m1, c1⟩

def WrP (n least : Nat) (w : World) (e : Ending) (w' : World) : Prop :=
  ∃ K b cap, WrK n least K ∧ K ≤ 1000 ∧ e = .returned (.slice (some ⟨b, 0, none⟩) K cap) ∧ (∀ i, i < K → w'.cell? ⟨b, 0 + i, none⟩ = some (.int .u8 (((padL K n).getD i 0).toNat : Int))) ∧ Kp w w'
def WrI (n least : Nat) (w : World) (gk : Nat) (x : Value) (wr : World) : Prop :=
  ∃ k v, x = .int .i64 ((shr k n : Nat) : Int) ∧ (k = 0 ∨ shr (k - 1) n ≠ 0 ∨ k ≤ least) ∧ (shr k n + (least - k) < gk) ∧ Blk w.heap.size #[v] 50 wr ∧ wr.ownsRow (w.heap.size + 1) 5 1 v (rdig k n).length ((rdig k n).map byteV) ∧ w.heap.size + 1 ≤ wr.heap.size ∧ Kp w wr

theorem one_cell8 (x : Int) : ∀ u ∈ [Value.int .u8 x], u.oneCell' = true := by
  intro u hu
  simp at hu
  subst hu
  rfl
theorem wrap10 (m : Nat) (h : m ≤ 9223372036854775807) : wrap64 ((m : Int) / 10) = ((m / 10 : Nat) : Int) := by
  unfold wrap64
  simp [IntKind.wrap, IntKind.signed, IntKind.bits]
  omega
theorem owns_mod {w w' : World} {base U : Nat} {e : TypeId} {size : Nat} {v : Value} {n : Nat} {xs : List Value} (h : w.ownsRow base e size v n xs) (k : Mod U w w') (hU : U < base) : w'.ownsRow base e size v n xs := by
  obtain ⟨h1, h2⟩ := h
  refine ⟨h1, ?_⟩
  rcases h2 with ⟨rfl, rfl⟩ | ⟨g, cap, cur, rfl, hb, hg, r⟩
  · exact Or.inl ⟨rfl, rfl⟩
  · exact Or.inr ⟨g, cap, cur, rfl, hb, (k.2.2.1 g (Array.getElem?_eq_some_iff.1 hg).1 (by omega)).trans hg, r⟩
theorem owns_slice {w : World} {base : Nat} {e : TypeId} {v : Value} {n : Nat} {xs : List Value} (h : w.ownsRow base e 1 v n xs) : ∃ ao cap, v = .slice ao n cap := by
  rcases h.2 with ⟨h1, h2⟩ | ⟨g, cap, cur, rfl, hb, hg, hn, _, hsz, hxs⟩
  · exact ⟨none, 0, by rw [h1, h2]⟩
  · exact ⟨_, cap, rfl⟩
theorem shr_le : ∀ k n, shr k n ≤ n
  | 0, n => Nat.le_refl _
  | k + 1, n => Nat.le_trans (shr_le k (n / 10)) (Nat.div_le_self _ _)

set_option maxHeartbeats 800000 in
theorem textWritten (n least : Nat) (hn : n ≤ 9223372036854775807) (hl : least ≤ 900) (hl1 : 1 ≤ least) (w : World) : Calls Tryz.prog 32 #[.int .i64 n, .int .i64 least] w fun e w' => WrP n least w e w' := by
  have hmf : ∀ (fn : Fn) (first cap : Array Value) (w : World), (Instr.makeFunc fn first cap).run Tryz.prog w = .ok (.func fn first cap) w := fun _ _ _ _ => rfl
  obtain ⟨i0, hi', hz0, hz1, hz2⟩ := info_parts Tryz.infoByte
  go_enter_defers Tryz.func32, Tryz.ntmps32
  go_wp2
  go_loopg [0] (n + least + 1) (fun gk x wr => WrI n least w gk x wr)
  case atStart =>
    exact ⟨0, .slice none 0 0, rfl, Or.inl rfl, by show n + (least - 0) < _; omega, heap_alloc_new w _, World.ownsRow_nil _ _ _ _, by simp, (Kp.refl w).alloc _ _⟩
  case round =>
    obtain ⟨k, v, rfl, q1, q2, q3, q4, q5, q6⟩ := hrel
    have s19 : shr 19 n = 0 := shr_lt 19 n (by have : (10 : Nat) ^ 19 = 10000000000000000000 := by decide
                                               omega)
    have kb : k ≤ 900 := by
      rcases q1 with h | h | h
      · omega
      · rcases Nat.lt_or_ge (k - 1) 19 with c | c
        · omega
        · exact absurd (shr_ge 19 (k - 1) n c s19) h
      · omega
    obtain ⟨ao, cap, rfl⟩ := owns_slice q4
    have d0 : wr.cell? ⟨w.heap.size, 0, none⟩ = some (.slice ao (rdig k n).length cap) := Blk.cell q3 0
    have fz := Blk.free q3 0
    rw [rdig_len] at *
    have Q := hide (And.intro q1 (And.intro q3 (And.intro q4 (And.intro q5 q6))))
    have HS := hide (shr_step k n)
    have HR := hide (rdig_snoc k n)
    have HB : Hid (shr k n ≤ n) := shr_le k n
    clear q1 q3 q4 q5 q6 s19
    generalize hm : shr k n = m at *
    have HM := hide hm
    clear hm
    by_cases m0 : 0 < m
    · have mm : (0 : Int) < (m : Int) := by omega
      go_wp2_with (at_builtin; refine wpList_append_own _ rfl _ _ 50 rfl (w.heap.size + 1) 5 i0 (.int .u8 0) 1 1 Tryz.underlying50 hi' hz0 hz1 hz2 rfl (by decide) _ _ _ rfl ((unhide Q).2.2.1.alloc _) ⟨wr.heap.size, 0, none⟩ 1 1 [.int .u8 (48 + (m : Int) % 10)] rfl rfl (news_one _ _ _) (one_cell8 _) (by unfold maxLen; omega) (by omega) (by have := (unhide Q).2.2.2.1; simp; omega) ?_; intro v' w6 hown' hgrow _; obtain ⟨ao', cap', rfl⟩ := owns_slice hown'; have lt := ((unhide Q).2.2.1.alloc (Obj.cells #[Value.int .u8 (48 + (m : Int) % 10)] 5)).lt; have blk6 : Blk w.heap.size #[.slice ao k cap] 50 w6 := Blk.by (Blk.grown (unhide Q).2.1 ((Grown.refl _).alloc _ _)) hgrow (fun e => (by have := (lt _ e.symm).1; omega)); have d06 : w6.cell? ⟨w.heap.size, 0, none⟩ = some (.slice ao k cap) := Blk.cell blk6 0; have fz6 := Blk.free blk6 0; have hown6 := hide hown'; have hgrow6 := hide hgrow; clear hown' hgrow)
      go_roundg (gk - 1)
      case rel =>
        refine ⟨k + 1, .slice ao' (k + 1) cap', by rw [unhide HS]; first | rfl | exact congrArg (Value.int .i64) (wrap10 _ (by have := unhide HB; omega)), ?_, ?_, Blk.set blk6 0 _, ?_, ?_, ?_⟩
        · exact Or.inr (Or.inl (by rw [Nat.add_sub_cancel, unhide HM]; omega))
        · rw [unhide HS]
          omega
        · refine owns_mod ?_ ((Mod.refl w.heap.size w6).setCell 0 _) (Nat.lt_succ_self _)
          rw [unhide HR, List.length_append, List.map_append, rdig_len]
          have e : byteV (chr (m % 10)) = .int .u8 (48 + (m : Int) % 10) := by
            unfold byteV
            rw [chr_nat (m % 10) (by omega)]
            congr 1
          simp only [List.map_cons, List.map_nil, e]
          exact unhide hown6
        · have h1 : wr.heap.size + 1 ≤ w6.heap.size := by have := (unhide hgrow6).size; simpa using this
          have h2 := (unhide Q).2.2.2.1
          simp [World.setCell]
          omega
        · exact (Kp.by ((unhide Q).2.2.2.2.alloc _ _) (unhide hgrow6) (fun i e => by have := (lt i e).1; omega)).mod ((Mod.refl w.heap.size w6).setCell 0 _) (Nat.le_refl _)
      all_goals omega
    · obtain rfl : m = 0 := by omega
      by_cases kl : k < least
      · have kk : (k : Int) < (least : Int) := by omega
        go_wp2_with (at_builtin; refine wpList_append_own _ rfl _ _ 50 rfl (w.heap.size + 1) 5 i0 (.int .u8 0) 1 1 Tryz.underlying50 hi' hz0 hz1 hz2 rfl (by decide) _ _ _ rfl ((unhide Q).2.2.1.alloc _) ⟨wr.heap.size, 0, none⟩ 1 1 [.int .u8 48] rfl rfl (news_one _ _ _) (one_cell8 _) (by unfold maxLen; omega) (by omega) (by have := (unhide Q).2.2.2.1; simp; omega) ?_; intro v' w6 hown' hgrow _; obtain ⟨ao', cap', rfl⟩ := owns_slice hown'; have lt := ((unhide Q).2.2.1.alloc (Obj.cells #[Value.int .u8 48] 5)).lt; have blk6 : Blk w.heap.size #[.slice ao k cap] 50 w6 := Blk.by (Blk.grown (unhide Q).2.1 ((Grown.refl _).alloc _ _)) hgrow (fun e => (by have := (lt _ e.symm).1; omega)); have d06 : w6.cell? ⟨w.heap.size, 0, none⟩ = some (.slice ao k cap) := Blk.cell blk6 0; have fz6 := Blk.free blk6 0; have hown6 := hide hown'; have hgrow6 := hide hgrow; clear hown' hgrow)
        go_roundg (gk - 1)
        case rel =>
          refine ⟨k + 1, .slice ao' (k + 1) cap', by rw [unhide HS]; first | rfl | exact congrArg (Value.int .i64) (wrap10 _ (by have := unhide HB; omega)), ?_, ?_, Blk.set blk6 0 _, ?_, ?_, ?_⟩
          · exact Or.inr (Or.inr (by omega))
          · rw [unhide HS]
            omega
          · refine owns_mod ?_ ((Mod.refl w.heap.size w6).setCell 0 _) (Nat.lt_succ_self _)
            rw [unhide HR, List.length_append, List.map_append, rdig_len]
            have e : byteV (chr (0 % 10)) = .int .u8 48 := by
              rfl
            simp only [List.map_cons, List.map_nil, e]
            exact unhide hown6
          · have h1 : wr.heap.size + 1 ≤ w6.heap.size := by have := (unhide hgrow6).size; simpa using this
            have h2 := (unhide Q).2.2.2.1
            simp [World.setCell]
            omega
          · exact (Kp.by ((unhide Q).2.2.2.2.alloc _ _) (unhide hgrow6) (fun i e => by have := (lt i e).1; omega)).mod ((Mod.refl w.heap.size w6).setCell 0 _) (Nat.le_refl _)
        all_goals omega
      · have kk : ¬ (k : Int) < (least : Int) := by omega
        obtain ⟨q1, q3, q4, q5, q6⟩ := unhide Q
        have wk : WrK n least k := ⟨by omega, unhide HM, by
          rcases q1 with h | h | h
          · omega
          · exact Or.inr h
          · left; omega⟩
        have q4' : wr.ownsRow (w.heap.size + 1) 5 1 (.slice ao k cap) (rdig k n).length ((rdig k n).map byteV) := by rw [rdig_len]; exact q4
        obtain ⟨g, cap2, hv, hb, hg, hcells⟩ := owns_bytes q4' (by rw [rdig_len]; omega)
        rw [rdig_len] at hv
        injection hv with hv1 hv2 hv3
        subst hv1 hv3
        have HH := hide (And.intro q3 (And.intro hb (And.intro hg (And.intro hcells (And.intro wk q6)))))
        clear q1 q3 q4 q4' q5 q6 hb hg hcells wk Q HS HR HB
        go_wp2
        obtain ⟨q3, hb, hg, hcells, wk, q6⟩ := unhide HH
        refine leaves_cons (f := 57) (args := #[.pointer (some ⟨w.heap.size, 0, none⟩)]) (by simp) (by simp [go_sem]) ?_
        have m1 : Mod w.heap.size wr (wr.setCell ⟨w.heap.size, 0, none⟩ (.slice (some ⟨g, 0, none⟩) k cap)) := (Mod.refl w.heap.size wr).setCell 0 _
        have b1 := Blk.set q3 0 (.slice (some ⟨g, 0, none⟩) k cap)
        refine (textWritten1 w.heap.size g cap (rdig k n) (by rw [rdig_len]; omega) .returning _ (by rw [rdig_len]; exact Blk.cell b1 0) (fun i hi => ⟨m1.cell (hcells i hi).1 (by omega), (m1.2.2.2.1 _).trans (hcells i hi).2⟩)).mono ?_
        rintro e u' w2 ⟨rfl, rfl, m2, hc2⟩
        have c2 : w2.cell? ⟨w.heap.size, 0, none⟩ = some (.slice (some ⟨g, 0, none⟩) k cap) := m2.cell (Blk.cell b1 0) (by omega)
        simp [Leaves, settle, results, Tryz.results32, go_sem, c2]
        refine ⟨k, g, cap, wk, by omega, rfl, fun i hi => ?_, (q6.mod m1 (Nat.le_refl _)).mod m2 (by omega)⟩
        exact hc2 i (by rw [rdig_len]; exact hi)
end Go.Proofs.YtnelkhmahmoclaaGreatDoor
