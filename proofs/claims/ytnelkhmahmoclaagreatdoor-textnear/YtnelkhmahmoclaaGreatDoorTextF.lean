/- The document's text: what a line is read as. -/
import Derived.Test.YtnelkhmahmoclaaGreatDoorTextE
import Derived.Test.YtnelkhmahmoclaaGreatDoorTextLine
namespace Go.Proofs.YtnelkhmahmoclaaGreatDoor
open Go.RowKit Go.Proofs.Wd
set_option linter.unusedVariables false
set_option linter.unusedSimpArgs false
set_option maxRecDepth 10000

theorem sub_list (s : ByteArray) (a e : Nat) (he : e ≤ s.size) : (s.extract a e).data.toList = (s.data.toList.drop a).take (e - a) := by
  have : (s.extract a e).data = s.data.extract a e := ByteArray.data_extract
  rw [this, Array.toList_extract]
theorem sub_size (s : ByteArray) (a e : Nat) (he : e ≤ s.size) : (s.extract a e).size ≤ s.size := by
  have h := congrArg List.length (sub_list s a e he)
  rw [List.length_take, List.length_drop, Array.length_toList, Array.length_toList] at h
  have : (s.extract a e).data.size = (s.extract a e).size := rfl
  have h2 : s.data.size = s.size := rfl
  omega
theorem byte32 (c : UInt8) : notB c = true ↔ ¬ ((c.toNat : Int) = 32) := by
  unfold notB
  rw [decide_eq_true_eq]
  constructor
  · intro h e
    apply h
    apply UInt8.toNat_inj.1
    show c.toNat = 32
    omega
  · intro h e
    rw [e] at h
    exact h rfl

/-- A row in memory of its own, behind W's. -/
def Free (W w : World) (ao : Option Addr) (n : Nat) : Prop := n = 0 ∨ ∃ b o, ao = some ⟨b, o, none⟩ ∧ W.heap.size ≤ b ∧ ∀ i, i < n → w.frozen? ⟨b, o + i, none⟩ = false
theorem Free.set {W w : World} {ao : Option Addr} {n : Nat} (h : Free W w ao n) (a : Addr) (v : Value) : Free W (w.setCell a v) ao n := by
  rcases h with h | ⟨b, o, h1, h2, h3⟩
  · exact Or.inl h
  · exact Or.inr ⟨b, o, h1, h2, fun i hi => (World.frozen?_setCell _ _ _ _).trans (h3 i hi)⟩
theorem owns_free {W w : World} {base : Nat} {e : TypeId} {ao : Option Addr} {n cap : Nat} {xs : List Value} (hb : W.heap.size ≤ base) (h : w.ownsRow base e 1 (.slice ao n cap) n xs) : Free W w ao n := by
  rcases h.2 with ⟨_, h0⟩ | ⟨g, cap', cur, e1, h1, hg, _⟩
  · exact Or.inl h0
  · cases e1
    refine Or.inr ⟨g, 0, rfl, by omega, fun i _ => ?_⟩
    simp [World.frozen?, hg]
/-- What comes of a line. -/
def ListP (R : List Int × Int × Int) (w : World) (e : Ending) (w' : World) : Prop :=
  ∃ ao cap, e = .returned (.tuple #[.slice ao R.1.length cap, .agg #[.int .i64 R.2.1, .int .i64 R.2.2]]) ∧ Row w' ao R.1.length (fun i => R.1.getD i 0) ∧ Free w w' ao R.1.length ∧ Kp w w'

/-- What stands ahead of a piece. -/
def ListI (l : List UInt8) (R : List Int × Int × Int) (B G : Nat) (w : World) (v : Value) (a : Nat) (wr : World) : Prop :=
  ∃ (f : Nat) (acc : List Int), listF l (f + 1) a acc = R ∧ l.length < f + a ∧ acc.length ≤ a ∧ wr.ownsRow B 3 1 v acc.length (acc.map (Value.int .i64)) ∧ B ≤ wr.heap.size ∧ Blk G #[.int .i64 0, .int .i64 0] 33 wr ∧ Kp w wr

theorem owns_list {w : World} {base : Nat} {v : Value} {l : List Int} (h : w.ownsRow base 3 1 v l.length (l.map (Value.int .i64))) : ∃ ao cap, v = .slice ao l.length cap ∧ Row w ao l.length (fun i => l.getD i 0) ∧ ∀ U, U < base → Off U l.length ao := by
  have e : l.map (Value.int .i64) = (List.range l.length).map fun i => Value.int .i64 (l.getD i 0) := by
    apply List.ext_getElem?
    intro i
    by_cases hi : i < l.length
    · simp [hi, List.getD]
    · simp [hi]
  rw [e] at h
  exact owns_row h

theorem owns_kp {w w' : World} {base : Nat} {e : TypeId} {size : Nat} {v : Value} {n : Nat} {xs : List Value} (h : w.ownsRow base e size v n xs) (k : Kp w w') : w'.ownsRow base e size v n xs := by
  refine ⟨h.1, ?_⟩
  rcases h.2 with h2 | ⟨g, cap, cur, rfl, hb, hg, r⟩
  · exact Or.inl h2
  · exact Or.inr ⟨g, cap, cur, rfl, hb, (k.2.2.1 g (Array.getElem?_eq_some_iff.1 hg).1).trans hg, r⟩

set_option maxRecDepth 100000 in
set_option maxHeartbeats 8000000 in
theorem refListT (s : ByteArray) (hs : s.size ≤ 1000000) (w : World) :
    Calls Tryz.prog 19 #[.string s] w fun e w' => ListP (listR s.data.toList) w e w' := by
  obtain ⟨l, hll⟩ : ∃ l, s.data.toList = l := ⟨_, rfl⟩
  have hlen : l.length = s.size := by rw [← hll]; exact len_list s
  rw [hll]
  have HL := hide (And.intro hll hlen)
  clear hll hlen
  obtain ⟨R, hR⟩ : ∃ R, listR l = R := ⟨_, rfl⟩
  rw [hR]
  have HR := hide hR
  clear hR
  obtain ⟨i0, hi', hz0, hz1, hz2⟩ := info_parts Tryz.infoInt
  go_enter Tryz.func19, Tryz.ntmps19
  go_wp2
  go_loopw [4, 5] (fun v i wr => ∃ a : Nat, a ≤ s.size ∧ i = .int .i64 a ∧ ListI l R (w.heap.size + 1) w.heap.size w v a wr) (fun _ i _ => s.size + 1 - (intOf i).toNat)
  case atStart => exact ⟨0, Nat.zero_le _, rfl, l.length + 1, [], unhide HR, by omega, by simp, World.ownsRow_nil _ _ _ _, by simp, heap_alloc_new w _, (Kp.refl _).alloc _ _⟩
  case round =>
    obtain ⟨a, ha, rfl, HI⟩ := hrel
    by_cases c0 : a < s.size ∨ 0 < a
    · have ca : a < l.length ∨ 0 < a := by rw [(unhide HL).2]; exact c0
      go_upto_region 3 with fail
      go_cut [16] (fun x wx => x = .bool true ∧ wr = wx)
      case first =>
        by_cases c1 : a < s.size
        · clear c0
          go_wp2_with fail
          go_meet
          case rel => exact ⟨rfl, rfl⟩
        · have c2 : 0 < a := by omega
          clear c0
          go_wp2_with fail
          go_meet
          case rel => exact ⟨by first | rfl | (simp <;> omega), rfl⟩
      case rest =>
        obtain ⟨rfl, rfl⟩ := hcut
        clear c0
        go_wp2_with fail
        go_loop [6] (fun i => ∃ e : Nat, a ≤ e ∧ e ≤ s.size ∧ i = .int .i64 e ∧ Hid (∀ i, a ≤ i → i < e → notB (l.getD i 0) = true)) (fun i => s.size - (intOf i).toNat)
        case atStart => exact ⟨a, Nat.le_refl _, ha, rfl, fun i h1 h2 => absurd h2 (by omega)⟩
        case round =>
          obtain ⟨e, hae, he, rfl, HB⟩ := hrel
          by_cases hlt : e < s.size
          · have hb : l.getD e 0 = s[e] := by rw [← (unhide HL).1]; exact getD_byte s e hlt
            by_cases b32 : (s[e].toNat : Int) = 32
            · have E : Hid (pe l a = e) := pe_eq l a e hae (by rw [(unhide HL).2]; exact he) (unhide HB) (Or.inr (by rw [hb]; cases h : notB s[e] with | false => rfl | true => exact absurd b32 ((byte32 _).1 h)))
              have b33 : ((s[e].toNat : Int) == 32) = true := by simpa using b32
              clear hb HB b32
              have GT := hide (refGetT (s.extract a e) (Nat.le_trans (sub_size s a e he) hs))
              rw [sub_list s a e he, (unhide HL).1] at GT
              obtain ⟨x, hx⟩ : ∃ x, getR ((l.drop a).take (e - a)) = x := ⟨_, rfl⟩
              have xI : I64 x.1 := by rw [← hx]; exact getR_I64 _
              rw [hx] at GT
              have HX := hide hx
              clear hx
              obtain ⟨x1, x2⟩ := x
              simp only at GT xI
              go_wp2_with fail
              refine (unhide GT _).mono ?_
              rintro e' w2 ⟨rfl, k2⟩
              obtain ⟨f, acc, f1, f2, f3, f4, f5, f6, f7⟩ := HI
              have ff := f6.kp k2
              have d0 : w2.cell? ⟨w.heap.size, 0, none⟩ = some (.int .i64 0) := Blk.cell ff 0
              have d1 : w2.cell? ⟨w.heap.size, 1, none⟩ = some (.int .i64 0) := Blk.cell ff 1
              have fz := Blk.free ff
              by_cases z : x2 = 0
              · subst z
                have HO := hide (owns_kp f4 k2)
                have HBS : Hid (w.heap.size + 1 ≤ w2.heap.size) := Nat.le_trans f5 k2.2.2.2
                have K3 := hide (f7.trans k2)
                have FF := hide ff
                have al : acc.length ≤ 1000000 := by omega
                go_wp2_with (at_builtin; refine wpList_append_own _ rfl _ _ 22 rfl (w.heap.size + 1) 3 i0 (.int .i64 0) 1 8 Tryz.underlying22 hi' hz0 hz1 hz2 rfl (by decide) _ _ _ rfl ((unhide HO).alloc _) ⟨w2.heap.size, 0, none⟩ 1 1 [.int .i64 x1] rfl rfl (news_one _ _ _) (one_cell _) (by unfold maxLen; omega) (by omega) (by have := unhide HBS; simp; omega) ?_; intro v' w6 hown' hgrow _)
                have lt := ((unhide HO).alloc (Obj.cells #[Value.int .i64 x1] 3)).lt
                have own6 : w6.ownsRow (w.heap.size + 1) 3 1 v' (acc ++ [x1]).length ((acc ++ [x1]).map (Value.int .i64)) := by
                  rw [List.length_append, List.map_append]
                  exact hown'
                have big6 : w.heap.size + 1 ≤ w6.heap.size := by
                  have h1 : w2.heap.size + 1 ≤ w6.heap.size := by have := hgrow.size; simpa using this
                  have h2 := unhide HBS
                  omega
                have blk6 : Blk w.heap.size #[.int .i64 0, .int .i64 0] 33 w6 := Blk.by (Blk.grown (unhide FF) ((Grown.refl _).alloc _ _)) hgrow (fun e => by have := (lt _ e.symm).1; omega)
                have kp6 : Kp w w6 := Kp.by ((unhide K3).alloc _ _) hgrow (fun i e => by have := (lt i e).1; omega)
                have P6 := hide (And.intro own6 (And.intro big6 (And.intro blk6 kp6)))
                clear own6 big6 blk6 kp6 hown' hgrow lt HO HBS K3 FF f4 f5 f6 f7 ff k2 d0 d1 fz
                have ee : e ≠ s.size := Nat.ne_of_lt hlt
                obtain ⟨f', rfl⟩ : ∃ f', f = f' + 1 := by
                  cases f with
                  | zero => rw [(unhide HL).2] at f2; omega
                  | succ f' => exact ⟨f', rfl⟩
                have RR : Hid (listF l (f' + 1) (e + 1) (acc ++ [x1]) = R) := by rw [Hid, ← f1]; exact (listF_on ca (unhide E) (unhide HX) rfl (by rw [(unhide HL).2]; exact ee)).symm
                have e33 : ((e : Int) == (s.size : Int)) = false := beq_eq_false_iff_ne.2 (by omega)
                have f2' : l.length < f' + (e + 1) := by omega
                clear f1
                go_wp2
                go_roundw
                case rel => exact ⟨e + 1, by omega, by go_num, f', acc ++ [x1], unhide RR, f2', by simp; omega, (unhide P6).1, (unhide P6).2.1, (unhide P6).2.2.1, (unhide P6).2.2.2⟩
                case measure => simp [intOf]; omega
              · have RR : Hid (([], x2, (a : Int)) = R) := by rw [Hid, ← f1]; exact (listF_bad ca (unhide E) (unhide HX) z).symm
                have z2 : (x2 == 0) = false := by simpa using z
                have K3 := hide (f7.trans k2)
                clear f1 f2 f3 f4 f5 f6 f7 ff k2 z
                go_wp2
                refine bodyPost_ret (v := .tuple #[.slice none 0 0, .agg #[.int .i64 x2, .int .i64 a]]) (by simp [results, Tryz.results19, go_sem, *]) rfl ?_
                rw [← unhide RR]
                exact ⟨none, 0, rfl, Or.inl rfl, Or.inl rfl, (unhide K3).mod (((Mod.refl _ _).setCell _ _).setCell _ _) (Nat.le_refl _)⟩
            · have R2 : Hid (∀ i, a ≤ i → i < e + 1 → notB (l.getD i 0) = true) := by
                intro i h1 h2
                by_cases ee : i = e
                · rw [ee, hb]; exact (byte32 _).2 b32
                · exact unhide HB i h1 (by omega)
              have b33 : ((s[e].toNat : Int) == 32) = false := by simpa using b32
              clear hb b32
              go_wp2
              go_round
              case rel => exact ⟨e + 1, by omega, by omega, by go_num, R2⟩
              case measure => simp [intOf]; omega
          · have E : Hid (pe l a = e) := pe_eq l a e hae (by rw [(unhide HL).2]; exact he) (unhide HB) (Or.inl (by rw [(unhide HL).2]; omega))
            clear HB
            have GT := hide (refGetT (s.extract a e) (Nat.le_trans (sub_size s a e he) hs))
            rw [sub_list s a e he, (unhide HL).1] at GT
            obtain ⟨x, hx⟩ : ∃ x, getR ((l.drop a).take (e - a)) = x := ⟨_, rfl⟩
            have xI : I64 x.1 := by rw [← hx]; exact getR_I64 _
            rw [hx] at GT
            have HX := hide hx
            clear hx
            obtain ⟨x1, x2⟩ := x
            simp only at GT xI
            go_wp2_with fail
            refine (unhide GT _).mono ?_
            rintro e' w2 ⟨rfl, k2⟩
            obtain ⟨f, acc, f1, f2, f3, f4, f5, f6, f7⟩ := HI
            have ff := f6.kp k2
            have d0 : w2.cell? ⟨w.heap.size, 0, none⟩ = some (.int .i64 0) := Blk.cell ff 0
            have d1 : w2.cell? ⟨w.heap.size, 1, none⟩ = some (.int .i64 0) := Blk.cell ff 1
            have fz := Blk.free ff
            by_cases z : x2 = 0
            · subst z
              have HO := hide (owns_kp f4 k2)
              have HBS : Hid (w.heap.size + 1 ≤ w2.heap.size) := Nat.le_trans f5 k2.2.2.2
              have K3 := hide (f7.trans k2)
              have FF := hide ff
              have al : acc.length ≤ 1000000 := by omega
              go_wp2_with (at_builtin; refine wpList_append_own _ rfl _ _ 22 rfl (w.heap.size + 1) 3 i0 (.int .i64 0) 1 8 Tryz.underlying22 hi' hz0 hz1 hz2 rfl (by decide) _ _ _ rfl ((unhide HO).alloc _) ⟨w2.heap.size, 0, none⟩ 1 1 [.int .i64 x1] rfl rfl (news_one _ _ _) (one_cell _) (by unfold maxLen; omega) (by omega) (by have := unhide HBS; simp; omega) ?_; intro v' w6 hown' hgrow _; have lt := ((unhide HO).alloc (Obj.cells #[Value.int .i64 x1] 3)).lt; have blk6 : Blk w.heap.size #[.int .i64 0, .int .i64 0] 33 w6 := Blk.by (Blk.grown (unhide FF) ((Grown.refl _).alloc _ _)) hgrow (fun e => (by have := (lt _ e.symm).1; omega)); have d06 : w6.cell? ⟨w.heap.size, 0, none⟩ = some (.int .i64 0) := Blk.cell blk6 0; have d16 : w6.cell? ⟨w.heap.size, 1, none⟩ = some (.int .i64 0) := Blk.cell blk6 1; have fz6 := Blk.free blk6)
              have own6 : w6.ownsRow (w.heap.size + 1) 3 1 v' (acc ++ [x1]).length ((acc ++ [x1]).map (Value.int .i64)) := by
                rw [List.length_append, List.map_append]
                exact hown'
              have big6 : w.heap.size + 1 ≤ w6.heap.size := by
                have h1 : w2.heap.size + 1 ≤ w6.heap.size := by have := hgrow.size; simpa using this
                have h2 := unhide HBS
                omega
              have kp6 : Kp w w6 := Kp.by ((unhide K3).alloc _ _) hgrow (fun i e => by have := (lt i e).1; omega)
              have P6 := hide (And.intro own6 (And.intro big6 (And.intro blk6 kp6)))
              clear own6 big6 blk6 kp6 hown' hgrow lt HO HBS K3 FF f4 f5 f6 f7 ff k2 d0 d1 fz
              have ee : e = s.size := by omega
              have RR : Hid ((acc ++ [x1], 0, 0) = R) := by rw [Hid, ← f1]; exact (listF_end ca (unhide E) (unhide HX) rfl (by rw [(unhide HL).2]; exact ee)).symm
              obtain ⟨ao2, cap2, rfl, row2, off2⟩ := owns_list (unhide P6).1
              have FR := hide (owns_free (W := w) (Nat.le_succ _) (unhide P6).1)
              have R2 := hide (And.intro row2 (off2 w.heap.size (Nat.lt_succ_self _)))
              clear row2 off2 f1
              generalize hLL : (acc ++ [x1]).length = LL at *
              have HLL := hide hLL
              clear hLL ee
              refine bodyPost_ret (v := .tuple #[.slice ao2 LL cap2, .agg #[.int .i64 0, .int .i64 0]]) (by simp [results, Tryz.results19, go_sem, *]) rfl ?_
              rw [← unhide RR]
              refine ⟨ao2, cap2, by rw [unhide HLL], ?_, by rw [unhide HLL]; exact ((unhide FR).set _ _).set _ _, (unhide P6).2.2.2.mod (((Mod.refl _ _).setCell _ _).setCell _ _) (Nat.le_refl _)⟩
              rw [unhide HLL]
              exact (unhide R2).1.mod (((Mod.refl _ _).setCell _ _).setCell _ _) (unhide R2).2
            · have RR : Hid (([], x2, (a : Int)) = R) := by rw [Hid, ← f1]; exact (listF_bad ca (unhide E) (unhide HX) z).symm
              have z2 : (x2 == 0) = false := by simpa using z
              have K3 := hide (f7.trans k2)
              clear f1 f2 f3 f4 f5 f6 f7 ff k2 z
              go_wp2
              refine bodyPost_ret (v := .tuple #[.slice none 0 0, .agg #[.int .i64 x2, .int .i64 a]]) (by simp [results, Tryz.results19, go_sem, *]) rfl ?_
              rw [← unhide RR]
              exact ⟨none, 0, rfl, Or.inl rfl, Or.inl rfl, (unhide K3).mod (((Mod.refl _ _).setCell _ _).setCell _ _) (Nat.le_refl _)⟩
    · obtain ⟨f, acc, f1, f2, f3, f4, f5, f6, f7⟩ := HI
      have RR : Hid ((acc, 0, 0) = R) := by rw [Hid, ← f1]; exact (listF_out (by rw [(unhide HL).2]; exact c0)).symm
      obtain ⟨ao2, cap2, rfl, row2, off2⟩ := owns_list f4
      have FR := hide (owns_free (W := w) (Nat.le_succ _) f4)
      have R2 := hide (And.intro row2 (off2 w.heap.size (Nat.lt_succ_self _)))
      have K7 := hide f7
      have d0 : wr.cell? ⟨w.heap.size, 0, none⟩ = some (.int .i64 0) := Blk.cell f6 0
      have d1 : wr.cell? ⟨w.heap.size, 1, none⟩ = some (.int .i64 0) := Blk.cell f6 1
      have fz := Blk.free f6
      have c1 : ¬ a < s.size := fun h => c0 (Or.inl h)
      have c2 : ¬ 0 < a := fun h => c0 (Or.inr h)
      clear c0 f1 f2 f3 f4 f5 f6 f7 row2 off2
      generalize hLL : acc.length = LL at *
      have HLL := hide hLL
      clear hLL
      go_wp2
      refine bodyPost_ret (v := .tuple #[.slice ao2 LL cap2, .agg #[.int .i64 0, .int .i64 0]]) (by simp [results, Tryz.results19, go_sem, *]) rfl ?_
      rw [← unhide RR]
      refine ⟨ao2, cap2, by rw [unhide HLL], ?_, by rw [unhide HLL]; exact ((unhide FR).set _ _).set _ _, (unhide K7).mod (((Mod.refl _ _).setCell _ _).setCell _ _) (Nat.le_refl _)⟩
      rw [unhide HLL]
      exact (unhide R2).1.mod (((Mod.refl _ _).setCell _ _).setCell _ _) (unhide R2).2

end Go.Proofs.YtnelkhmahmoclaaGreatDoor
