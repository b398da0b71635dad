/- MoT0, as far as MotionTells wants it. -/
import Derived.Test.YtjobgjcfkomhpaaGreatMotionTellsT6
import Derived.Test.YtjobgjcfkomhpaaGreatMdlLV
set_option linter.unusedVariables false
set_option linter.unusedSimpArgs false
namespace Go.Proofs.YtjobgjcfkomhpaaGreat
open Go.RowKit Go.Shelf Go.Proofs.Wd
set_option maxRecDepth 10000
theorem rvs_depL (ao : Option Addr) (n : Nat) (X : Nat → RV) : DepL (rowD ao n) (fun w => RVs w ao n X) := fun w w' h r => by
 rcases r with r | ⟨b, o, rfl, hc⟩
 ·exact Or.inl r
 ·by_cases h0 : n = 0
  ·exact Or.inl h0
  ·refine Or.inr ⟨b, o, rfl, fun i hi j hj => ?_⟩
   have e : w'.heap[b]? = w.heap[b]? := h b (by unfold rowD; rw [if_neg h0]; simp)
   exact (World.cell?_of_block (a := ⟨b, o + i * 3 + j, none⟩) e).trans (hc i hi j hj)
theorem rvs_lt {w : World} {ao : Option Addr} {n : Nat} {X : Nat → RV} (h : RVs w ao n X) : ∀ k ∈ rowD ao n, k < w.heap.size := fun k hk => by
 rcases h with h | ⟨b, o, rfl, hc⟩
 ·unfold rowD at hk; rw [if_pos h] at hk; exact absurd hk List.not_mem_nil
 ·unfold rowD at hk
  split at hk
  ·exact absurd hk List.not_mem_nil
  ·rename_i h0
   simp at hk
   subst hk
   exact heap_gt (hc 0 (by omega) 0 (by omega))
def dvD (m : DV) : List Nat := rowD m.A.ao m.A.len ++ (rowD m.Q.ao m.Q.len ++ (rowD m.ro m.rl ++ (List.range m.rl).flatMap fun i => rowD (m.X i).h.ao (m.X i).h.len))
def fDV (m : DV) : Ob := (dvD m, fun w => m.rows w)
theorem mem_dvX {m : DV} {i k : Nat} (hi : i < m.rl) (hk : k ∈ rowD (m.X i).h.ao (m.X i).h.len) : k ∈ dvD m := by
 unfold dvD
 exact List.mem_append_right _ (List.mem_append_right _ (List.mem_append_right _ (List.mem_flatMap.2 ⟨i, List.mem_range.2 hi, hk⟩)))
theorem mem_dvA {m : DV} {k : Nat} (hk : k ∈ rowD m.A.ao m.A.len) : k ∈ dvD m := List.mem_append_left _ hk
theorem mem_dvQ {m : DV} {k : Nat} (hk : k ∈ rowD m.Q.ao m.Q.len) : k ∈ dvD m := List.mem_append_right _ (List.mem_append_left _ hk)
theorem mem_dvR {m : DV} {k : Nat} (hk : k ∈ rowD m.ro m.rl) : k ∈ dvD m := List.mem_append_right _ (List.mem_append_right _ (List.mem_append_left _ hk))
theorem dvD_mem {m : DV} {k : Nat} (h : k ∈ dvD m) : k ∈ rowD m.A.ao m.A.len ∨ k ∈ rowD m.Q.ao m.Q.len ∨ k ∈ rowD m.ro m.rl ∨ ∃ i, i < m.rl ∧ k ∈ rowD (m.X i).h.ao (m.X i).h.len := by
 unfold dvD at h
 rcases List.mem_append.1 h with h | h
 ·exact Or.inl h
 ·rcases List.mem_append.1 h with h | h
  ·exact Or.inr (Or.inl h)
  ·rcases List.mem_append.1 h with h | h
   ·exact Or.inr (Or.inr (Or.inl h))
   ·obtain ⟨i, hi, hk⟩ := List.mem_flatMap.1 h
    exact Or.inr (Or.inr (Or.inr ⟨i, List.mem_range.1 hi, hk⟩))
theorem dv_dep (m : DV) : DepL (dvD m) (fun w => m.rows w) := fun w w' h ⟨a, q, r, e⟩ =>
 ⟨row_depL _ _ _ w w' (fun k hk => h k (mem_dvA hk)) a, row_depL _ _ _ w w' (fun k hk => h k (mem_dvQ hk)) q, rvs_depL _ _ _ w w' (fun k hk => h k (mem_dvR hk)) r, fun i hi => row_depL _ _ _ w w' (fun k hk => h k (mem_dvX hi hk)) (e i hi)⟩
theorem dvD_lt {m : DV} {w : World} (h : m.rows w) : ∀ k ∈ dvD m, k < w.heap.size := fun k hk => by
 rcases dvD_mem hk with hk | hk | hk | ⟨i, hi, hk⟩
 ·exact rowD_lt h.1 k hk
 ·exact rowD_lt h.2.1 k hk
 ·exact rvs_lt h.2.2.1 k hk
 ·exact rowD_lt (h.2.2.2 i hi) k hk
theorem DV.good_of {m : DV} {w W : World} (h : m.good w) (r : m.rows W) : m.good W := ⟨⟨r.1, h.1.2⟩, ⟨r.2.1, h.2.1.2⟩, r.2.2.1, fun i hi => ⟨⟨r.2.2.2 i hi, (h.2.2.2.1 i hi).1.2⟩, (h.2.2.2.1 i hi).2⟩, h.2.2.2.2⟩
theorem lvIn_good {x : LV} {W : World} (h : x.okIn W) : x.good W := ⟨h.row, ⟨h.le, h.nil⟩, h.nums⟩
theorem okIn_good {m : DV} {W : World} (h : m.okIn W) (s : smallM m) : m.good W :=
 ⟨lvIn_good h.A, lvIn_good h.Q, h.rvs, fun i hi => ⟨lvIn_good (h.each i hi).h, (h.each i hi).s, (h.each i hi).r⟩, ⟨h.le, h.nil⟩, ⟨h.N, h.tick, h.gate, h.rmin⟩, s.1, s.2.1, s.2.2.1, s.2.2.2⟩
theorem okIn_rows {m : DV} {w : World} (h : m.okIn w) : m.rows w := ⟨h.A.row, h.Q.row, h.rvs, fun i hi => (h.each i hi).h.row⟩
section
variable {w wx w' : World} {es pre post fs : List Ob} {U R : Nat} {c cut : Bool} {d : Int} {m m' : DV}
theorem ST.dvOld (h : ST w es fs wx) (r : m.rows w) : ST w es (fDV m :: fs) wx :=
 h.fact (r.kp h.1) (dv_dep m) (fun i hi => ⟨Nat.lt_of_lt_of_le (dvD_lt r i hi) h.1.2.2.2, fun hk => by have := (h.2.2.2.1 i hk).1; have := dvD_lt r i hi; omega⟩)
theorem ST.dvNew (h : ST w es fs wx) (k : Kp wx w') (r : m'.rows w') (ho : ∀ U, U < wx.heap.size → Off U m'.A.len m'.A.ao ∧ Off U m'.Q.len m'.Q.ao ∧ Off U m'.rl m'.ro ∧ ∀ i, i < m'.rl → Off U (m'.X i).h.len (m'.X i).h.ao) : ST w es (fDV m' :: fs) w' :=
 h.tell k r (dv_dep m') (fun i hi => ⟨by
  rcases Nat.lt_or_ge i wx.heap.size with hx | hx
  ·obtain ⟨o1, o2, o3, o4⟩ := ho i hx
   rcases dvD_mem hi with hk | hk | hk | ⟨j, hj, hk⟩
   ·exact absurd hk (rowD_off o1)
   ·exact absurd hk (rowD_off o2)
   ·exact absurd hk (rowD_off o3)
   ·exact absurd hk (rowD_off (o4 j hj))
  ·exact hx, dvD_lt r i hi⟩)
theorem ST.dv (h : ST w es fs wx) (hf : fDV m ∈ fs) : m.rows wx := h.get hf
theorem ST.dvMk (h : ST w es fs wx) (hf : fDV m ∈ fs) {W0 : World} (hg : m.good W0) {o : Ob} (hc : o ∈ es) (hU : U ∈ o.1) : (∀ W, Mk U wx W → m.good W) ∧ Off U m.A.len m.A.ao ∧ Off U m.Q.len m.Q.ao :=
 ⟨fun W k => DV.good_of hg (dv_dep m wx W (fun i hi => k.2.2.1 i (h.flt hf hi) (fun e => h.apart hf hc hi (e ▸ hU))) (h.dv hf)), off_of fun hk => h.apart hf hc (mem_dvA hk) hU, off_of fun hk => h.apart hf hc (mem_dvQ hk) hU⟩
theorem ST.callV3 {F : Nat} {args : Array Value} {q : VO} (pre : List Ob) (d' : Int) (h : ST w (pre ++ ([U], UE U c d) :: post) fs wx) (hD : d ≤ 1000000000) (hD' : d + 300000 ≤ d')
  (m : ∀ n0, 0 ≤ n0 ∧ n0 < 1000000000000 → UC U c n0 wx → Calls Tryz.prog F args wx fun e w' => ValP q.r q.c q.len q.Z q.err (fun w' => UW U q.cut n0 300000 w' ∧ Mk U wx w') wx e w') :
  Calls Tryz.prog F args wx fun e w' => ∃ ao cap B, e = .returned (.tuple #[.agg #[.int .i64 q.r, .int .i64 q.c, .slice ao q.len cap], .int .i64 q.err]) ∧ q.len ≤ cap ∧ ST w ((ovD B q.len, OvP ao B q.len q.Z) :: (pre ++ ([U], UE U q.cut d') :: post)) fs w' := by
 obtain ⟨n0, h1, h2, h3⟩ := h.unitE pre
 refine (m n0 ⟨h1, by omega⟩ h3).mono ?_
 rintro e w' ⟨ao, cap, B, rfl, hc, hB, ho, ⟨k, k1, k2, hu⟩, hm⟩
 refine ⟨ao, cap, B, rfl, hc, h.pushU pre (MkL.one hm) ⟨k, by omega, by omega, hu⟩ (ue_dep _ _ _) (by simp) ho (ov_dep _ _ _ _) (by unfold ovD; split <;> simp) (fun x hx => ?_)⟩
 unfold ovD at hx
 split at hx
 ·exact absurd hx List.not_mem_nil
 ·simp at hx
  subst hx
  exact ⟨hB, (ho.resolve_left (by assumption)).2.lt⟩
theorem ST.callD3 {F : Nat} {args : Array Value} {q : VO} (pre : List Ob) (d' : Int) (h : ST w (pre ++ ([R], RE R c d) :: post) fs wx) (hD : d ≤ 1000000000) (hD' : d + 300000 ≤ d')
  (m : ∀ n0, 0 ≤ n0 ∧ n0 < 1000000000000 → RC R c n0 wx → Calls Tryz.prog F args wx fun e w' => DocP q.r q.c q.len q.Z q.err (fun w' => RW R q.cut n0 300000 w' ∧ Mk R wx w') wx e w') :
  Calls Tryz.prog F args wx fun e w' => ∃ ao cap, e = .returned (.tuple #[.agg #[.int .i64 q.r, .int .i64 q.c, .slice ao q.len cap], .int .i64 q.err]) ∧ q.len ≤ cap ∧ ST w (pre ++ ([R], RE R q.cut d') :: post) (fRow ao q.len q.Z :: fs) w' := by
 obtain ⟨n0, h1, h2, h3⟩ := h.unitR pre
 refine (m n0 ⟨h1, by omega⟩ h3).mono ?_
 rintro e w' ⟨ao, cap, rfl, hc, hr, ho, ⟨k, k1, k2, hu⟩, hm⟩
 refine ⟨ao, cap, rfl, hc, h.tellU pre (MkL.one hm) ⟨k, by omega, by omega, hu⟩ (re_dep _ _ _) (by simp) (q := fun w => Row w ao q.len q.Z) hr (row_depL _ _ _) (fun x hx => ⟨?_, rowD_lt hr x hx⟩)⟩
 rcases Nat.lt_or_ge x wx.heap.size with hlt | hge
 ·exact absurd hx (rowD_off (ho x hlt))
 ·exact hge
theorem ST.callS {F : Nat} {args : Array Value} {v : Value} (pre : List Ob) (d' : Int) (h : ST w (pre ++ ([U], UE U c d) :: post) fs wx) (hD : d ≤ 1000000000) (hD' : d + 300000 ≤ d')
  (m : ∀ n0, 0 ≤ n0 ∧ n0 < 1000000000000 → UC U c n0 wx → Calls Tryz.prog F args wx fun e w' => e = .returned v ∧ UW U cut n0 300000 w' ∧ Mk U wx w') :
  Calls Tryz.prog F args wx fun e w' => e = .returned v ∧ ST w (pre ++ ([U], UE U cut d') :: post) fs w' := by
 obtain ⟨n0, h1, h2, h3⟩ := h.unitE pre
 refine (m n0 ⟨h1, by omega⟩ h3).mono ?_
 rintro e w' ⟨rfl, ⟨k, k1, k2, hu⟩, hm⟩
 exact ⟨rfl, h.upd pre (MkL.one hm) ⟨k, by omega, by omega, hu⟩ (ue_dep _ _ _) (by simp)⟩
theorem ST.callSR {F : Nat} {args : Array Value} {v : Value} (pre : List Ob) (d' : Int) (h : ST w (pre ++ ([R], RE R c d) :: post) fs wx) (hD : d ≤ 1000000000) (hD' : d + 300000 ≤ d')
  (m : ∀ n0, 0 ≤ n0 ∧ n0 < 1000000000000 → RC R c n0 wx → Calls Tryz.prog F args wx fun e w' => e = .returned v ∧ RW R cut n0 300000 w' ∧ Mk R wx w') :
  Calls Tryz.prog F args wx fun e w' => e = .returned v ∧ ST w (pre ++ ([R], RE R cut d') :: post) fs w' := by
 obtain ⟨n0, h1, h2, h3⟩ := h.unitR pre
 refine (m n0 ⟨h1, by omega⟩ h3).mono ?_
 rintro e w' ⟨rfl, ⟨k, k1, k2, hu⟩, hm⟩
 exact ⟨rfl, h.upd pre (MkL.one hm) ⟨k, by omega, by omega, hu⟩ (re_dep _ _ _) (by simp)⟩
end
noncomputable def sV (m : DV) (ticks : Int) : Int := if rfD m ticks = 0 then spanZ ticks m.tick else 0
noncomputable def sC (m : DV) (ticks : Int) : Bool := if rfD m ticks = 0 then spanC ticks m.tick else false
noncomputable def moNoiseO (m : DV) (ticks : Int) (c0 : Bool) : VO :=
 if rfL m ticks 0 = 0 then ⟨m.N, m.N, m.A.len, noiseZ m.A.Z m.Q.Z m.N.toNat (spanZ ticks m.tick), 0, c0 || spanC ticks m.tick || noiseC m.A.Z m.Q.Z m.N.toNat (spanZ ticks m.tick)⟩ else ⟨0, 0, 0, zeroF, rfL m ticks 0, c0⟩
theorem rfD_sim {m m' : DV} (h : simD m m') (ticks : Int) : rfD m' ticks = rfD m ticks := by
 by_cases hk : okD m
 ·by_cases h2 : inTime ticks
  ·rw [rfD_time hk h2, rfD_time (h.ok hk) h2]
  ·rw [rfD_late hk h2, rfD_late (h.ok hk) h2]
 ·rw [rfD_no hk, rfD_no (fun hk' => hk (h.symm.ok hk'))]
theorem rfL_sim {m m' : DV} (h : simD m m') (ticks least : Int) : rfL m' ticks least = rfL m ticks least := by
 by_cases hk : okD m
 ·by_cases h2 : least ≤ ticks ∧ ticks ≤ 1099511627776
  ·rw [rfL_time hk h2, rfL_time (h.ok hk) h2]
  ·rw [rfL_late hk h2, rfL_late (h.ok hk) h2]
 ·rw [rfL_no hk, rfL_no (fun hk' => hk (h.symm.ok hk'))]
theorem sV_sim {m m' : DV} (h : simD m m') (ticks : Int) : sV m' ticks = sV m ticks ∧ sC m' ticks = sC m ticks := by
 unfold sV sC
 rw [rfD_sim h, h.2.1]
 exact ⟨rfl, rfl⟩
theorem moFlowO_sim {m m' : DV} (h : simD m m') (ticks : Int) (c : Bool) : moFlowO m' ticks c = moFlowO m ticks c := by
 unfold moFlowO
 rw [rfD_sim h, h.1, h.2.1, h.2.2.2.2.1.1, h.2.2.2.2.1.2]
theorem moNoiseO_sim {m m' : DV} (h : simD m m') (ticks : Int) (c : Bool) : moNoiseO m' ticks c = moNoiseO m ticks c := by
 unfold moNoiseO
 rw [rfL_sim h, h.1, h.2.1, h.2.2.2.2.1.1, h.2.2.2.2.1.2, h.2.2.2.2.2.1.2]
theorem moFlowO_len {m : DV} {ticks : Int} {c : Bool} (h : m.A.len ≤ 40) : (moFlowO m ticks c).len ≤ 40 := by
 unfold moFlowO
 split
 ·exact h
 ·exact Nat.zero_le _
theorem moNoiseO_len {m : DV} {ticks : Int} {c : Bool} (h : m.A.len ≤ 40) : (moNoiseO m ticks c).len ≤ 40 := by
 unfold moNoiseO
 split
 ·exact h
 ·exact Nat.zero_le _
theorem rfL_back {m : DV} {ticks : Int} (h : rfL m ticks 0 = 0) : rfD m ticks = 0 ∧ 0 ≤ ticks := by
 obtain ⟨h1, h2, h3⟩ := rfL_ok h
 exact ⟨rfD_time h1 (show inTime ticks from ⟨by omega, by omega⟩), h2⟩
theorem rfL_why {m : DV} {ticks : Int} (h : rfL m ticks 0 ≠ 0) : (rfD m ticks = rfL m ticks 0 ∧ rfL m ticks 0 ≠ 0) ∨ (rfD m ticks = 0 ∧ ticks < 0 ∧ rfL m ticks 0 = 4) := by
 by_cases hk : okD m
 ·by_cases h2 : inTime ticks
  ·by_cases h3 : 0 ≤ ticks
   ·exact absurd (rfL_time hk ⟨h3, h2.2⟩) h
   ·exact Or.inr ⟨rfD_time hk h2, by omega, rfL_late hk (fun k => h3 k.1)⟩
  ·refine Or.inl ⟨?_, h⟩
   rw [rfD_late hk h2, rfL_late hk (fun k => h2 ⟨by omega, k.2⟩)]
 ·exact Or.inl ⟨by rw [rfD_no hk, rfL_no hk], h⟩
section
variable (U R : Nat) (c0 : Bool) (n0 : Int) (hn0 : 0 ≤ n0 ∧ n0 < 1000000000000) (m : DV) (ticks : Int) (hI : I64 ticks) (w : World)
include hn0 hI
theorem moSpanAny (hm : (∀ W, Mk U w W → m.good W) ∧ Off U m.A.len m.A.ao ∧ Off U m.Q.len m.Q.ao) (h : UC U c0 n0 w) :
  Calls Tryz.prog 13 #[.pointer (some ⟨U, 0, none⟩), .agg m.cells, .int .i64 ticks] w fun e w' => e = .returned (.tuple #[.int .i64 (sV m ticks), .int .i64 (rfD m ticks)]) ∧ UW U (c0 || sC m ticks) n0 300000 w' ∧ Mk U w w' := by
 unfold sV sC
 by_cases e0 : rfD m ticks = 0
 ·rw [if_pos e0, if_pos e0, e0]
  refine (moSpan_ok U c0 n0 ⟨hn0.1, by omega⟩ m ticks hI (hm.1 w (Mk.refl _ _)).2.2.2.2.2.1.2.1 w hm.1 e0 h).mono ?_
  rintro e w' ⟨rfl, u, k⟩
  exact ⟨rfl, ⟨n0 + 3, by omega, by omega, u⟩, k⟩
 ·rw [if_neg e0, if_neg e0]
  refine (moSpan_bad U c0 n0 ⟨hn0.1, by omega⟩ m ticks w hm.1 e0 h).mono ?_
  rintro e w' ⟨rfl, u, k⟩
  exact ⟨rfl, ⟨n0, by omega, by omega, by rw [Bool.or_false]; exact u⟩, k⟩
theorem refSpanAny (hm : (∀ W, Mk R w W → m.good W) ∧ Off R m.A.len m.A.ao ∧ Off R m.Q.len m.Q.ao) (h : RC R c0 n0 w) :
  Calls Tryz.prog 14 #[.pointer (some ⟨R, 0, none⟩), .agg m.cells, .int .i64 ticks] w fun e w' => e = .returned (.tuple #[.int .i64 (sV m ticks), .int .i64 (rfD m ticks)]) ∧ RW R (c0 || sC m ticks) n0 300000 w' ∧ Mk R w w' := by
 unfold sV sC
 by_cases e0 : rfD m ticks = 0
 ·rw [if_pos e0, if_pos e0, e0]
  refine (refSpan_ok R c0 n0 ⟨hn0.1, by omega⟩ m ticks hI w (hm.1 w (Mk.refl _ _)) e0 h).mono ?_
  rintro e w' ⟨rfl, u, k⟩
  exact ⟨rfl, ⟨n0 + 3, by omega, by omega, u⟩, Mk.of k⟩
 ·rw [if_neg e0, if_neg e0]
  refine (refSpan_bad R m ticks w (hm.1 w (Mk.refl _ _)) e0).mono ?_
  rintro e w' ⟨rfl, g⟩
  exact ⟨rfl, ⟨n0, by omega, by omega, by rw [Bool.or_false]; exact Blk.grown h g⟩, Mk.kp (Kp.of g)⟩
theorem moFlowAny (hm : (∀ W, Mk U w W → m.good W) ∧ Off U m.A.len m.A.ao ∧ Off U m.Q.len m.Q.ao) (h : UC U c0 n0 w) (q : VO) (hq : moFlowO m ticks c0 = q) :
  Calls Tryz.prog 15 #[.pointer (some ⟨U, 0, none⟩), .agg m.cells, .int .i64 ticks] w fun e w' => ValP q.r q.c q.len q.Z q.err (fun w' => UW U q.cut n0 300000 w' ∧ Mk U w w') w e w' := by
 subst hq
 unfold moFlowO
 by_cases e0 : rfD m ticks = 0
 ·rw [if_pos e0]
  obtain ⟨n, eN, _, hl, _⟩ := okD_nat (rfD_ok e0).1
  have := moFlow_ok U c0 n0 ⟨hn0.1, by omega⟩ m n eN ticks hI w hm.1 hm.2.1 (by rw [rfL_D]; exact e0) h
  show Calls _ _ _ _ fun e w' => ValP m.N m.N m.A.len (flowZ m.A.Z m.N.toNat (spanZ ticks m.tick)) 0 (fun w' => UW U (c0 || spanC ticks m.tick || flowC m.A.Z m.N.toNat (spanZ ticks m.tick)) n0 300000 w' ∧ Mk U w w') w e w'
  rw [eN, hl, Int.toNat_natCast]
  exact this
 ·rw [if_neg e0]
  have := moFlow_bad U c0 n0 ⟨hn0.1, by omega⟩ m ticks zeroF w hm.1 (by rw [rfL_D]; exact e0) h
  rw [rfL_D] at this
  refine this.mono ?_
  rintro e w' ⟨ao, cap, B, rfl, k1, k2, k3, u, k⟩
  exact ⟨ao, cap, B, rfl, k1, k2, k3, ⟨n0, by omega, by omega, u⟩, k⟩
theorem refFlowAnyM (hm : (∀ W, Mk R w W → m.good W) ∧ Off R m.A.len m.A.ao ∧ Off R m.Q.len m.Q.ao) (h : RC R c0 n0 w) (q : VO) (hq : moFlowO m ticks c0 = q) :
  Calls Tryz.prog 16 #[.pointer (some ⟨R, 0, none⟩), .agg m.cells, .int .i64 ticks] w fun e w' => DocP q.r q.c q.len q.Z q.err (fun w' => RW R q.cut n0 300000 w' ∧ Mk R w w') w e w' := by
 subst hq
 unfold moFlowO
 by_cases e0 : rfD m ticks = 0
 ·rw [if_pos e0]
  refine (refMoFlow_ok R c0 n0 ⟨hn0.1, by omega⟩ m ticks hI w (hm.1 w (Mk.refl _ _)) hm.2.1 e0 h).mono ?_
  rintro e w' ⟨ao, cap, rfl, k1, k2, k3, ⟨z, z1, z2, u⟩, k⟩
  exact ⟨ao, cap, rfl, k1, k2, k3, ⟨z, by omega, by omega, u⟩, k⟩
 ·rw [if_neg e0]
  refine (refMoFlow_bad R c0 n0 m ticks zeroF w (hm.1 w (Mk.refl _ _)) e0 h).mono ?_
  rintro e w' ⟨ao, cap, rfl, k1, k2, k3, u, k⟩
  exact ⟨ao, cap, rfl, k1, k2, k3, ⟨n0, by omega, by omega, u⟩, k⟩
theorem moNoiseAny (hm : (∀ W, Mk U w W → m.good W) ∧ Off U m.A.len m.A.ao ∧ Off U m.Q.len m.Q.ao) (h : UC U c0 n0 w) (q : VO) (hq : moNoiseO m ticks c0 = q) :
  Calls Tryz.prog 17 #[.pointer (some ⟨U, 0, none⟩), .agg m.cells, .int .i64 ticks] w fun e w' => ValP q.r q.c q.len q.Z q.err (fun w' => UW U q.cut n0 300000 w' ∧ Mk U w w') w e w' := by
 subst hq
 unfold moNoiseO
 by_cases e0 : rfL m ticks 0 = 0
 ·rw [if_pos e0]
  obtain ⟨n, eN, _, hl, _⟩ := okD_nat (rfL_ok e0).1
  have := moNoise_ok U c0 n0 ⟨hn0.1, by omega⟩ m n eN ticks hI w hm.1 hm.2.1 hm.2.2 e0 h
  show Calls _ _ _ _ fun e w' => ValP m.N m.N m.A.len (noiseZ m.A.Z m.Q.Z m.N.toNat (spanZ ticks m.tick)) 0 (fun w' => UW U (c0 || spanC ticks m.tick || noiseC m.A.Z m.Q.Z m.N.toNat (spanZ ticks m.tick)) n0 300000 w' ∧ Mk U w w') w e w'
  rw [eN, hl, Int.toNat_natCast]
  exact this
 ·rw [if_neg e0]
  refine (moNoise_bad U c0 n0 ⟨hn0.1, by omega⟩ m ticks zeroF w hm.1 e0 h).mono ?_
  rintro e w' ⟨ao, cap, B, rfl, k1, k2, k3, u, k⟩
  exact ⟨ao, cap, B, rfl, k1, k2, k3, ⟨n0, by omega, by omega, u⟩, k⟩
theorem refNoiseAny (hm : (∀ W, Mk R w W → m.good W) ∧ Off R m.A.len m.A.ao ∧ Off R m.Q.len m.Q.ao) (h : RC R c0 n0 w) (q : VO) (hq : moNoiseO m ticks c0 = q) :
  Calls Tryz.prog 18 #[.pointer (some ⟨R, 0, none⟩), .agg m.cells, .int .i64 ticks] w fun e w' => DocP q.r q.c q.len q.Z q.err (fun w' => RW R q.cut n0 300000 w' ∧ Mk R w w') w e w' := by
 subst hq
 unfold moNoiseO
 by_cases e0 : rfL m ticks 0 = 0
 ·rw [if_pos e0]
  obtain ⟨n, eN, _, hl, _⟩ := okD_nat (rfL_ok e0).1
  have := refNoise_ok R c0 n0 ⟨hn0.1, by omega⟩ m n eN ticks hI w hm.1 hm.2.1 (rfL_back e0).1 (rfL_back e0).2 h
  show Calls _ _ _ _ fun e w' => DocP m.N m.N m.A.len (noiseZ m.A.Z m.Q.Z m.N.toNat (spanZ ticks m.tick)) 0 (fun w' => RW R (c0 || spanC ticks m.tick || noiseC m.A.Z m.Q.Z m.N.toNat (spanZ ticks m.tick)) n0 300000 w' ∧ Mk R w w') w e w'
  rw [eN, hl, Int.toNat_natCast]
  refine this.mono ?_
  rintro e w' ⟨ao, cap, rfl, k1, k2, k3, ⟨z, z1, z2, u⟩, k⟩
  exact ⟨ao, cap, rfl, k1, k2, k3, ⟨z, by omega, by omega, u⟩, k⟩
 ·rw [if_neg e0]
  refine (refNoise_bad R c0 n0 m ticks zeroF (rfL m ticks 0) w (hm.1 w (Mk.refl _ _)) (rfL_why e0) h).mono ?_
  rintro e w' ⟨ao, cap, rfl, k1, k2, k3, u, k⟩
  exact ⟨ao, cap, rfl, k1, k2, k3, ⟨n0, by omega, by omega, u⟩, k⟩
end
end Go.Proofs.YtjobgjcfkomhpaaGreat
