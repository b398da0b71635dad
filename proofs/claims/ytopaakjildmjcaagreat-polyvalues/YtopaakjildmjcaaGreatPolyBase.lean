/- RegJ RegG MatTS MatOv MatS MatSu MatAw MatKS OwnB PolyMath RgU PolySt PolyA PolyT PolyL PolyU, one after another. -/
import Derived.Orders
import Derived.OrdersHeld
import Derived.Deep.RegionHeld3
import Derived.Test.YtopaakjildmjcaaGreatMatAll
import Derived.Test.YtopaakjildmjcaaGreatMatMath
import Derived.Test.YtopaakjildmjcaaGreatMatB
/- A region that draws its order and calls, makes and stores: by an invariant over what has come up. -/
namespace Go.Proofs.YtopaakjildmjcaaGreat
open Go.RowKit Go.Shelf Go.Proofs.Wd
set_option linter.unusedVariables false
set_option linter.unusedSimpArgs false
set_option maxRecDepth 10000

/-- J n: it holds while n operations have not come up. -/
theorem wpAny_inv {P : Program} {ops : Array Oper} {Q : Exit → Act → World → Prop} {md : Region.Mode} (J : Nat → Array Bool → Act → World → Prop)
    (h0 : ∀ listed a w, J 0 listed a w → Region.ready md ops listed = [] ∧ Q .normal a w)
    (h1 : ∀ n listed a w, J (n + 1) listed a w → Region.ready md ops listed ≠ [] ∧ ∀ i ∈ Region.ready md ops listed, wpOp P ops Q i (J n (listed.setIfInBounds i true)) a w) :
    ∀ n listed a w, J n listed a w → wpAny P md ops Q n listed a w
  | 0, l, a, w, h => h0 l a w h
  | n + 1, l, a, w, h => ⟨fun hr => absurd hr (h1 n l a w h).1, fun i hi => wpOp_mono (fun a' w' h' => wpAny_inv J h0 h1 n _ a' w' h') ((h1 n l a w h).2 i hi)⟩

theorem ready_mem {md : Region.Mode} {ops : Array Oper} {listed : Array Bool} {i : Nat} (h : i ∈ Region.ready md ops listed) :
    i < ops.size ∧ listed.getD i true = false ∧ ∀ o, ops[i]? = some o → ∀ e ∈ o.after, Region.binds md e = true → listed.getD e.on false = true := by
  unfold Region.ready at h
  rw [List.mem_filter, List.mem_range] at h
  obtain ⟨h1, h2⟩ := h
  rw [Bool.and_eq_true] at h2
  refine ⟨h1, by simpa using h2.1, fun o ho e he hb => ?_⟩
  have h3 := h2.2
  rw [ho] at h3
  simp only [Option.map_some, Option.getD_some] at h3
  rw [Array.all_eq_true_iff_forall_mem] at h3
  have := h3 e he
  rw [hb] at this
  simpa using this

/-- Each operation waits for earlier ones alone. -/
def backs (ops : Array Oper) : Bool := (List.range ops.size).all fun i => ((ops[i]?).map (·.after.all fun e => decide (e.on < i))).getD true
theorem ready_ne {md : Region.Mode} {ops : Array Oper} {listed : Array Bool} (hb : backs ops = true) (hs : listed.size = ops.size) : ∀ (m i : Nat), i ≤ m → i < ops.size → listed.getD i true = false → Region.ready md ops listed ≠ [] := by
  intro m
  induction m with
  | zero =>
    intro i him hi hl
    obtain rfl : i = 0 := by omega
    intro hr
    have : 0 ∈ Region.ready md ops listed := by
      unfold Region.ready
      rw [List.mem_filter, List.mem_range]
      refine ⟨hi, ?_⟩
      rw [hl]
      have ho : ops[0]? = some ops[0] := by simp [hi]
      rw [ho]
      simp only [Option.map_some, Option.getD_some, Bool.not_false, Bool.true_and]
      unfold backs at hb
      rw [List.all_eq_true] at hb
      have h2 := hb 0 (List.mem_range.2 hi)
      rw [ho] at h2
      simp only [Option.map_some, Option.getD_some] at h2
      rw [Array.all_eq_true_iff_forall_mem] at h2 ⊢
      intro e he
      have := h2 e he
      simp at this
    rw [hr] at this
    exact absurd this List.not_mem_nil
  | succ m ih =>
    intro i him hi hl hr
    have ho : ops[i]? = some ops[i] := by simp [hi]
    have hbi : ∀ e ∈ ops[i].after, e.on < i := by
      unfold backs at hb
      rw [List.all_eq_true] at hb
      have h2 := hb i (List.mem_range.2 hi)
      rw [ho] at h2
      simp only [Option.map_some, Option.getD_some] at h2
      rw [Array.all_eq_true_iff_forall_mem] at h2
      intro e he
      simpa using h2 e he
    by_cases hall : ∀ e ∈ ops[i].after, listed.getD e.on false = true
    · have : i ∈ Region.ready md ops listed := by
        unfold Region.ready
        rw [List.mem_filter, List.mem_range]
        refine ⟨hi, ?_⟩
        rw [hl, ho]
        simp only [Option.map_some, Option.getD_some, Bool.not_false, Bool.true_and]
        rw [Array.all_eq_true_iff_forall_mem]
        intro e he
        rw [hall e he]
        simp
      rw [hr] at this
      exact absurd this List.not_mem_nil
    · have ⟨e, he⟩ := Classical.not_forall.1 hall
      have ⟨hm, hf⟩ := Classical.not_imp.1 he
      have hlt := hbi e hm
      have hsz : e.on < listed.size := by omega
      refine ih e.on (by omega) (by omega) ?_ hr
      have h1 : listed.getD e.on false = listed[e.on] := by simp [Array.getD, hsz]
      have h2 : listed.getD e.on true = listed[e.on] := by simp [Array.getD, hsz]
      rw [h1] at hf
      rw [h2]
      simpa using hf
/-- It waits for number k. -/
def waits (aft : Array Edge) (k : Nat) : Bool := aft.any fun e => Region.binds .any e && e.on == k
theorem ready_waits {ops : Array Oper} {listed : Array Bool} {i : Nat} (h : i ∈ Region.ready .any ops listed) {o : Oper} (ho : ops[i]? = some o) {k : Nat} (hk : waits o.after k = true) : listed.getD k false = true := by
  unfold waits at hk
  obtain ⟨e, he, hb⟩ := Array.any_eq_true'.1 hk
  rw [Bool.and_eq_true] at hb
  have := (ready_mem h).2.2 o ho e he hb.1
  rwa [eq_of_beq hb.2] at this

/-- All slots but those of D are as they were. -/
def Sl (D : List Nat) (a0 a : Act) : Prop := a.defers = a0.defers ∧ a.tmps.size = a0.tmps.size ∧ ∀ k, k ∉ D → a.tmps[k]? = a0.tmps[k]?
theorem Sl.refl (D : List Nat) (a : Act) : Sl D a a := ⟨rfl, rfl, fun _ _ => rfl⟩
theorem Sl.put {D : List Nat} {a0 a : Act} (h : Sl D a0 a) (d : Nat) (v : Value) (hd : d ∈ D) : Sl D a0 (a.put (some d) v) := by
  refine ⟨h.1, ?_, fun k hk => ?_⟩
  · show (a.tmps.setIfInBounds d v).size = _
    rw [Array.size_setIfInBounds, h.2.1]
  · show (a.tmps.setIfInBounds d v)[k]? = _
    rw [Array.getElem?_setIfInBounds_ne (fun e : d = k => hk (by rw [← e]; exact hd)), h.2.2 k hk]
theorem put_same {a : Act} {d : Nat} {v : Value} (h : d < a.tmps.size) : (a.put (some d) v).tmps[d]? = some v := by
  show (a.tmps.setIfInBounds d v)[d]? = _
  rw [Array.getElem?_setIfInBounds_self_of_lt h]
theorem put_ne {a : Act} {d k : Nat} {v : Value} (h : d ≠ k) : (a.put (some d) v).tmps[k]? = a.tmps[k]? := by
  show (a.tmps.setIfInBounds d v)[k]? = _
  rw [Array.getElem?_setIfInBounds_ne h]
theorem eval_tmp {a : Act} {k : Nat} {v : Value} (h : a.tmps[k]? = some v) : a.eval (.tmp k) = v := by
  show a.tmps.getD k undef = v
  rw [Array.getD_eq_getD_getElem?, h]; rfl

section
variable {ops : Array Oper} {Q : Exit → Act → World → Prop} {i d k : Nat} {K : Act → World → Prop} {a : Act} {w : World} {T : TypeId} {pos : String} {aft : Array Edge}
theorem wpOp_of {P : Program} {o : Oper} (hi : ops[i]? = some o) (hg : o.guard = none) (h : o.wp P a w K Q) : wpOp P ops Q i K a w := by
  unfold wpOp
  simp only [hi]
  rw [if_pos (by simp [Region.wanted, hg])]
  exact Or.inl h
theorem wpOp_load (hi : ops[i]? = some ⟨some d, .load 24 (.tmp k), T, pos, aft, none⟩) {B : Nat} {v0 v1 v2 : Value} (hk : a.tmps[k]? = some (.pointer (some ⟨B, 0, none⟩))) (hb : Blk B #[v0, v1, v2] 24 w)
    (h : K (a.put (some d) (.agg #[v0, v1, v2])) w) : wpOp Tryz.prog ops Q i K a w := by
  refine wpOp_of hi rfl ?_
  have ev := eval_tmp hk
  have c0 : w.cell? ⟨B, 0, none⟩ = some v0 := by rw [Blk.cell hb]; rfl
  have c1 : w.cell? ⟨B, 1, none⟩ = some v1 := by rw [Blk.cell hb]; rfl
  have c2 : w.cell? ⟨B, 2, none⟩ = some v2 := by rw [Blk.cell hb]; rfl
  unfold Oper.wp
  simp [go_sem, hk, c0, c1, c2]
  exact h
theorem wpOp_alloc (hi : ops[i]? = some ⟨some d, .alloc 24, T, pos, aft, none⟩)
    (h : K (a.put (some d) (.pointer (some ⟨w.heap.size, 0, none⟩))) (w.alloc (.cells #[.int .i64 0, .int .i64 0, .slice none 0 0] 24))) : wpOp Tryz.prog ops Q i K a w := by
  refine wpOp_of hi rfl ?_
  unfold Oper.wp
  simp [go_sem]
  exact h
theorem wpOp_store (hi : ops[i]? = some ⟨none, .store 24 (.tmp k) (.tmp d), T, pos, aft, none⟩) {B : Nat} {r c : Int} {ao : Option Addr} {n cap : Nat} {u0 u1 u2 : Value} (hk : a.tmps[k]? = some (.pointer (some ⟨B, 0, none⟩))) (hd : a.tmps[d]? = some (.agg #[.int .i64 r, .int .i64 c, .slice ao n cap])) (hb : Blk B #[u0, u1, u2] 24 w)
    (h : ∀ w', Mod B w w' → Blk B #[.int .i64 r, .int .i64 c, .slice ao n cap] 24 w' → K a w') : wpOp Tryz.prog ops Q i K a w := by
  refine wpOp_of hi rfl ?_
  have c0 : w.cell? ⟨B, 0, none⟩ = some u0 := by rw [Blk.cell hb]; rfl
  have c1 : w.cell? ⟨B, 1, none⟩ = some u1 := by rw [Blk.cell hb]; rfl
  have c2 : w.cell? ⟨B, 2, none⟩ = some u2 := by rw [Blk.cell hb]; rfl
  have f0 := Blk.free hb 0
  have f1 := Blk.free hb 1
  have f2 := Blk.free hb 2
  have hh := h (((w.setCell ⟨B, 0, none⟩ (.int .i64 r)).setCell ⟨B, 1, none⟩ (.int .i64 c)).setCell ⟨B, 2, none⟩ (.slice ao n cap)) ((((Mod.refl _ _).setCell _ _).setCell _ _).setCell _ _) (((hb.set 0 _).set 1 _).set 2 _)
  unfold Oper.wp
  simp [go_sem, hk, hd, c0, c1, c2, f0, f1, f2]
  exact hh
theorem wpOp_call1 {f : Nat} (hi : ops[i]? = some ⟨some d, .call ⟨.value (.func f), #[.tmp k], #[24]⟩, T, pos, aft, none⟩) {v : Value} (hk : a.tmps[k]? = some v) (hf : ∀ w, Sem.run Tryz.prog (callFunc f #[v]) w = .ok (.enter f #[v]) w)
    (h : Calls Tryz.prog f #[v] w fun e w' => ∃ x, e = .returned x ∧ K (a.put (some d) x) w') : wpOp Tryz.prog ops Q i K a w := by
  refine wpOp_of hi rfl ?_
  unfold Oper.wp
  simp [go_sem, hk, hf]
  refine h.mono ?_
  rintro e w' ⟨x, rfl, hx⟩
  exact hx
end

end Go.Proofs.YtopaakjildmjcaaGreat

/- A region that draws its order, whose last operation waits for all others: S need not hold behind that one. -/
namespace Go.Proofs.YtopaakjildmjcaaGreat
open Go.RowKit Go.Shelf Go.Proofs.Wd
set_option linter.unusedVariables false
set_option linter.unusedSimpArgs false
set_option maxRecDepth 10000

section
variable {P : Program} {ops : Array Oper} {Q : Exit → Act → World → Prop} {md : Region.Mode} {S : World → Prop} {g : Nat}
/-- Whatever order is picked, S holds behind every operation but number g. -/
def wpAnyG (P : Program) (md : Region.Mode) (ops : Array Oper) (Q : Exit → Act → World → Prop) (S : World → Prop) (g : Nat) : Nat → Array Bool → Act → World → Prop
  | 0, listed, a, w => Region.ready md ops listed = [] ∧ Q .normal a w
  | fuel + 1, listed, a, w =>
    (Region.ready md ops listed = [] → Q .normal a w) ∧
    ∀ i ∈ Region.ready md ops listed, wpOp P ops Q i (fun a' w' => (i ≠ g → S w') ∧ wpAnyG P md ops Q S g fuel (listed.setIfInBounds i true) a' w') a w
theorem wpAny_of_G : ∀ (fuel : Nat) (listed : Array Bool) (a : Act) (w : World), wpAnyG P md ops Q S g fuel listed a w → wpAny P md ops Q fuel listed a w
  | 0, _, _, _, h => h
  | fuel + 1, _, _, _, h => ⟨h.1, fun i hi => wpOp_mono (fun a' w' h' => wpAny_of_G fuel _ a' w' h'.2) (h.2 i hi)⟩
/-- Number g waits for number i. -/
def waitsFor (md : Region.Mode) (ops : Array Oper) (g i : Nat) : Bool := ((ops[g]?).map (·.after.any fun e => Region.binds md e && e.on == i)).getD false
theorem waits_listed {listed : Array Bool} {i : Nat} (h : waitsFor md ops g i = true) (hg : g ∈ Region.ready md ops listed) : listed.getD i false = true := by
  unfold waitsFor at h
  cases ho : ops[g]? with
  | none => rw [ho] at h; cases h
  | some o =>
    rw [ho] at h
    simp only [Option.map_some, Option.getD_some] at h
    obtain ⟨e, he, hb⟩ := Array.any_eq_true'.1 h
    rw [Bool.and_eq_true] at hb
    have := (ready_mem hg).2.2 o ho e he hb.1
    rwa [eq_of_beq hb.2] at this
theorem G_first {i : Nat} {oi : Oper} {v : Value} (hi : ops[i]? = some oi) (hgi : waitsFor md ops g i = true) (hig : i ≠ g) (hsel : ∀ (j : Nat) (o : Oper) cs b, ops[j]? = some o → o.op ≠ .select cs b)
    (hQ : ∀ c a w, Q (.panic c) (a.put oi.dst v) w → Q (.panic c) a w) :
    ∀ (fuel : Nat) (listed : Array Bool) (a : Act) (w : World),
      (∀ j oj, ops[j]? = some oj → j ≠ i → listed.getD j true = false → (∀ e ∈ oj.after, Region.binds md e = true → e.on ≠ i) → oi.apart ops oj = true) →
      i ∈ Region.ready md ops listed → YieldsIf P ops S oi v a → S w →
      wpAnyG P md ops Q S g fuel (listed.setIfInBounds i true) (a.put oi.dst v) w → wpAnyG P md ops Q S g (fuel + 1) listed a w := by
  intro fuel
  induction fuel with
  | zero =>
    intro listed a w _ hr hy hS H
    refine ⟨fun h => (by rw [h] at hr; cases hr), fun j hj => ?_⟩
    by_cases hji : j = i
    · subst hji; exact hy.wpOp hi hS ⟨fun _ => hS, H⟩
    · have := ready_mono hj hji
      rw [H.1] at this
      cases this
  | succ fuel ih =>
    intro listed a w hfree hr hy hS H
    refine ⟨fun h => (by rw [h] at hr; cases hr), fun j hj => ?_⟩
    by_cases hji : j = i
    · subst hji; exact hy.wpOp hi hS ⟨fun _ => hS, H⟩
    · have hun := (ready_mem hr).2.1
      have hjg : j ≠ g := by
        intro e
        subst e
        have h1 := waits_listed hgi hj
        rcases Nat.lt_or_ge i listed.size with h' | h'
        · simp [Array.getD, h'] at hun h1
          rw [hun] at h1
          cases h1
        · simp [Array.getD, Nat.not_lt.2 h'] at h1
      have h1 := H.2 j (ready_mono hj hji)
      have hoj' := (ready_mem hj).1
      obtain ⟨oj, hoj⟩ : ∃ oj, ops[j]? = some oj := ⟨ops[j], by simp [hoj']⟩
      have hjun := (ready_mem hj).2.1
      have hnot : ∀ e ∈ oj.after, Region.binds md e = true → e.on ≠ i := fun e he hb heq => by
        have h1 := (ready_mem hj).2.2 oj hoj e he hb
        rw [heq] at h1
        rcases Nat.lt_or_ge i listed.size with h' | h'
        · simp [Array.getD, h'] at hun h1
          rw [hun] at h1
          cases h1
        · simp [Array.getD, Nat.not_lt.2 h'] at h1
      have h2 := wpOp_putIf hoj (hfree j oj hoj hji hjun hnot) (fun cs b => hsel i oi cs b hi) (fun cs b => hsel j oj cs b hoj) hQ hy h1
      have hfree' : ∀ k ok, ops[k]? = some ok → k ≠ i → (listed.setIfInBounds j true).getD k true = false →
          (∀ e ∈ ok.after, Region.binds md e = true → e.on ≠ i) → oi.apart ops ok = true := fun k ok hk hki hun hno => by
        refine hfree k ok hk hki ?_ hno
        by_cases hjk : j = k
        · subst hjk; exact hjun
        · rw [getD_set_ne true hjk] at hun; exact hun
      refine wpOp_mono (fun a' w' h3 => ⟨fun _ => h3.2.1 hjg, ih (listed.setIfInBounds j true) a' w' hfree' (ready_mono hr (Ne.symm hji)) h3.1 (h3.2.1 hjg) ?_⟩) h2
      rw [Array.setIfInBounds_comm _ _ hji]
      exact h3.2.2
/-- The beginning. -/
theorem region_G {id : Nat} {a : Act} {w : World} (S : World → Prop) (g : Nat) (hm : P.follows .mixedOrders = true) (hS : S w.drew)
    (h : S w.drew → wpAnyG P .any ops (NoPanic Q) S g ops.size (Array.replicate ops.size false) a w.drew) : (Code.region id ops true).wp P Q a w :=
  wp_region_noPanic (wp_region_any hm (wpAny_of_G _ _ _ _ (h hS)))
/-- One operation is taken first. -/
theorem take_G {i d : Nat} {oi : Oper} {v : Value} {fuel : Nat} {listed : Array Bool} {a : Act} {w : World} (hi : ops[i]? = some oi) (hd : oi.dst = some d) (hgi : waitsFor md ops g i = true) (hig : (i == g) = false)
    (hs : Region.noSelect ops = true) (hf : Region.free md ops listed i = true) (hr : (Region.ready md ops listed).contains i = true)
    (hy : YieldsIf P ops S oi v a) (hS : S w)
    (h : wpAnyG P md ops (NoPanic Q) S g fuel (listed.setIfInBounds i true) (a.put (some d) v) w) : wpAnyG P md ops (NoPanic Q) S g (fuel + 1) listed a w := by
  refine G_first hi hgi (by simpa using hig) (Region.noSelect_spec hs) (fun _ _ _ h => h) fuel listed a w (Region.free_spec hi hf) (by simpa using hr) hy hS ?_
  rw [hd]
  exact h
/-- The one that can come up comes up. -/
theorem one_G {i fuel : Nat} {listed : Array Bool} {a : Act} {w : World} (hr : Region.ready md ops listed = [i])
    (h : wpOp P ops (NoPanic Q) i (fun a' w' => (i ≠ g → S w') ∧ wpAnyG P md ops (NoPanic Q) S g fuel (listed.setIfInBounds i true) a' w') a w) : wpAnyG P md ops (NoPanic Q) S g (fuel + 1) listed a w :=
  ⟨fun h0 => by (rw [hr] at h0; cases h0), fun j hj => by rw [hr] at hj; cases List.mem_singleton.1 hj; exact h⟩
theorem step_G {i fuel : Nat} {listed : Array Bool} {a : Act} {w : World} (hr : Region.ready md ops listed = [i])
    (h : ∀ K : Act → World → Prop, (∀ a' w', (i ≠ g → S w') → wpAnyG P md ops (NoPanic Q) S g fuel (listed.setIfInBounds i true) a' w' → K a' w') → wpOp P ops (NoPanic Q) i K a w) : wpAnyG P md ops (NoPanic Q) S g (fuel + 1) listed a w :=
  one_G hr (h _ (fun a' w' h1 h2 => ⟨h1, h2⟩))
theorem done_G {fuel : Nat} {listed : Array Bool} {a : Act} {w : World} (hr : Region.ready md ops listed = []) (h : NoPanic Q .normal a w) : wpAnyG P md ops (NoPanic Q) S g fuel listed a w := by
  cases fuel with
  | zero => exact ⟨hr, h⟩
  | succ f => exact ⟨fun _ => h, fun j hj => by rw [hr] at hj; cases hj⟩
end

end Go.Proofs.YtopaakjildmjcaaGreat

/- Laws with two units under way. -/
namespace Go.Proofs.YtopaakjildmjcaaGreat
open Go.RowKit Go.Shelf Go.Proofs.Wd
set_option linter.unusedVariables false
set_option linter.unusedSimpArgs false
set_option maxRecDepth 10000

def TS (w : World) (U V : Nat) (cu : Array Value) (tu : TypeId) (cv : Array Value) (tv : TypeId) (bx : List (Nat × Array Value)) (rows : List (Option Addr × Nat × (Nat → Int))) (wx : World) : Prop :=
  Blk U cu tu wx ∧ Blk V cv tv wx ∧ U ≠ V ∧ LS w [U, V] bx rows wx
theorem LS.unit {w : World} {E : List Nat} {bx : List (Nat × Array Value)} {rows : List (Option Addr × Nat × (Nat → Int))} {wx w1 : World} {cs : Array Value} {T : TypeId} (h : LS w E bx rows wx) (g : Grown wx w1) (hu : Blk wx.heap.size cs T w1) : LS w (wx.heap.size :: E) bx rows w1 := by
  have k := h.kp (Kp.of g)
  refine ⟨k.1, fun e he => ?_, fun b hb => ⟨(k.2.2.1 b hb).1, fun he => ?_⟩, fun r hr => ⟨(k.2.2.2 r hr).1, fun e he => ?_⟩⟩
  · rcases List.mem_cons.1 he with rfl | he
    · exact ⟨h.1.2.2.2, Blk.lt hu⟩
    · exact k.2.1 e he
  · rcases List.mem_cons.1 he with e | he
    · have := Blk.lt (h.2.2.1 b hb).1; omega
    · exact (k.2.2.1 b hb).2 he
  · rcases List.mem_cons.1 he with rfl | he
    · exact (h.2.2.2 r hr).1.off (Nat.le_refl _)
    · exact (k.2.2.2 r hr).2 e he
section
variable {w : World} {U V : Nat} {cu cv : Array Value} {tu tv : TypeId} {bx : List (Nat × Array Value)} {rows : List (Option Addr × Nat × (Nat → Int))} {wx w' : World}
theorem TS.kp (h : TS w U V cu tu cv tv bx rows wx) (k : Kp wx w') : TS w U V cu tu cv tv bx rows w' := ⟨Blk.kp h.1 k, Blk.kp h.2.1 k, h.2.2.1, h.2.2.2.kp k⟩
theorem TS.box (h : TS w U V cu tu cv tv bx rows wx) (cs : Array Value) : TS w U V cu tu cv tv ((wx.heap.size, cs) :: bx) rows (wx.alloc (.cells cs 24)) :=
  ⟨Blk.grown h.1 ((Grown.refl _).alloc _ _), Blk.grown h.2.1 ((Grown.refl _).alloc _ _), h.2.2.1, h.2.2.2.box cs⟩
theorem TS.mkU {cu' : Array Value} (h : TS w U V cu tu cv tv bx rows wx) (m : Mk U wx w') (u : Blk U cu' tu w') : TS w U V cu' tu cv tv bx rows w' := ⟨u, Blk.mk h.2.1 m (Ne.symm h.2.2.1), h.2.2.1, h.2.2.2.mk (by simp) m⟩
theorem TS.mkV {cv' : Array Value} (h : TS w U V cu tu cv tv bx rows wx) (m : Mk V wx w') (u : Blk V cv' tv w') : TS w U V cu tu cv' tv bx rows w' := ⟨Blk.mk h.1 m h.2.2.1, u, h.2.2.1, h.2.2.2.mk (by simp) m⟩
theorem TS.toldU {cu' : Array Value} {r c err : Int} {len : Nat} {Z : Nat → Int} {e : Ending} (h : TS w U V cu tu cv tv bx rows wx) (m : MatP r c len Z err (fun w' => Blk U cu' tu w' ∧ Mk U wx w') wx e w') :
    ∃ ao cap B, e = .returned (.tuple #[.agg #[.int .i64 r, .int .i64 c, .slice ao len cap], .int .i64 err]) ∧ len ≤ cap ∧ (len = 0 ∨ (ao = some ⟨B, 0, none⟩ ∧ Blk B (ints len Z) 3 w')) ∧ wx.heap.size ≤ B ∧ TS w U V cu' tu cv tv bx ((ao, len, Z) :: rows) w' := by
  have hx : Blk U cu' tu w' ∧ Mk U wx w' := let ⟨_, _, _, _, _, _, _, x⟩ := m; x
  have t := h.mkU hx.2 hx.1
  obtain ⟨ao, cap, B, h1, h2, h3, h4, h5, _⟩ := h.2.2.2.told t.2.2.2 m
  exact ⟨ao, cap, B, h1, h2, h3, h4, t.1, t.2.1, t.2.2.1, h5⟩
theorem TS.toldV {cv' : Array Value} {r c err : Int} {len : Nat} {Z : Nat → Int} {e : Ending} (h : TS w U V cu tu cv tv bx rows wx) (m : MatP r c len Z err (fun w' => Blk V cv' tv w' ∧ Mk V wx w') wx e w') :
    ∃ ao cap B, e = .returned (.tuple #[.agg #[.int .i64 r, .int .i64 c, .slice ao len cap], .int .i64 err]) ∧ len ≤ cap ∧ (len = 0 ∨ (ao = some ⟨B, 0, none⟩ ∧ Blk B (ints len Z) 3 w')) ∧ wx.heap.size ≤ B ∧ TS w U V cu tu cv' tv bx ((ao, len, Z) :: rows) w' := by
  have hx : Blk V cv' tv w' ∧ Mk V wx w' := let ⟨_, _, _, _, _, _, _, x⟩ := m; x
  have t := h.mkV hx.2 hx.1
  obtain ⟨ao, cap, B, h1, h2, h3, h4, h5, _⟩ := h.2.2.2.told t.2.2.2 m
  exact ⟨ao, cap, B, h1, h2, h3, h4, t.1, t.2.1, t.2.2.1, h5⟩
theorem TS.toldK {r c err : Int} {len : Nat} {Z : Nat → Int} {e : Ending} (h : TS w U V cu tu cv tv bx rows wx) (m : MatP r c len Z err (Kp wx) wx e w') :
    ∃ ao cap B, e = .returned (.tuple #[.agg #[.int .i64 r, .int .i64 c, .slice ao len cap], .int .i64 err]) ∧ len ≤ cap ∧ (len = 0 ∨ (ao = some ⟨B, 0, none⟩ ∧ Blk B (ints len Z) 3 w')) ∧ wx.heap.size ≤ B ∧ TS w U V cu tu cv tv bx ((ao, len, Z) :: rows) w' := by
  have hx : Kp wx w' := let ⟨_, _, _, _, _, _, _, x⟩ := m; x
  have t := h.kp hx
  obtain ⟨ao, cap, B, h1, h2, h3, h4, h5, _⟩ := h.2.2.2.told t.2.2.2 m
  exact ⟨ao, cap, B, h1, h2, h3, h4, t.1, t.2.1, t.2.2.1, h5⟩
theorem TS.congr {ao : Option Addr} {len : Nat} {Z Y : Nat → Int} (h : TS w U V cu tu cv tv bx ((ao, len, Z) :: rows) wx) (hz : ∀ i, i < len → Z i = Y i) : TS w U V cu tu cv tv bx ((ao, len, Y) :: rows) wx := ⟨h.1, h.2.1, h.2.2.1, h.2.2.2.congr hz⟩
/-- The three cells of a matrix. -/
theorem TS.cells (h : TS w U V cu tu cv tv bx rows wx) {b : Nat} {x y z : Value} (hb : (b, #[x, y, z]) ∈ bx) : wx.cell? ⟨b, 0, none⟩ = some x ∧ wx.cell? ⟨b, 1, none⟩ = some y ∧ wx.cell? ⟨b, 2, none⟩ = some z := ⟨h.2.2.2.cell hb 0, h.2.2.2.cell hb 1, h.2.2.2.cell hb 2⟩
theorem TS.lt (h : TS w U V cu tu cv tv bx rows wx) {b : Nat} {cs : Array Value} (hb : (b, cs) ∈ bx) : b < wx.heap.size := h.2.2.2.lt hb
theorem TS.rowU (h : TS w U V cu tu cv tv bx rows wx) {ao : Option Addr} {len : Nat} {Z : Nat → Int} (hr : (ao, len, Z) ∈ rows) : Row wx ao len Z ∧ Off U len ao ∧ Off V len ao :=
  ⟨(h.2.2.2.at hr).1, (h.2.2.2.at hr).2 U (by simp), (h.2.2.2.at hr).2 V (by simp)⟩
end

end Go.Proofs.YtopaakjildmjcaaGreat

/- OverInts over what a call made; a law's state beside it. -/
namespace Go.Proofs.YtopaakjildmjcaaGreat
open Go.RowKit Go.Shelf Go.Proofs.Wd
set_option linter.unusedVariables false
set_option linter.unusedSimpArgs false
set_option maxRecDepth 10000

theorem Own.set {B len : Nat} {Z : Nat → Int} {w : World} (h : Own B len Z w) (k : Nat) (v : Int) : Own B len (fun i => if i = k then v else Z i) (w.setCell ⟨B, k, none⟩ (.int .i64 v)) := by
  obtain ⟨cur, h1, h2⟩ := h
  refine ⟨_, Blk.set h1 k _, fun i hi => ?_⟩
  have e := h2 i hi
  have hs := (Array.getElem?_eq_some_iff.1 e).1
  rw [Array.getElem?_setIfInBounds]
  by_cases hk : k = i
  · rw [if_pos hk, if_pos (by omega)]
    show _ = some (Value.int .i64 (if i = k then v else Z i))
    rw [if_pos hk.symm]
  · rw [if_neg hk, e]
    show _ = some (Value.int .i64 (if i = k then v else Z i))
    rw [if_neg (fun e => hk e.symm)]
def OvJ (B : Nat) (ao : Option Addr) (len : Nat) (w wr : World) : Prop := Mod B w wr ∧ (len = 0 ∨ (ao = some ⟨B, 0, none⟩ ∧ ∃ Y, Own B len Y wr))
set_option maxHeartbeats 1000000 in
theorem kitOverI (B : Nat) (ao : Option Addr) (len cap : Nat) (X : Nat → Int) (hl : len ≤ 1000000) (w : World) (hA : len = 0 ∨ (ao = some ⟨B, 0, none⟩ ∧ Own B len X w)) :
    Calls Tryz.prog 19 #[.slice ao len cap] w fun e w' => e = .returned (.tuple #[]) ∧ Mod B w w' := by
  have HA := hide hA
  clear hA
  go_enter Tryz.func19, Tryz.ntmps19
  go_wp2
  go_loopw [2] (fun i wr => ∃ k : Nat, k ≤ len ∧ i = .int .i64 k ∧ Hid (OvJ B ao len w wr)) (fun i _ => len - (intOf i).toNat)
  case atStart => exact ⟨0, Nat.zero_le _, rfl, Mod.refl _ _, (unhide HA).imp id fun h => ⟨h.1, X, h.2⟩⟩
  case round =>
    obtain ⟨k, hk, rfl, HI⟩ := hrel
    by_cases hlt : k < len
    · obtain ⟨i1, i2⟩ := unhide HI
      rcases i2 with i2 | ⟨e1, Y, i2⟩
      · omega
      · subst e1
        have hc : wr.cell? ⟨B, k, none⟩ = some (.int .i64 (Y k)) := by obtain ⟨cur, b1, b2⟩ := i2; rw [Blk.cell b1, b2 k hlt]
        have hfz : wr.frozen? ⟨B, k, none⟩ = false := by obtain ⟨cur, b1, b2⟩ := i2; exact Blk.free b1 k
        have R : Hid (OvJ B (some ⟨B, 0, none⟩) len w (wr.setCell ⟨B, k, none⟩ (.int .i64 (-77)))) :=
          ⟨i1.setCell _ _, Or.inr ⟨rfl, _, Own.set i2 k _⟩⟩
        clear i1 i2 HI HA
        go_wp2
        go_roundw
        case rel => exact ⟨k + 1, by omega, by go_num, R⟩
        case measure => simp [intOf]; omega
    · obtain rfl : len = k := by omega
      go_wp2
      exact bodyPost_end (v := .tuple #[]) (by simp [results, Tryz.results19, go_sem]) rfl ⟨rfl, (unhide HI).1⟩

/-- A block that is none of the boxes, and holds no list. -/
def OffR (b : Nat) (bx : List (Nat × Array Value)) (rows : List (Option Addr × Nat × (Nat → Int))) : Prop := (∀ x ∈ bx, x.1 ≠ b) ∧ (∀ r ∈ rows, Off b r.2.1 r.1)
section
variable {w : World} {E : List Nat} {bx : List (Nat × Array Value)} {rows : List (Option Addr × Nat × (Nat → Int))} {wx w' : World} {b : Nat}
theorem LS.fresh (h : LS w E bx rows wx) (hb : wx.heap.size ≤ b) : OffR b bx rows := ⟨fun x hx => by have := Blk.lt (h.2.2.1 x hx).1; omega, fun r hr => (h.2.2.2 r hr).1.off hb⟩
theorem LS.over (h : LS w [] bx rows wx) (m : Mk b wx w') (hw : w.heap.size ≤ b) (f : OffR b bx rows) : LS w [] bx rows w' :=
  ⟨h.1.mk m hw, fun _ h => absurd h List.not_mem_nil, fun x hx => ⟨Blk.mk (h.2.2.1 x hx).1 m (f.1 x hx), List.not_mem_nil⟩, fun r hr => ⟨(h.2.2.2 r hr).1.mk m (f.2 r hr), fun _ h => absurd h List.not_mem_nil⟩⟩
theorem Mk.fresh (m : Mk wx.heap.size wx w') : Kp wx w' := ⟨m.1, m.2.1, fun k hk => m.2.2.1 k hk (by omega), m.2.2.2⟩
theorem kitOverL {ao : Option Addr} {len cap : Nat} {Z : Nat → Int} (hl : len ≤ 1000000) (h : LS w [] bx rows wx) (o : len = 0 ∨ (ao = some ⟨b, 0, none⟩ ∧ Own b len Z wx)) (hw : w.heap.size ≤ b) (f : len = 0 ∨ OffR b bx rows) :
    Calls Tryz.prog 19 #[.slice ao len cap] wx fun e w' => e = .returned (.tuple #[]) ∧ LS w [] bx rows w' ∧ (∀ k cs T, (len = 0 ∨ k ≠ b) → Blk k cs T wx → Blk k cs T w') := by
  by_cases hz : len = 0
  · refine (kitOverI wx.heap.size ao len cap Z hl wx (Or.inl hz)).mono ?_
    rintro e w' ⟨rfl, m⟩
    have k := Mk.fresh (Mk.of m)
    exact ⟨rfl, h.kp k, fun _ _ _ _ hb => Blk.kp hb k⟩
  · refine (kitOverI b ao len cap Z hl wx o).mono ?_
    rintro e w' ⟨rfl, m⟩
    exact ⟨rfl, h.over (Mk.of m) hw (f.resolve_left hz), fun _ _ _ hk hb => Blk.mk hb (Mk.of m) (hk.resolve_left hz)⟩
end

end Go.Proofs.YtopaakjildmjcaaGreat

/- Package mat: the funcs that Scale and reckon hand on. -/
namespace Go.Proofs.YtopaakjildmjcaaGreat
open Go.RowKit Go.Shelf Go.Proofs.Wd
set_option linter.unusedVariables false
set_option linter.unusedSimpArgs false
set_option maxRecDepth 10000

theorem pair_rowM (w : World) (x y : Int) : Row (w.alloc (.cells #[.int .i64 x, .int .i64 y] 3)) (some ⟨w.heap.size, 0, none⟩) 2 (pairZ x y) := by
  refine Or.inr ⟨_, 0, rfl, fun i hi => ?_⟩
  rw [Nat.zero_add, Blk.cell (Blk.new w _ _)]
  match i, hi with
  | 0, _ => rfl
  | 1, _ => rfl
theorem addTwoM (U : Nat) (a b : Int) (c : Bool) (n : Int) (bo cap : Nat) (w : World) (ha : I64 a) (hb : I64 b) (hn : 0 ≤ n ∧ n < 2305843009213693952) (h : UC U c n w) (hr : Row w (some ⟨bo, 0, none⟩) 2 (pairZ a b)) (ho : bo ≠ U) :
    Calls Tryz.prog 66 #[.pointer (some ⟨U, 0, none⟩), .slice (some ⟨bo, 0, none⟩) 2 cap] w fun e w' => e = .returned (.int .i64 (s2N a b)) ∧ UC U (c || s2C a b) (n + 2) w' ∧ Mod U w w' := by
  have := unitAdd U c n (some ⟨bo, 0, none⟩) 2 cap (pairZ a b) hn (by omega) (pairZ_I64 ha hb) w h hr (off_blk ho)
  rw [s2N_th, s2C_th] at this
  exact this
theorem mulTwoM (U : Nat) (a b : Int) (c : Bool) (n : Int) (bo cap : Nat) (w : World) (ha : I64 a) (hb : I64 b) (hn : 0 ≤ n ∧ n < 2305843009213693952) (h : UC U c n w) (hr : Row w (some ⟨bo, 0, none⟩) 2 (pairZ a b)) (ho : bo ≠ U) :
    Calls Tryz.prog 63 #[.pointer (some ⟨U, 0, none⟩), .slice (some ⟨bo, 0, none⟩) 2 cap] w fun e w' => e = .returned (.int .i64 (m2N a b)) ∧ UC U (c || m2C a b) (n + 2) w' ∧ Mod U w w' := by
  have := unitMul U c n (some ⟨bo, 0, none⟩) 2 cap (pairZ a b) hn (by omega) (pairZ_I64 ha hb) w h hr (off_blk ho)
  rw [m2N_th, m2C_th] at this
  exact this
/-- The k-th of row i: new memory alone. -/
theorem matAtG (r c i k b o cap : Nat) (Z : Nat → Int) (hr : 1 ≤ r ∧ r ≤ 12) (hc : 1 ≤ c ∧ c ≤ 12) (hi : i < r) (hk : k < c) (w : World) (hz : w.cell? ⟨b, o + (i * c + k), none⟩ = some (.int .i64 (Z (i * c + k)))) :
    Calls Tryz.prog 64 #[.agg #[.int .i64 r, .int .i64 c, .slice (some ⟨b, o, none⟩) (r * c) cap], .int .i64 i, .int .i64 k] w fun e w' => e = .returned (.int .i64 (Z (i * c + k))) ∧ Grown w w' :=
  (matAt r c i k b o cap Z hr hc hi hk w hz).mono fun e w' h => ⟨h.1, by rw [h.2]; exact (Grown.refl _).alloc _ _⟩


set_option maxRecDepth 20000 in
set_option maxHeartbeats 4000000 in
theorem scale1 (U : Nat) (cc : Bool) (nn : Int) (hn : 0 ≤ nn ∧ nn < 2305843009213693952) (r c i k b o cap Bu Ba Bs : Nat) (s : Int) (A : Nat → Int) (hr : 1 ≤ r ∧ r ≤ 12) (hc : 1 ≤ c ∧ c ≤ 12) (hi : i < r) (hk : k < c) (hs : I64 s) (hA : ∀ j, j < r * c → I64 (A j)) (w : World) (h : UC U cc nn w)
    (hBu : Blk Bu #[.pointer (some ⟨U, 0, none⟩)] 25 w) (hBa : Blk Ba #[.int .i64 r, .int .i64 c, .slice (some ⟨b, o, none⟩) (r * c) cap] 24 w) (hBs : Blk Bs #[.int .i64 s] 3 w) (za : ∀ j, j < r * c → w.cell? ⟨b, o + j, none⟩ = some (.int .i64 (A j))) (n1 : Bu ≠ U) (n2 : Ba ≠ U) (n3 : Bs ≠ U) (n4 : b ≠ U) :
    Calls Tryz.prog 62 #[.int .i64 (i : Int), .int .i64 (k : Int), .pointer (some ⟨Bu, 0, none⟩), .pointer (some ⟨Ba, 0, none⟩), .pointer (some ⟨Bs, 0, none⟩)] w fun e w' => e = .returned (.int .i64 (m2N (A (i * c + k)) s)) ∧ UC U (cc || m2C (A (i * c + k)) s) (nn + 2) w' ∧ Mk U w w' := by
  have hp := place_in i k r c hi hk
  have AT : Hid (∀ wx, Mod U w wx → Calls Tryz.prog 64 #[.agg #[.int .i64 r, .int .i64 c, .slice (some ⟨b, o, none⟩) (r * c) cap], .int .i64 i, .int .i64 k] wx fun e w' => e = .returned (.int .i64 (A (i * c + k))) ∧ Grown wx w') := fun wx mu => matAtG r c i k b o cap A hr hc hi hk wx (mu.cell (za _ hp) n4)
  have ix := hA _ hp
  obtain ⟨x, hx⟩ : ∃ x, A (i * c + k) = x := ⟨_, rfl⟩
  rw [hx] at AT ix
  rw [hx]
  have ML : Hid (∀ wx bo, bo ≠ U → UC U cc nn wx → Row wx (some ⟨bo, 0, none⟩) 2 (pairZ x s) → Calls Tryz.prog 63 #[.pointer (some ⟨U, 0, none⟩), .slice (some ⟨bo, 0, none⟩) 2 2] wx fun e w' => e = .returned (.int .i64 (m2N x s)) ∧ UC U (cc || m2C x s) (nn + 2) w' ∧ Mod U wx w') := fun wx bo hb hu hr => mulTwoM U x s cc nn bo 2 wx ix hs hn hu hr hb
  obtain ⟨z, hz⟩ : ∃ z, m2N x s = z := ⟨_, rfl⟩
  rw [hz] at ML
  rw [hz]
  obtain ⟨len, hlen⟩ : ∃ q, r * c = q := ⟨_, rfl⟩
  rw [hlen] at AT hBa
  have CW : Hid (∀ w', Mod U w w' → w'.cell? ⟨Bu, 0, none⟩ = some (.pointer (some ⟨U, 0, none⟩)) ∧ w'.cell? ⟨Ba, 0, none⟩ = some (.int .i64 r) ∧ w'.cell? ⟨Ba, 1, none⟩ = some (.int .i64 c) ∧ w'.cell? ⟨Ba, 2, none⟩ = some (.slice (some ⟨b, o, none⟩) len cap) ∧ w'.cell? ⟨Bs, 0, none⟩ = some (.int .i64 s)) := fun wx mu => ⟨Blk.cell (Blk.keep hBu mu n1) 0, Blk.cell (Blk.keep hBa mu n2) 0, Blk.cell (Blk.keep hBa mu n2) 1, Blk.cell (Blk.keep hBa mu n2) 2, Blk.cell (Blk.keep hBs mu n3) 0⟩
  have H : Hid (UC U cc nn w.drew) := h
  have hU : Hid (U < w.heap.size) := Blk.lt h
  obtain ⟨x1, x2, x3, x4, x5⟩ := unhide CW w (Mod.refl _ _)
  clear h hBu hBa hBs za hA hn hr hc hi hk hs hx hz hlen n1 n2 n3 n4 hp ix
  go_enter Tryz.func62, Tryz.ntmps62
  go_wp2
  go_region_held3 (fun w' => w'.cell? ⟨Bu, 0, none⟩ = some (.pointer (some ⟨U, 0, none⟩)) ∧ w'.cell? ⟨Ba, 0, none⟩ = some (.int .i64 r) ∧ w'.cell? ⟨Ba, 1, none⟩ = some (.int .i64 c) ∧ w'.cell? ⟨Ba, 2, none⟩ = some (.slice (some ⟨b, o, none⟩) len cap) ∧ w'.cell? ⟨Bs, 0, none⟩ = some (.int .i64 s))
      (simp [go_sem, *])
      (first
        | (go_at_call 64; refine (unhide AT _ (mod_drew U w)).mono ?_; rintro e w2 ⟨rfl, g2⟩; have M2 : Hid (Mod U w w2) := (mod_drew U w).trans (Mod.of g2); have U2 : Hid (UC U cc nn w2) := Blk.grown (unhide H) g2; obtain ⟨y1, y2, y3, y4, y5⟩ := unhide CW w2 (unhide M2); have j1 := heap_gt y1; have j2 := heap_gt y2; have j3 := heap_gt y5; have M3 : Hid (Mod U w (w2.alloc (.cells #[.int .i64 x, .int .i64 s] 3))) := (unhide M2).trans (Mod.of ((Grown.refl _).alloc _ _)); have U3 : Hid (UC U cc nn (w2.alloc (.cells #[.int .i64 x, .int .i64 s] 3))) := Blk.grown (unhide U2) ((Grown.refl _).alloc _ _); have ne : Hid (w2.heap.size ≠ U) := Nat.ne_of_gt (Blk.lt (unhide U2)); clear g2 AT)
        | (go_at_call 63; refine (unhide ML _ _ (unhide ne) (unhide U3) (pair_rowM w2 x s)).mono ?_; rintro e w4 ⟨rfl, h4, m4⟩; obtain ⟨t1, t2, t3, t4, t5⟩ := unhide CW w4 ((unhide M3).trans m4); have R4 : Hid (UC U (cc || m2C x s) (nn + 2) w4 ∧ Mk U w w4) := ⟨h4, Mk.of ((unhide M3).trans m4)⟩; clear h4 m4 ML))
  go_wp2
  go_ret
  exact ⟨rfl, unhide R4⟩


set_option maxRecDepth 20000 in
set_option maxHeartbeats 4000000 in
theorem reckon1M (U Q F : Nat) (eF : ∀ args w, (callFunc F args).run Tryz.prog w = .ok (.enter F args) w) (f : Int → Int → Int) (g : Int → Int → Bool) (d : Int) (cc : Bool) (nn : Int) (r c i k b o cap b2 o2 cap2 Bo Ba Bb : Nat) (A B : Nat → Int) (hr : 1 ≤ r ∧ r ≤ 12) (hc : 1 ≤ c ∧ c ≤ 12) (hi : i < r) (hk : k < c) (w : World) (h : UC U cc nn w)
    (C : ∀ wx bo, bo ≠ U → UC U cc nn wx → Mod U w wx → Row wx (some ⟨bo, 0, none⟩) 2 (pairZ (A (i * c + k)) (B (i * c + k))) → Calls Tryz.prog F #[.pointer (some ⟨U, 0, none⟩), .slice (some ⟨bo, 0, none⟩) 2 2] wx fun e w' => e = .returned (.int .i64 (f (A (i * c + k)) (B (i * c + k)))) ∧ UC U (cc || g (A (i * c + k)) (B (i * c + k))) (nn + d) w' ∧ Mod U wx w')
    (hBo : Blk Bo #[.func (.func F) #[.pointer (some ⟨U, 0, none⟩)] #[]] 86 w) (hBa : Blk Ba #[.int .i64 r, .int .i64 c, .slice (some ⟨b, o, none⟩) (r * c) cap] 24 w) (hBb : Blk Bb #[.int .i64 r, .int .i64 c, .slice (some ⟨b2, o2, none⟩) (r * c) cap2] 24 w) (za : ∀ j, j < r * c → w.cell? ⟨b, o + j, none⟩ = some (.int .i64 (A j))) (zb : ∀ j, j < r * c → w.cell? ⟨b2, o2 + j, none⟩ = some (.int .i64 (B j))) (n1 : Bo ≠ U) (n2 : Ba ≠ U) (n3 : Bb ≠ U) (n4 : b ≠ U) (n5 : b2 ≠ U) :
    Calls Tryz.prog 93 #[.int .i64 (i : Int), .int .i64 (k : Int), .pointer (some ⟨Bo, 0, none⟩), .pointer (some ⟨Ba, 0, none⟩), .pointer (some ⟨Bb, 0, none⟩)] w fun e w' => e = .returned (.int .i64 (f (A (i * c + k)) (B (i * c + k)))) ∧ UC U (cc || g (A (i * c + k)) (B (i * c + k))) (nn + d) w' ∧ Mk U w w' := by
  have hp := place_in i k r c hi hk
  have AT : Hid (∀ wx, Mod U w wx → Calls Tryz.prog 64 #[.agg #[.int .i64 r, .int .i64 c, .slice (some ⟨b, o, none⟩) (r * c) cap], .int .i64 i, .int .i64 k] wx fun e w' => e = .returned (.int .i64 (A (i * c + k))) ∧ Grown wx w') := fun wx mu => matAtG r c i k b o cap A hr hc hi hk wx (mu.cell (za _ hp) n4)
  have AT2 : Hid (∀ wx, Mod U w wx → Calls Tryz.prog 64 #[.agg #[.int .i64 r, .int .i64 c, .slice (some ⟨b2, o2, none⟩) (r * c) cap2], .int .i64 i, .int .i64 k] wx fun e w' => e = .returned (.int .i64 (B (i * c + k))) ∧ Grown wx w') := fun wx mu => matAtG r c i k b2 o2 cap2 B hr hc hi hk wx (mu.cell (zb _ hp) n5)
  have OP := hide C
  obtain ⟨x, hx⟩ : ∃ x, A (i * c + k) = x := ⟨_, rfl⟩
  obtain ⟨y, hy⟩ : ∃ y, B (i * c + k) = y := ⟨_, rfl⟩
  rw [hx] at AT
  rw [hy] at AT2
  rw [hx, hy] at OP
  rw [hx, hy]
  obtain ⟨z, hz⟩ : ∃ z, f x y = z := ⟨_, rfl⟩
  rw [hz] at OP
  rw [hz]
  obtain ⟨len, hlen⟩ : ∃ q, r * c = q := ⟨_, rfl⟩
  rw [hlen] at AT AT2 hBa hBb
  have CW : Hid (∀ w', Mod U w w' → w'.cell? ⟨Bo, 0, none⟩ = some (.func (.func F) #[.pointer (some ⟨U, 0, none⟩)] #[]) ∧ w'.cell? ⟨Ba, 0, none⟩ = some (.int .i64 r) ∧ w'.cell? ⟨Ba, 1, none⟩ = some (.int .i64 c) ∧ w'.cell? ⟨Ba, 2, none⟩ = some (.slice (some ⟨b, o, none⟩) len cap) ∧ w'.cell? ⟨Bb, 0, none⟩ = some (.int .i64 r) ∧ w'.cell? ⟨Bb, 1, none⟩ = some (.int .i64 c) ∧ w'.cell? ⟨Bb, 2, none⟩ = some (.slice (some ⟨b2, o2, none⟩) len cap2)) := fun wx mu => ⟨Blk.cell (Blk.keep hBo mu n1) 0, Blk.cell (Blk.keep hBa mu n2) 0, Blk.cell (Blk.keep hBa mu n2) 1, Blk.cell (Blk.keep hBa mu n2) 2, Blk.cell (Blk.keep hBb mu n3) 0, Blk.cell (Blk.keep hBb mu n3) 1, Blk.cell (Blk.keep hBb mu n3) 2⟩
  have H : Hid (UC U cc nn w.drew) := h
  obtain ⟨x1, x2, x3, x4, x5, x6, x7⟩ := unhide CW w (Mod.refl _ _)
  clear h hBo hBa hBb za zb hr hc hi hk hx hy hz hlen n1 n2 n3 n4 n5 hp C
  go_enter Tryz.func93, Tryz.ntmps93
  go_wp2
  go_region_held3 (fun w' => w'.cell? ⟨Bo, 0, none⟩ = some (.func (.func F) #[.pointer (some ⟨U, 0, none⟩)] #[]) ∧ w'.cell? ⟨Ba, 0, none⟩ = some (.int .i64 r) ∧ w'.cell? ⟨Ba, 1, none⟩ = some (.int .i64 c) ∧ w'.cell? ⟨Ba, 2, none⟩ = some (.slice (some ⟨b, o, none⟩) len cap) ∧ w'.cell? ⟨Bb, 0, none⟩ = some (.int .i64 r) ∧ w'.cell? ⟨Bb, 1, none⟩ = some (.int .i64 c) ∧ w'.cell? ⟨Bb, 2, none⟩ = some (.slice (some ⟨b2, o2, none⟩) len cap2))
      (simp [go_sem, *])
      (first
        | (go_at_call 64; refine (unhide AT _ (mod_drew U w)).mono ?_; clear AT; rintro e w2 ⟨rfl, g2⟩; have M2 : Hid (Mod U w w2) := (mod_drew U w).trans (Mod.of g2); have U2 : Hid (UC U cc nn w2) := Blk.grown (unhide H) g2; obtain ⟨y1, y2, y3, y4, y5, y6, y7⟩ := unhide CW w2 (unhide M2); clear g2)
        | (go_at_call 64; refine (unhide AT2 _ (unhide M2)).mono ?_; clear AT2; rintro e w3 ⟨rfl, g3⟩; have M3 : Hid (Mod U w w3) := (unhide M2).trans (Mod.of g3); have U3 : Hid (UC U cc nn w3) := Blk.grown (unhide U2) g3; obtain ⟨v1, v2, v3, v4, v5, v6, v7⟩ := unhide CW w3 (unhide M3); have j1 := heap_gt v1; have j2 := heap_gt v2; have j3 := heap_gt v5; have M4 : Hid (Mod U w (w3.alloc (.cells #[.int .i64 x, .int .i64 y] 3))) := (unhide M3).trans (Mod.of ((Grown.refl _).alloc _ _)); have U4 : Hid (UC U cc nn (w3.alloc (.cells #[.int .i64 x, .int .i64 y] 3))) := Blk.grown (unhide U3) ((Grown.refl _).alloc _ _); have ne : Hid (w3.heap.size ≠ U) := Nat.ne_of_gt (Blk.lt (unhide U3)); clear g3)
        | (refine (unhide OP _ _ (unhide ne) (unhide U4) (unhide M4) (pair_rowM w3 x y)).mono ?_; rintro e w5 ⟨rfl, h5, m5⟩; obtain ⟨t1, t2, t3, t4, t5, t6, t7⟩ := unhide CW w5 ((unhide M4).trans m5); have R4 : Hid (UC U (cc || g x y) (nn + d) w5 ∧ Mk U w w5) := ⟨h5, Mk.of ((unhide M4).trans m5)⟩; clear h5 m5 OP))
  go_wp2
  go_ret
  exact ⟨rfl, unhide R4⟩


set_option maxRecDepth 20000 in
set_option maxHeartbeats 4000000 in
theorem reckon1P (U Q F : Nat) (eF : ∀ args w, (callFunc F args).run Tryz.prog w = .ok (.enter F args) w) (f : Int → Int → Int) (g : Int → Int → Bool) (d : Int) (cc : Bool) (nn : Int) (r c i k b o cap b2 o2 cap2 Bo Ba Bb : Nat) (A B : Nat → Int) (hr : 1 ≤ r ∧ r ≤ 12) (hc : 1 ≤ c ∧ c ≤ 12) (hi : i < r) (hk : k < c) (w : World) (h : UC U cc nn w)
    (C : ∀ wx bo, bo ≠ U → UC U cc nn wx → Mod U w wx → Row wx (some ⟨bo, 0, none⟩) 2 (pairZ (A (i * c + k)) (B (i * c + k))) → Calls Tryz.prog F #[.slice (some ⟨bo, 0, none⟩) 2 2, .pointer (some ⟨Q, 0, none⟩)] wx fun e w' => e = .returned (.int .i64 (f (A (i * c + k)) (B (i * c + k)))) ∧ UC U (cc || g (A (i * c + k)) (B (i * c + k))) (nn + d) w' ∧ Mod U wx w')
    (hBo : Blk Bo #[.func (.func F) #[] #[.pointer (some ⟨Q, 0, none⟩)]] 86 w) (hBa : Blk Ba #[.int .i64 r, .int .i64 c, .slice (some ⟨b, o, none⟩) (r * c) cap] 24 w) (hBb : Blk Bb #[.int .i64 r, .int .i64 c, .slice (some ⟨b2, o2, none⟩) (r * c) cap2] 24 w) (za : ∀ j, j < r * c → w.cell? ⟨b, o + j, none⟩ = some (.int .i64 (A j))) (zb : ∀ j, j < r * c → w.cell? ⟨b2, o2 + j, none⟩ = some (.int .i64 (B j))) (n1 : Bo ≠ U) (n2 : Ba ≠ U) (n3 : Bb ≠ U) (n4 : b ≠ U) (n5 : b2 ≠ U) :
    Calls Tryz.prog 93 #[.int .i64 (i : Int), .int .i64 (k : Int), .pointer (some ⟨Bo, 0, none⟩), .pointer (some ⟨Ba, 0, none⟩), .pointer (some ⟨Bb, 0, none⟩)] w fun e w' => e = .returned (.int .i64 (f (A (i * c + k)) (B (i * c + k)))) ∧ UC U (cc || g (A (i * c + k)) (B (i * c + k))) (nn + d) w' ∧ Mk U w w' := by
  have hp := place_in i k r c hi hk
  have AT : Hid (∀ wx, Mod U w wx → Calls Tryz.prog 64 #[.agg #[.int .i64 r, .int .i64 c, .slice (some ⟨b, o, none⟩) (r * c) cap], .int .i64 i, .int .i64 k] wx fun e w' => e = .returned (.int .i64 (A (i * c + k))) ∧ Grown wx w') := fun wx mu => matAtG r c i k b o cap A hr hc hi hk wx (mu.cell (za _ hp) n4)
  have AT2 : Hid (∀ wx, Mod U w wx → Calls Tryz.prog 64 #[.agg #[.int .i64 r, .int .i64 c, .slice (some ⟨b2, o2, none⟩) (r * c) cap2], .int .i64 i, .int .i64 k] wx fun e w' => e = .returned (.int .i64 (B (i * c + k))) ∧ Grown wx w') := fun wx mu => matAtG r c i k b2 o2 cap2 B hr hc hi hk wx (mu.cell (zb _ hp) n5)
  have OP := hide C
  obtain ⟨x, hx⟩ : ∃ x, A (i * c + k) = x := ⟨_, rfl⟩
  obtain ⟨y, hy⟩ : ∃ y, B (i * c + k) = y := ⟨_, rfl⟩
  rw [hx] at AT
  rw [hy] at AT2
  rw [hx, hy] at OP
  rw [hx, hy]
  obtain ⟨z, hz⟩ : ∃ z, f x y = z := ⟨_, rfl⟩
  rw [hz] at OP
  rw [hz]
  obtain ⟨len, hlen⟩ : ∃ q, r * c = q := ⟨_, rfl⟩
  rw [hlen] at AT AT2 hBa hBb
  have CW : Hid (∀ w', Mod U w w' → w'.cell? ⟨Bo, 0, none⟩ = some (.func (.func F) #[] #[.pointer (some ⟨Q, 0, none⟩)]) ∧ w'.cell? ⟨Ba, 0, none⟩ = some (.int .i64 r) ∧ w'.cell? ⟨Ba, 1, none⟩ = some (.int .i64 c) ∧ w'.cell? ⟨Ba, 2, none⟩ = some (.slice (some ⟨b, o, none⟩) len cap) ∧ w'.cell? ⟨Bb, 0, none⟩ = some (.int .i64 r) ∧ w'.cell? ⟨Bb, 1, none⟩ = some (.int .i64 c) ∧ w'.cell? ⟨Bb, 2, none⟩ = some (.slice (some ⟨b2, o2, none⟩) len cap2)) := fun wx mu => ⟨Blk.cell (Blk.keep hBo mu n1) 0, Blk.cell (Blk.keep hBa mu n2) 0, Blk.cell (Blk.keep hBa mu n2) 1, Blk.cell (Blk.keep hBa mu n2) 2, Blk.cell (Blk.keep hBb mu n3) 0, Blk.cell (Blk.keep hBb mu n3) 1, Blk.cell (Blk.keep hBb mu n3) 2⟩
  have H : Hid (UC U cc nn w.drew) := h
  obtain ⟨x1, x2, x3, x4, x5, x6, x7⟩ := unhide CW w (Mod.refl _ _)
  clear h hBo hBa hBb za zb hr hc hi hk hx hy hz hlen n1 n2 n3 n4 n5 hp C
  go_enter Tryz.func93, Tryz.ntmps93
  go_wp2
  go_region_held3 (fun w' => w'.cell? ⟨Bo, 0, none⟩ = some (.func (.func F) #[] #[.pointer (some ⟨Q, 0, none⟩)]) ∧ w'.cell? ⟨Ba, 0, none⟩ = some (.int .i64 r) ∧ w'.cell? ⟨Ba, 1, none⟩ = some (.int .i64 c) ∧ w'.cell? ⟨Ba, 2, none⟩ = some (.slice (some ⟨b, o, none⟩) len cap) ∧ w'.cell? ⟨Bb, 0, none⟩ = some (.int .i64 r) ∧ w'.cell? ⟨Bb, 1, none⟩ = some (.int .i64 c) ∧ w'.cell? ⟨Bb, 2, none⟩ = some (.slice (some ⟨b2, o2, none⟩) len cap2))
      (simp [go_sem, *])
      (first
        | (go_at_call 64; refine (unhide AT _ (mod_drew U w)).mono ?_; clear AT; rintro e w2 ⟨rfl, g2⟩; have M2 : Hid (Mod U w w2) := (mod_drew U w).trans (Mod.of g2); have U2 : Hid (UC U cc nn w2) := Blk.grown (unhide H) g2; obtain ⟨y1, y2, y3, y4, y5, y6, y7⟩ := unhide CW w2 (unhide M2); clear g2)
        | (go_at_call 64; refine (unhide AT2 _ (unhide M2)).mono ?_; clear AT2; rintro e w3 ⟨rfl, g3⟩; have M3 : Hid (Mod U w w3) := (unhide M2).trans (Mod.of g3); have U3 : Hid (UC U cc nn w3) := Blk.grown (unhide U2) g3; obtain ⟨v1, v2, v3, v4, v5, v6, v7⟩ := unhide CW w3 (unhide M3); have j1 := heap_gt v1; have j2 := heap_gt v2; have j3 := heap_gt v5; have M4 : Hid (Mod U w (w3.alloc (.cells #[.int .i64 x, .int .i64 y] 3))) := (unhide M3).trans (Mod.of ((Grown.refl _).alloc _ _)); have U4 : Hid (UC U cc nn (w3.alloc (.cells #[.int .i64 x, .int .i64 y] 3))) := Blk.grown (unhide U3) ((Grown.refl _).alloc _ _); have ne : Hid (w3.heap.size ≠ U) := Nat.ne_of_gt (Blk.lt (unhide U3)); clear g3)
        | (refine (unhide OP _ _ (unhide ne) (unhide U4) (unhide M4) (pair_rowM w3 x y)).mono ?_; rintro e w5 ⟨rfl, h5, m5⟩; obtain ⟨t1, t2, t3, t4, t5, t6, t7⟩ := unhide CW w5 ((unhide M4).trans m5); have R4 : Hid (UC U (cc || g x y) (nn + d) w5 ∧ Mk U w w5) := ⟨h5, Mk.of ((unhide M4).trans m5)⟩; clear h5 m5 OP))
  go_wp2
  go_ret
  exact ⟨rfl, unhide R4⟩


end Go.Proofs.YtopaakjildmjcaaGreat

/- Package mat: reckon, Sum, Less, Scale. -/
namespace Go.Proofs.YtopaakjildmjcaaGreat
open Go.RowKit Go.Shelf Go.Proofs.Wd
set_option linter.unusedVariables false
set_option linter.unusedSimpArgs false
set_option maxRecDepth 10000


set_option maxHeartbeats 2000000 in
theorem matReckonM (U Q F : Nat) (eF : ∀ args w, (callFunc F args).run Tryz.prog w = .ok (.enter F args) w) (f : Int → Int → Int) (g : Int → Int → Bool) (d : Int) (hd : 0 ≤ d ∧ d ≤ 1000) (I : World → Prop) (hI : ∀ a b, I a → Mk U a b → I b) (c0 : Bool) (n0 : Int) (hn : 0 ≤ n0 ∧ n0 < 1152921504606846976) (r c b o cap b2 o2 cap2 : Nat) (A B : Nat → Int) (hr : 1 ≤ r ∧ r ≤ 12) (hc : 1 ≤ c ∧ c ≤ 12)
    (hA : ∀ j, j < r * c → I64 (A j)) (hB : ∀ j, j < r * c → I64 (B j)) (w : World) (h : UC U c0 n0 w) (iw : I w)
    (C : ∀ cc nn x y wx bo, I64 x → I64 y → 0 ≤ nn ∧ nn < 2305843009213693952 → bo ≠ U → UC U cc nn wx → I wx → Row wx (some ⟨bo, 0, none⟩) 2 (pairZ x y) → Calls Tryz.prog F #[.pointer (some ⟨U, 0, none⟩), .slice (some ⟨bo, 0, none⟩) 2 2] wx fun e w' => e = .returned (.int .i64 (f x y)) ∧ UC U (cc || g x y) (nn + d) w' ∧ Mod U wx w')
    (za : ∀ j, j < r * c → w.cell? ⟨b, o + j, none⟩ = some (.int .i64 (A j))) (zb : ∀ j, j < r * c → w.cell? ⟨b2, o2 + j, none⟩ = some (.int .i64 (B j))) (n4 : b ≠ U) (n5 : b2 ≠ U) :
    Calls Tryz.prog 65 #[.pointer (some ⟨U, 0, none⟩), .agg #[.int .i64 r, .int .i64 c, .slice (some ⟨b, o, none⟩) (r * c) cap], .agg #[.int .i64 r, .int .i64 c, .slice (some ⟨b2, o2, none⟩) (r * c) cap2], .func (.func F) #[.pointer (some ⟨U, 0, none⟩)] #[]] w fun e w' => MatP r c (r * c) (fun p => f (A p) (B p)) 0 (fun w' => UC U (c0 || orC (fun p => g (A p) (B p)) (r * c)) (n0 + d * ((r * c : Nat) : Int)) w' ∧ Mk U w w') w e w' := by
  have hlt := Blk.lt h
  obtain ⟨G, s5, ba, bb, bo, br, bx⟩ := alloc5 w #[.int .i64 r, .int .i64 c, .slice (some ⟨b, o, none⟩) (r * c) cap] 24 #[.int .i64 r, .int .i64 c, .slice (some ⟨b2, o2, none⟩) (r * c) cap2] 24 #[.func (.func F) #[.pointer (some ⟨U, 0, none⟩)] #[]] 86 #[.int .i64 0, .int .i64 0, .slice none 0 0] 24 #[.int .i64 r, .int .i64 c, .slice (some ⟨b, o, none⟩) (r * c) cap, .int .i64 r, .int .i64 c, .slice (some ⟨b2, o2, none⟩) (r * c) cap2] 24
  have ok : okM r c (r * c) := ⟨by omega, by omega, by rw [Int.natCast_mul]⟩
  have RF := hide (refuse2 U c0 n0 ⟨hn.1, by omega⟩ r c (some ⟨b, o, none⟩) (r * c) cap r c (some ⟨b2, o2, none⟩) (r * c) cap2 (w.heap.size + 1 + 1 + 1 + 1) 0 (Or.inl ⟨⟨ok, ok⟩, rfl⟩) _ (Blk.grown h G) bx (by omega))
  have MD : Hid (∀ wx, Mk U w wx → UC U c0 n0 wx → Blk w.heap.size #[.int .i64 r, .int .i64 c, .slice (some ⟨b, o, none⟩) (r * c) cap] 24 wx → Blk (w.heap.size + 1) #[.int .i64 r, .int .i64 c, .slice (some ⟨b2, o2, none⟩) (r * c) cap2] 24 wx → Blk (w.heap.size + 1 + 1) #[.func (.func F) #[.pointer (some ⟨U, 0, none⟩)] #[]] 86 wx →
      Calls Tryz.prog 61 #[.int .i64 r, .int .i64 c, .func (.func 93) #[] #[.pointer (some ⟨w.heap.size + 1 + 1, 0, none⟩), .pointer (some ⟨w.heap.size, 0, none⟩), .pointer (some ⟨w.heap.size + 1, 0, none⟩)]] wx fun e w' => MadeP r c (fun p => f (A p) (B p)) (fun w' => UC U (c0 || orC (fun p => g (A p) (B p)) (r * c)) (n0 + d * ((r * c : Nat) : Int)) w' ∧ Mk U wx w') wx e w') := by
    intro wx mx ux xa xb xo
    refine madeU U c0 n0 d hd (fun p => g (A p) (B p)) 93 (enters_of Tryz.func93 (by kernel_rfl) rfl) _ r c hr hc (fun p => f (A p) (B p)) wx hn ux (fun cc nn i k a hi hk hnn ua ma => ?_)
    exact reckon1M U Q F eF f g d cc nn r c i k b o cap b2 o2 cap2 (w.heap.size + 1 + 1) w.heap.size (w.heap.size + 1) A B hr hc hi hk a ua
      (fun wy bo hbo hu my hrow => C cc nn _ _ wy bo (hA _ (place_in _ _ _ _ hi hk)) (hB _ (place_in _ _ _ _ hi hk)) hnn hbo hu (hI _ _ iw ((mx.trans ma).trans (Mk.of my))) hrow)
      (Blk.mk xo ma (by omega)) (Blk.mk xa ma (by omega)) (Blk.mk xb ma (by omega)) (fun j hj => ma.cell (mx.cell (za j hj) n4) n4) (fun j hj => ma.cell (mx.cell (zb j hj) n5) n5) (by omega) (by omega) (by omega) n4 n5
  have HB := hide (And.intro ba (And.intro bb (And.intro bo br)))
  have HG := hide (And.intro G (And.intro s5 hlt))
  obtain ⟨len, hlen⟩ : ∃ q, r * c = q := ⟨_, rfl⟩
  simp only [hlen] at RF HG HB MD
  rw [hlen]
  have HL := hide hlen
  clear G s5 ba bb bo br bx h hlt za zb hA hB hr hc hlen n4 n5 hn ok C hI iw
  go_enter Tryz.func65, Tryz.ntmps65
  go_wp2_with fail
  generalize (((((w.alloc (.cells #[.int .i64 r, .int .i64 c, .slice (some ⟨b, o, none⟩) len cap] 24)).alloc (.cells #[.int .i64 r, .int .i64 c, .slice (some ⟨b2, o2, none⟩) len cap2] 24)).alloc (.cells #[.func (.func F) #[.pointer (some ⟨U, 0, none⟩)] #[]] 86)).alloc (.cells #[.int .i64 0, .int .i64 0, .slice none 0 0] 24)).alloc (.cells #[.int .i64 r, .int .i64 c, .slice (some ⟨b, o, none⟩) len cap, .int .i64 r, .int .i64 c, .slice (some ⟨b2, o2, none⟩) len cap2] 24)) = w1 at *
  refine (unhide RF).mono ?_
  rintro e w2 ⟨rfl, u2, m2⟩
  have M2 : Hid (Mk U w w2) := Mk.of ((Mod.of (unhide HG).1).trans m2)
  have Z2 : Hid (w.heap.size + 1 + 1 + 1 + 1 + 1 ≤ w2.heap.size) := by have := (unhide HG).2.1; have := m2.2.2.2.2; show _ ≤ _; omega
  obtain ⟨ba, bb, bo, br⟩ := unhide HB
  have lU : Hid (U < w.heap.size) := (unhide HG).2.2
  have ba2 := Blk.keep ba m2 (by have := unhide lU; omega)
  have bb2 := Blk.keep bb m2 (by have := unhide lU; omega)
  have bo2 := Blk.keep bo m2 (by have := unhide lU; omega)
  have br2 := Blk.keep br m2 (by have := unhide lU; omega)
  have p0 : w2.cell? ⟨w.heap.size, 0, none⟩ = some (.int .i64 r) := Blk.cell ba2 0
  have p1 : w2.cell? ⟨w.heap.size, 1, none⟩ = some (.int .i64 c) := Blk.cell ba2 1
  have q0 : w2.cell? ⟨w.heap.size + 1, 0, none⟩ = some (.int .i64 r) := Blk.cell bb2 0
  have q1 : w2.cell? ⟨w.heap.size + 1, 1, none⟩ = some (.int .i64 c) := Blk.cell bb2 1
  have M4 := hide (unhide MD w2 (unhide M2) u2 ba2 bb2 bo2)
  have HR := hide br2
  clear ba bb bo br ba2 bb2 bo2 br2 u2 m2 RF HB MD
  go_wp2_with fail
  refine (unhide M4).mono ?_
  rintro e w5 ⟨Lb, h1, rfl, h3, u5, mk5⟩
  have b3 : Blk (w.heap.size + 1 + 1 + 1) #[.int .i64 0, .int .i64 0, .slice none 0 0] 24 w5 := Blk.mk (unhide HR) mk5 (by have := unhide lU; omega)
  have e0 : w5.cell? ⟨w.heap.size + 1 + 1 + 1, 0, none⟩ = some (.int .i64 0) := Blk.cell b3 0
  have e1 : w5.cell? ⟨w.heap.size + 1 + 1 + 1, 1, none⟩ = some (.int .i64 0) := Blk.cell b3 1
  have e2 : w5.cell? ⟨w.heap.size + 1 + 1 + 1, 2, none⟩ = some (.slice none 0 0) := Blk.cell b3 2
  have f := Blk.free b3
  have R := hide (And.intro b3 (And.intro h1 (And.intro h3 (And.intro u5 mk5))))
  clear b3 h1 h3 u5 mk5 M4 p0 p1 q0 q1
  go_wp2
  obtain ⟨b3, h1, h3, u5, mk5⟩ := unhide R
  have P := putM b3 (.int .i64 r) (.int .i64 c) (.slice (some ⟨Lb, 0, none⟩) (r * c) (r * c))
  generalize (((w5.setCell ⟨w.heap.size + 1 + 1 + 1, 0, none⟩ (.int .i64 r)).setCell ⟨w.heap.size + 1 + 1 + 1, 1, none⟩ (.int .i64 c)).setCell ⟨w.heap.size + 1 + 1 + 1, 2, none⟩ (.slice (some ⟨Lb, 0, none⟩) (r * c) (r * c))) = wE at *
  have c0 : wE.cell? ⟨w.heap.size + 1 + 1 + 1, 0, none⟩ = some (.int .i64 r) := Blk.cell P.1 0
  have c1 : wE.cell? ⟨w.heap.size + 1 + 1 + 1, 1, none⟩ = some (.int .i64 c) := Blk.cell P.1 1
  have c2 : wE.cell? ⟨w.heap.size + 1 + 1 + 1, 2, none⟩ = some (.slice (some ⟨Lb, 0, none⟩) (r * c) (r * c)) := Blk.cell P.1 2
  refine bodyPost_ret (v := .tuple #[.agg #[.int .i64 r, .int .i64 c, .slice (some ⟨Lb, 0, none⟩) (r * c) (r * c)], .int .i64 0]) (by simp [results, Tryz.results65, go_sem, c0, c1, c2]) rfl ?_
  have hz := unhide Z2
  have hu := unhide lU
  have mw := unhide M2
  have hl' := unhide HL
  subst hl'
  exact ⟨_, _, Lb, rfl, by omega, Or.inr ⟨rfl, Blk.keep h3 P.2 (by omega)⟩, Nat.le_refl _, Blk.keep u5 P.2 (by omega), (mw.trans mk5).new P.2 (by omega)⟩


set_option maxHeartbeats 2000000 in
theorem matReckonP (U Q F : Nat) (eF : ∀ args w, (callFunc F args).run Tryz.prog w = .ok (.enter F args) w) (f : Int → Int → Int) (g : Int → Int → Bool) (d : Int) (hd : 0 ≤ d ∧ d ≤ 1000) (I : World → Prop) (hI : ∀ a b, I a → Mk U a b → I b) (c0 : Bool) (n0 : Int) (hn : 0 ≤ n0 ∧ n0 < 1152921504606846976) (r c b o cap b2 o2 cap2 : Nat) (A B : Nat → Int) (hr : 1 ≤ r ∧ r ≤ 12) (hc : 1 ≤ c ∧ c ≤ 12)
    (hA : ∀ j, j < r * c → I64 (A j)) (hB : ∀ j, j < r * c → I64 (B j)) (w : World) (h : UC U c0 n0 w) (iw : I w)
    (C : ∀ cc nn x y wx bo, I64 x → I64 y → 0 ≤ nn ∧ nn < 2305843009213693952 → bo ≠ U → UC U cc nn wx → I wx → Row wx (some ⟨bo, 0, none⟩) 2 (pairZ x y) → Calls Tryz.prog F #[.slice (some ⟨bo, 0, none⟩) 2 2, .pointer (some ⟨Q, 0, none⟩)] wx fun e w' => e = .returned (.int .i64 (f x y)) ∧ UC U (cc || g x y) (nn + d) w' ∧ Mod U wx w')
    (za : ∀ j, j < r * c → w.cell? ⟨b, o + j, none⟩ = some (.int .i64 (A j))) (zb : ∀ j, j < r * c → w.cell? ⟨b2, o2 + j, none⟩ = some (.int .i64 (B j))) (n4 : b ≠ U) (n5 : b2 ≠ U) :
    Calls Tryz.prog 65 #[.pointer (some ⟨U, 0, none⟩), .agg #[.int .i64 r, .int .i64 c, .slice (some ⟨b, o, none⟩) (r * c) cap], .agg #[.int .i64 r, .int .i64 c, .slice (some ⟨b2, o2, none⟩) (r * c) cap2], .func (.func F) #[] #[.pointer (some ⟨Q, 0, none⟩)]] w fun e w' => MatP r c (r * c) (fun p => f (A p) (B p)) 0 (fun w' => UC U (c0 || orC (fun p => g (A p) (B p)) (r * c)) (n0 + d * ((r * c : Nat) : Int)) w' ∧ Mk U w w') w e w' := by
  have hlt := Blk.lt h
  obtain ⟨G, s5, ba, bb, bo, br, bx⟩ := alloc5 w #[.int .i64 r, .int .i64 c, .slice (some ⟨b, o, none⟩) (r * c) cap] 24 #[.int .i64 r, .int .i64 c, .slice (some ⟨b2, o2, none⟩) (r * c) cap2] 24 #[.func (.func F) #[] #[.pointer (some ⟨Q, 0, none⟩)]] 86 #[.int .i64 0, .int .i64 0, .slice none 0 0] 24 #[.int .i64 r, .int .i64 c, .slice (some ⟨b, o, none⟩) (r * c) cap, .int .i64 r, .int .i64 c, .slice (some ⟨b2, o2, none⟩) (r * c) cap2] 24
  have ok : okM r c (r * c) := ⟨by omega, by omega, by rw [Int.natCast_mul]⟩
  have RF := hide (refuse2 U c0 n0 ⟨hn.1, by omega⟩ r c (some ⟨b, o, none⟩) (r * c) cap r c (some ⟨b2, o2, none⟩) (r * c) cap2 (w.heap.size + 1 + 1 + 1 + 1) 0 (Or.inl ⟨⟨ok, ok⟩, rfl⟩) _ (Blk.grown h G) bx (by omega))
  have MD : Hid (∀ wx, Mk U w wx → UC U c0 n0 wx → Blk w.heap.size #[.int .i64 r, .int .i64 c, .slice (some ⟨b, o, none⟩) (r * c) cap] 24 wx → Blk (w.heap.size + 1) #[.int .i64 r, .int .i64 c, .slice (some ⟨b2, o2, none⟩) (r * c) cap2] 24 wx → Blk (w.heap.size + 1 + 1) #[.func (.func F) #[] #[.pointer (some ⟨Q, 0, none⟩)]] 86 wx →
      Calls Tryz.prog 61 #[.int .i64 r, .int .i64 c, .func (.func 93) #[] #[.pointer (some ⟨w.heap.size + 1 + 1, 0, none⟩), .pointer (some ⟨w.heap.size, 0, none⟩), .pointer (some ⟨w.heap.size + 1, 0, none⟩)]] wx fun e w' => MadeP r c (fun p => f (A p) (B p)) (fun w' => UC U (c0 || orC (fun p => g (A p) (B p)) (r * c)) (n0 + d * ((r * c : Nat) : Int)) w' ∧ Mk U wx w') wx e w') := by
    intro wx mx ux xa xb xo
    refine madeU U c0 n0 d hd (fun p => g (A p) (B p)) 93 (enters_of Tryz.func93 (by kernel_rfl) rfl) _ r c hr hc (fun p => f (A p) (B p)) wx hn ux (fun cc nn i k a hi hk hnn ua ma => ?_)
    exact reckon1P U Q F eF f g d cc nn r c i k b o cap b2 o2 cap2 (w.heap.size + 1 + 1) w.heap.size (w.heap.size + 1) A B hr hc hi hk a ua
      (fun wy bo hbo hu my hrow => C cc nn _ _ wy bo (hA _ (place_in _ _ _ _ hi hk)) (hB _ (place_in _ _ _ _ hi hk)) hnn hbo hu (hI _ _ iw ((mx.trans ma).trans (Mk.of my))) hrow)
      (Blk.mk xo ma (by omega)) (Blk.mk xa ma (by omega)) (Blk.mk xb ma (by omega)) (fun j hj => ma.cell (mx.cell (za j hj) n4) n4) (fun j hj => ma.cell (mx.cell (zb j hj) n5) n5) (by omega) (by omega) (by omega) n4 n5
  have HB := hide (And.intro ba (And.intro bb (And.intro bo br)))
  have HG := hide (And.intro G (And.intro s5 hlt))
  obtain ⟨len, hlen⟩ : ∃ q, r * c = q := ⟨_, rfl⟩
  simp only [hlen] at RF HG HB MD
  rw [hlen]
  have HL := hide hlen
  clear G s5 ba bb bo br bx h hlt za zb hA hB hr hc hlen n4 n5 hn ok C hI iw
  go_enter Tryz.func65, Tryz.ntmps65
  go_wp2_with fail
  generalize (((((w.alloc (.cells #[.int .i64 r, .int .i64 c, .slice (some ⟨b, o, none⟩) len cap] 24)).alloc (.cells #[.int .i64 r, .int .i64 c, .slice (some ⟨b2, o2, none⟩) len cap2] 24)).alloc (.cells #[.func (.func F) #[] #[.pointer (some ⟨Q, 0, none⟩)]] 86)).alloc (.cells #[.int .i64 0, .int .i64 0, .slice none 0 0] 24)).alloc (.cells #[.int .i64 r, .int .i64 c, .slice (some ⟨b, o, none⟩) len cap, .int .i64 r, .int .i64 c, .slice (some ⟨b2, o2, none⟩) len cap2] 24)) = w1 at *
  refine (unhide RF).mono ?_
  rintro e w2 ⟨rfl, u2, m2⟩
  have M2 : Hid (Mk U w w2) := Mk.of ((Mod.of (unhide HG).1).trans m2)
  have Z2 : Hid (w.heap.size + 1 + 1 + 1 + 1 + 1 ≤ w2.heap.size) := by have := (unhide HG).2.1; have := m2.2.2.2.2; show _ ≤ _; omega
  obtain ⟨ba, bb, bo, br⟩ := unhide HB
  have lU : Hid (U < w.heap.size) := (unhide HG).2.2
  have ba2 := Blk.keep ba m2 (by have := unhide lU; omega)
  have bb2 := Blk.keep bb m2 (by have := unhide lU; omega)
  have bo2 := Blk.keep bo m2 (by have := unhide lU; omega)
  have br2 := Blk.keep br m2 (by have := unhide lU; omega)
  have p0 : w2.cell? ⟨w.heap.size, 0, none⟩ = some (.int .i64 r) := Blk.cell ba2 0
  have p1 : w2.cell? ⟨w.heap.size, 1, none⟩ = some (.int .i64 c) := Blk.cell ba2 1
  have q0 : w2.cell? ⟨w.heap.size + 1, 0, none⟩ = some (.int .i64 r) := Blk.cell bb2 0
  have q1 : w2.cell? ⟨w.heap.size + 1, 1, none⟩ = some (.int .i64 c) := Blk.cell bb2 1
  have M4 := hide (unhide MD w2 (unhide M2) u2 ba2 bb2 bo2)
  have HR := hide br2
  clear ba bb bo br ba2 bb2 bo2 br2 u2 m2 RF HB MD
  go_wp2_with fail
  refine (unhide M4).mono ?_
  rintro e w5 ⟨Lb, h1, rfl, h3, u5, mk5⟩
  have b3 : Blk (w.heap.size + 1 + 1 + 1) #[.int .i64 0, .int .i64 0, .slice none 0 0] 24 w5 := Blk.mk (unhide HR) mk5 (by have := unhide lU; omega)
  have e0 : w5.cell? ⟨w.heap.size + 1 + 1 + 1, 0, none⟩ = some (.int .i64 0) := Blk.cell b3 0
  have e1 : w5.cell? ⟨w.heap.size + 1 + 1 + 1, 1, none⟩ = some (.int .i64 0) := Blk.cell b3 1
  have e2 : w5.cell? ⟨w.heap.size + 1 + 1 + 1, 2, none⟩ = some (.slice none 0 0) := Blk.cell b3 2
  have f := Blk.free b3
  have R := hide (And.intro b3 (And.intro h1 (And.intro h3 (And.intro u5 mk5))))
  clear b3 h1 h3 u5 mk5 M4 p0 p1 q0 q1
  go_wp2
  obtain ⟨b3, h1, h3, u5, mk5⟩ := unhide R
  have P := putM b3 (.int .i64 r) (.int .i64 c) (.slice (some ⟨Lb, 0, none⟩) (r * c) (r * c))
  generalize (((w5.setCell ⟨w.heap.size + 1 + 1 + 1, 0, none⟩ (.int .i64 r)).setCell ⟨w.heap.size + 1 + 1 + 1, 1, none⟩ (.int .i64 c)).setCell ⟨w.heap.size + 1 + 1 + 1, 2, none⟩ (.slice (some ⟨Lb, 0, none⟩) (r * c) (r * c))) = wE at *
  have c0 : wE.cell? ⟨w.heap.size + 1 + 1 + 1, 0, none⟩ = some (.int .i64 r) := Blk.cell P.1 0
  have c1 : wE.cell? ⟨w.heap.size + 1 + 1 + 1, 1, none⟩ = some (.int .i64 c) := Blk.cell P.1 1
  have c2 : wE.cell? ⟨w.heap.size + 1 + 1 + 1, 2, none⟩ = some (.slice (some ⟨Lb, 0, none⟩) (r * c) (r * c)) := Blk.cell P.1 2
  refine bodyPost_ret (v := .tuple #[.agg #[.int .i64 r, .int .i64 c, .slice (some ⟨Lb, 0, none⟩) (r * c) (r * c)], .int .i64 0]) (by simp [results, Tryz.results65, go_sem, c0, c1, c2]) rfl ?_
  have hz := unhide Z2
  have hu := unhide lU
  have mw := unhide M2
  have hl' := unhide HL
  subst hl'
  exact ⟨_, _, Lb, rfl, by omega, Or.inr ⟨rfl, Blk.keep h3 P.2 (by omega)⟩, Nat.le_refl _, Blk.keep u5 P.2 (by omega), (mw.trans mk5).new P.2 (by omega)⟩


set_option maxHeartbeats 2000000 in
theorem matReckonM_bad (U Q F : Nat) (c0 : Bool) (n0 : Int) (hn : 0 ≤ n0 ∧ n0 < 1152921504606846976) (R1 C1 R2 C2 : Int) (a1 a2 : Option Addr) (l1 p1 l2 p2 : Nat) (Z : Nat → Int) (hb : ¬ (okM R1 C1 l1 ∧ okM R2 C2 l2 ∧ R1 = R2 ∧ C1 = C2)) (w : World) (h : UC U c0 n0 w) :
    Calls Tryz.prog 65 #[.pointer (some ⟨U, 0, none⟩), .agg #[.int .i64 R1, .int .i64 C1, .slice a1 l1 p1], .agg #[.int .i64 R2, .int .i64 C2, .slice a2 l2 p2], .func (.func F) #[.pointer (some ⟨U, 0, none⟩)] #[]] w fun e w' => MatP 0 0 0 Z 3 (fun w' => UC U c0 n0 w' ∧ Mk U w w') w e w' := by
  have hlt := Blk.lt h
  obtain ⟨G, s5, ba, bb, bo, br, bx⟩ := alloc5 w #[.int .i64 R1, .int .i64 C1, .slice a1 l1 p1] 24 #[.int .i64 R2, .int .i64 C2, .slice a2 l2 p2] 24 #[.func (.func F) #[.pointer (some ⟨U, 0, none⟩)] #[]] 86 #[.int .i64 0, .int .i64 0, .slice none 0 0] 24 #[.int .i64 R1, .int .i64 C1, .slice a1 l1 p1, .int .i64 R2, .int .i64 C2, .slice a2 l2 p2] 24
  have hu := Blk.grown h G
  have lU : Hid (U < w.heap.size) := hlt
  have HB := hide (And.intro ba (And.intro bb br))
  have HG := hide G
  by_cases ho : okM R1 C1 l1 ∧ okM R2 C2 l2
  · have RF := hide (refuse2 U c0 n0 ⟨hn.1, by omega⟩ R1 C1 a1 l1 p1 R2 C2 a2 l2 p2 (w.heap.size + 1 + 1 + 1 + 1) 0 (Or.inl ⟨ho, rfl⟩) _ hu bx (by omega))
    have hne : (R1 != R2) = true ∨ ((R1 != R2) = false ∧ (C1 != C2) = true) := by
      by_cases e1 : R1 = R2
      · refine Or.inr ⟨by simpa using e1, ?_⟩
        simpa using (fun e2 => hb ⟨ho.1, ho.2, e1, e2⟩)
      · exact Or.inl (by simpa using e1)
    clear G s5 ba bb bo br bx h hu hlt hb ho hn
    go_enter Tryz.func65, Tryz.ntmps65
    go_wp2_with fail
    generalize (((((w.alloc (.cells #[.int .i64 R1, .int .i64 C1, .slice a1 l1 p1] 24)).alloc (.cells #[.int .i64 R2, .int .i64 C2, .slice a2 l2 p2] 24)).alloc (.cells #[.func (.func F) #[.pointer (some ⟨U, 0, none⟩)] #[]] 86)).alloc (.cells #[.int .i64 0, .int .i64 0, .slice none 0 0] 24)).alloc (.cells #[.int .i64 R1, .int .i64 C1, .slice a1 l1 p1, .int .i64 R2, .int .i64 C2, .slice a2 l2 p2] 24)) = w1 at *
    refine (unhide RF).mono ?_
    rintro e w2 ⟨rfl, u2, m2⟩
    have b3 := Blk.keep (unhide HB).2.2 m2 (by have := unhide lU; omega)
    have x0 : w2.cell? ⟨w.heap.size, 0, none⟩ = some (.int .i64 R1) := Blk.cell (Blk.keep (unhide HB).1 m2 (by have := unhide lU; omega)) 0
    have x1 : w2.cell? ⟨w.heap.size, 1, none⟩ = some (.int .i64 C1) := Blk.cell (Blk.keep (unhide HB).1 m2 (by have := unhide lU; omega)) 1
    have y0 : w2.cell? ⟨w.heap.size + 1, 0, none⟩ = some (.int .i64 R2) := Blk.cell (Blk.keep (unhide HB).2.1 m2 (by have := unhide lU; omega)) 0
    have y1 : w2.cell? ⟨w.heap.size + 1, 1, none⟩ = some (.int .i64 C2) := Blk.cell (Blk.keep (unhide HB).2.1 m2 (by have := unhide lU; omega)) 1
    have e0 : w2.cell? ⟨w.heap.size + 1 + 1 + 1, 0, none⟩ = some (.int .i64 0) := Blk.cell b3 0
    have e1 : w2.cell? ⟨w.heap.size + 1 + 1 + 1, 1, none⟩ = some (.int .i64 0) := Blk.cell b3 1
    have e2 : w2.cell? ⟨w.heap.size + 1 + 1 + 1, 2, none⟩ = some (.slice none 0 0) := Blk.cell b3 2
    have f := Blk.free b3
    have R := hide (And.intro b3 (And.intro u2 (Mk.of ((Mod.of (unhide HG)).trans m2))))
    clear b3 u2 m2 RF
    rcases hne with hne | ⟨he, hne⟩
    · go_wp2
      obtain ⟨b3, u2, m2⟩ := unhide R
      have P := putM b3 (.int .i64 0) (.int .i64 0) (.slice none 0 0)
      generalize (((w2.setCell ⟨w.heap.size + 1 + 1 + 1, 0, none⟩ (.int .i64 0)).setCell ⟨w.heap.size + 1 + 1 + 1, 1, none⟩ (.int .i64 0)).setCell ⟨w.heap.size + 1 + 1 + 1, 2, none⟩ (.slice none 0 0)) = wE at *
      have c0 : wE.cell? ⟨w.heap.size + 1 + 1 + 1, 0, none⟩ = some (.int .i64 0) := Blk.cell P.1 0
      have c1 : wE.cell? ⟨w.heap.size + 1 + 1 + 1, 1, none⟩ = some (.int .i64 0) := Blk.cell P.1 1
      have c2 : wE.cell? ⟨w.heap.size + 1 + 1 + 1, 2, none⟩ = some (.slice none 0 0) := Blk.cell P.1 2
      refine bodyPost_ret (v := .tuple #[.agg #[.int .i64 0, .int .i64 0, .slice none 0 0], .int .i64 3]) (by simp [results, Tryz.results65, go_sem, c0, c1, c2]) rfl ?_
      exact ⟨none, 0, w.heap.size, rfl, Nat.le_refl _, Or.inl rfl, Nat.le_refl _, Blk.keep u2 P.2 (by have := unhide lU; omega), m2.new P.2 (by omega)⟩
    · go_wp2
      obtain ⟨b3, u2, m2⟩ := unhide R
      have P := putM b3 (.int .i64 0) (.int .i64 0) (.slice none 0 0)
      generalize (((w2.setCell ⟨w.heap.size + 1 + 1 + 1, 0, none⟩ (.int .i64 0)).setCell ⟨w.heap.size + 1 + 1 + 1, 1, none⟩ (.int .i64 0)).setCell ⟨w.heap.size + 1 + 1 + 1, 2, none⟩ (.slice none 0 0)) = wE at *
      have c0 : wE.cell? ⟨w.heap.size + 1 + 1 + 1, 0, none⟩ = some (.int .i64 0) := Blk.cell P.1 0
      have c1 : wE.cell? ⟨w.heap.size + 1 + 1 + 1, 1, none⟩ = some (.int .i64 0) := Blk.cell P.1 1
      have c2 : wE.cell? ⟨w.heap.size + 1 + 1 + 1, 2, none⟩ = some (.slice none 0 0) := Blk.cell P.1 2
      refine bodyPost_ret (v := .tuple #[.agg #[.int .i64 0, .int .i64 0, .slice none 0 0], .int .i64 3]) (by simp [results, Tryz.results65, go_sem, c0, c1, c2]) rfl ?_
      exact ⟨none, 0, w.heap.size, rfl, Nat.le_refl _, Or.inl rfl, Nat.le_refl _, Blk.keep u2 P.2 (by have := unhide lU; omega), m2.new P.2 (by omega)⟩
  · have RF := hide (refuse2 U c0 n0 ⟨hn.1, by omega⟩ R1 C1 a1 l1 p1 R2 C2 a2 l2 p2 (w.heap.size + 1 + 1 + 1 + 1) 3 (Or.inr ⟨ho, rfl⟩) _ hu bx (by omega))
    clear G s5 ba bb bo br bx h hu hlt hb ho hn
    go_enter Tryz.func65, Tryz.ntmps65
    go_wp2_with fail
    generalize (((((w.alloc (.cells #[.int .i64 R1, .int .i64 C1, .slice a1 l1 p1] 24)).alloc (.cells #[.int .i64 R2, .int .i64 C2, .slice a2 l2 p2] 24)).alloc (.cells #[.func (.func F) #[.pointer (some ⟨U, 0, none⟩)] #[]] 86)).alloc (.cells #[.int .i64 0, .int .i64 0, .slice none 0 0] 24)).alloc (.cells #[.int .i64 R1, .int .i64 C1, .slice a1 l1 p1, .int .i64 R2, .int .i64 C2, .slice a2 l2 p2] 24)) = w1 at *
    refine (unhide RF).mono ?_
    rintro e w2 ⟨rfl, u2, m2⟩
    have b3 := Blk.keep (unhide HB).2.2 m2 (by have := unhide lU; omega)
    have e0 : w2.cell? ⟨w.heap.size + 1 + 1 + 1, 0, none⟩ = some (.int .i64 0) := Blk.cell b3 0
    have e1 : w2.cell? ⟨w.heap.size + 1 + 1 + 1, 1, none⟩ = some (.int .i64 0) := Blk.cell b3 1
    have e2 : w2.cell? ⟨w.heap.size + 1 + 1 + 1, 2, none⟩ = some (.slice none 0 0) := Blk.cell b3 2
    have f := Blk.free b3
    have R := hide (And.intro b3 (And.intro u2 (Mk.of ((Mod.of (unhide HG)).trans m2))))
    clear b3 u2 m2 RF
    go_wp2
    obtain ⟨b3, u2, m2⟩ := unhide R
    have P := putM b3 (.int .i64 0) (.int .i64 0) (.slice none 0 0)
    generalize (((w2.setCell ⟨w.heap.size + 1 + 1 + 1, 0, none⟩ (.int .i64 0)).setCell ⟨w.heap.size + 1 + 1 + 1, 1, none⟩ (.int .i64 0)).setCell ⟨w.heap.size + 1 + 1 + 1, 2, none⟩ (.slice none 0 0)) = wE at *
    have c0 : wE.cell? ⟨w.heap.size + 1 + 1 + 1, 0, none⟩ = some (.int .i64 0) := Blk.cell P.1 0
    have c1 : wE.cell? ⟨w.heap.size + 1 + 1 + 1, 1, none⟩ = some (.int .i64 0) := Blk.cell P.1 1
    have c2 : wE.cell? ⟨w.heap.size + 1 + 1 + 1, 2, none⟩ = some (.slice none 0 0) := Blk.cell P.1 2
    refine bodyPost_ret (v := .tuple #[.agg #[.int .i64 0, .int .i64 0, .slice none 0 0], .int .i64 3]) (by simp [results, Tryz.results65, go_sem, c0, c1, c2]) rfl ?_
    exact ⟨none, 0, w.heap.size, rfl, Nat.le_refl _, Or.inl rfl, Nat.le_refl _, Blk.keep u2 P.2 (by have := unhide lU; omega), m2.new P.2 (by omega)⟩

set_option maxHeartbeats 2000000 in
theorem matReckonM_none (p : Option Addr) (Q F : Nat) (R1 C1 R2 C2 : Int) (a1 a2 : Option Addr) (l1 p1 l2 p2 : Nat) (Z : Nat → Int) (w : World) (h : NU p w) :
    Calls Tryz.prog 65 #[.pointer p, .agg #[.int .i64 R1, .int .i64 C1, .slice a1 l1 p1], .agg #[.int .i64 R2, .int .i64 C2, .slice a2 l2 p2], .func (.func F) #[.pointer p] #[]] w fun e w' => MatP 0 0 0 Z 1 (Kp w) w e w' := by
  obtain ⟨G, s5, ba, bb, bo, br, bx⟩ := alloc5 w #[.int .i64 R1, .int .i64 C1, .slice a1 l1 p1] 24 #[.int .i64 R2, .int .i64 C2, .slice a2 l2 p2] 24 #[.func (.func F) #[.pointer p] #[]] 86 #[.int .i64 0, .int .i64 0, .slice none 0 0] 24 #[.int .i64 R1, .int .i64 C1, .slice a1 l1 p1, .int .i64 R2, .int .i64 C2, .slice a2 l2 p2] 24
  have HB := hide br
  have HG := hide G
  have RF := hide (fun s => refuseNone p s _ (h.grown G))
  clear G s5 ba bb bo br bx h
  go_enter Tryz.func65, Tryz.ntmps65
  go_wp2_with fail
  generalize (((((w.alloc (.cells #[.int .i64 R1, .int .i64 C1, .slice a1 l1 p1] 24)).alloc (.cells #[.int .i64 R2, .int .i64 C2, .slice a2 l2 p2] 24)).alloc (.cells #[.func (.func F) #[.pointer p] #[]] 86)).alloc (.cells #[.int .i64 0, .int .i64 0, .slice none 0 0] 24)).alloc (.cells #[.int .i64 R1, .int .i64 C1, .slice a1 l1 p1, .int .i64 R2, .int .i64 C2, .slice a2 l2 p2] 24)) = w1 at *
  refine (unhide RF _).mono ?_
  rintro e w2 ⟨rfl, rfl⟩
  have e0 : w2.cell? ⟨w.heap.size + 1 + 1 + 1, 0, none⟩ = some (.int .i64 0) := Blk.cell (unhide HB) 0
  have e1 : w2.cell? ⟨w.heap.size + 1 + 1 + 1, 1, none⟩ = some (.int .i64 0) := Blk.cell (unhide HB) 1
  have e2 : w2.cell? ⟨w.heap.size + 1 + 1 + 1, 2, none⟩ = some (.slice none 0 0) := Blk.cell (unhide HB) 2
  have f := Blk.free (unhide HB)
  clear RF
  go_wp2
  have b3 := unhide HB
  have P := putM b3 (.int .i64 0) (.int .i64 0) (.slice none 0 0)
  generalize (((w2.setCell ⟨w.heap.size + 1 + 1 + 1, 0, none⟩ (.int .i64 0)).setCell ⟨w.heap.size + 1 + 1 + 1, 1, none⟩ (.int .i64 0)).setCell ⟨w.heap.size + 1 + 1 + 1, 2, none⟩ (.slice none 0 0)) = wE at *
  have c0 : wE.cell? ⟨w.heap.size + 1 + 1 + 1, 0, none⟩ = some (.int .i64 0) := Blk.cell P.1 0
  have c1 : wE.cell? ⟨w.heap.size + 1 + 1 + 1, 1, none⟩ = some (.int .i64 0) := Blk.cell P.1 1
  have c2 : wE.cell? ⟨w.heap.size + 1 + 1 + 1, 2, none⟩ = some (.slice none 0 0) := Blk.cell P.1 2
  refine bodyPost_ret (v := .tuple #[.agg #[.int .i64 0, .int .i64 0, .slice none 0 0], .int .i64 1]) (by simp [results, Tryz.results65, go_sem, c0, c1, c2]) rfl ?_
  exact ⟨none, 0, w.heap.size, rfl, Nat.le_refl _, Or.inl rfl, Nat.le_refl _, (Kp.of (unhide HG)).mod P.2 (by omega)⟩


set_option maxHeartbeats 2000000 in
theorem matReckonP_bad (U Q F : Nat) (c0 : Bool) (n0 : Int) (hn : 0 ≤ n0 ∧ n0 < 1152921504606846976) (R1 C1 R2 C2 : Int) (a1 a2 : Option Addr) (l1 p1 l2 p2 : Nat) (Z : Nat → Int) (hb : ¬ (okM R1 C1 l1 ∧ okM R2 C2 l2 ∧ R1 = R2 ∧ C1 = C2)) (w : World) (h : UC U c0 n0 w) :
    Calls Tryz.prog 65 #[.pointer (some ⟨U, 0, none⟩), .agg #[.int .i64 R1, .int .i64 C1, .slice a1 l1 p1], .agg #[.int .i64 R2, .int .i64 C2, .slice a2 l2 p2], .func (.func F) #[] #[.pointer (some ⟨Q, 0, none⟩)]] w fun e w' => MatP 0 0 0 Z 3 (fun w' => UC U c0 n0 w' ∧ Mk U w w') w e w' := by
  have hlt := Blk.lt h
  obtain ⟨G, s5, ba, bb, bo, br, bx⟩ := alloc5 w #[.int .i64 R1, .int .i64 C1, .slice a1 l1 p1] 24 #[.int .i64 R2, .int .i64 C2, .slice a2 l2 p2] 24 #[.func (.func F) #[] #[.pointer (some ⟨Q, 0, none⟩)]] 86 #[.int .i64 0, .int .i64 0, .slice none 0 0] 24 #[.int .i64 R1, .int .i64 C1, .slice a1 l1 p1, .int .i64 R2, .int .i64 C2, .slice a2 l2 p2] 24
  have hu := Blk.grown h G
  have lU : Hid (U < w.heap.size) := hlt
  have HB := hide (And.intro ba (And.intro bb br))
  have HG := hide G
  by_cases ho : okM R1 C1 l1 ∧ okM R2 C2 l2
  · have RF := hide (refuse2 U c0 n0 ⟨hn.1, by omega⟩ R1 C1 a1 l1 p1 R2 C2 a2 l2 p2 (w.heap.size + 1 + 1 + 1 + 1) 0 (Or.inl ⟨ho, rfl⟩) _ hu bx (by omega))
    have hne : (R1 != R2) = true ∨ ((R1 != R2) = false ∧ (C1 != C2) = true) := by
      by_cases e1 : R1 = R2
      · refine Or.inr ⟨by simpa using e1, ?_⟩
        simpa using (fun e2 => hb ⟨ho.1, ho.2, e1, e2⟩)
      · exact Or.inl (by simpa using e1)
    clear G s5 ba bb bo br bx h hu hlt hb ho hn
    go_enter Tryz.func65, Tryz.ntmps65
    go_wp2_with fail
    generalize (((((w.alloc (.cells #[.int .i64 R1, .int .i64 C1, .slice a1 l1 p1] 24)).alloc (.cells #[.int .i64 R2, .int .i64 C2, .slice a2 l2 p2] 24)).alloc (.cells #[.func (.func F) #[] #[.pointer (some ⟨Q, 0, none⟩)]] 86)).alloc (.cells #[.int .i64 0, .int .i64 0, .slice none 0 0] 24)).alloc (.cells #[.int .i64 R1, .int .i64 C1, .slice a1 l1 p1, .int .i64 R2, .int .i64 C2, .slice a2 l2 p2] 24)) = w1 at *
    refine (unhide RF).mono ?_
    rintro e w2 ⟨rfl, u2, m2⟩
    have b3 := Blk.keep (unhide HB).2.2 m2 (by have := unhide lU; omega)
    have x0 : w2.cell? ⟨w.heap.size, 0, none⟩ = some (.int .i64 R1) := Blk.cell (Blk.keep (unhide HB).1 m2 (by have := unhide lU; omega)) 0
    have x1 : w2.cell? ⟨w.heap.size, 1, none⟩ = some (.int .i64 C1) := Blk.cell (Blk.keep (unhide HB).1 m2 (by have := unhide lU; omega)) 1
    have y0 : w2.cell? ⟨w.heap.size + 1, 0, none⟩ = some (.int .i64 R2) := Blk.cell (Blk.keep (unhide HB).2.1 m2 (by have := unhide lU; omega)) 0
    have y1 : w2.cell? ⟨w.heap.size + 1, 1, none⟩ = some (.int .i64 C2) := Blk.cell (Blk.keep (unhide HB).2.1 m2 (by have := unhide lU; omega)) 1
    have e0 : w2.cell? ⟨w.heap.size + 1 + 1 + 1, 0, none⟩ = some (.int .i64 0) := Blk.cell b3 0
    have e1 : w2.cell? ⟨w.heap.size + 1 + 1 + 1, 1, none⟩ = some (.int .i64 0) := Blk.cell b3 1
    have e2 : w2.cell? ⟨w.heap.size + 1 + 1 + 1, 2, none⟩ = some (.slice none 0 0) := Blk.cell b3 2
    have f := Blk.free b3
    have R := hide (And.intro b3 (And.intro u2 (Mk.of ((Mod.of (unhide HG)).trans m2))))
    clear b3 u2 m2 RF
    rcases hne with hne | ⟨he, hne⟩
    · go_wp2
      obtain ⟨b3, u2, m2⟩ := unhide R
      have P := putM b3 (.int .i64 0) (.int .i64 0) (.slice none 0 0)
      generalize (((w2.setCell ⟨w.heap.size + 1 + 1 + 1, 0, none⟩ (.int .i64 0)).setCell ⟨w.heap.size + 1 + 1 + 1, 1, none⟩ (.int .i64 0)).setCell ⟨w.heap.size + 1 + 1 + 1, 2, none⟩ (.slice none 0 0)) = wE at *
      have c0 : wE.cell? ⟨w.heap.size + 1 + 1 + 1, 0, none⟩ = some (.int .i64 0) := Blk.cell P.1 0
      have c1 : wE.cell? ⟨w.heap.size + 1 + 1 + 1, 1, none⟩ = some (.int .i64 0) := Blk.cell P.1 1
      have c2 : wE.cell? ⟨w.heap.size + 1 + 1 + 1, 2, none⟩ = some (.slice none 0 0) := Blk.cell P.1 2
      refine bodyPost_ret (v := .tuple #[.agg #[.int .i64 0, .int .i64 0, .slice none 0 0], .int .i64 3]) (by simp [results, Tryz.results65, go_sem, c0, c1, c2]) rfl ?_
      exact ⟨none, 0, w.heap.size, rfl, Nat.le_refl _, Or.inl rfl, Nat.le_refl _, Blk.keep u2 P.2 (by have := unhide lU; omega), m2.new P.2 (by omega)⟩
    · go_wp2
      obtain ⟨b3, u2, m2⟩ := unhide R
      have P := putM b3 (.int .i64 0) (.int .i64 0) (.slice none 0 0)
      generalize (((w2.setCell ⟨w.heap.size + 1 + 1 + 1, 0, none⟩ (.int .i64 0)).setCell ⟨w.heap.size + 1 + 1 + 1, 1, none⟩ (.int .i64 0)).setCell ⟨w.heap.size + 1 + 1 + 1, 2, none⟩ (.slice none 0 0)) = wE at *
      have c0 : wE.cell? ⟨w.heap.size + 1 + 1 + 1, 0, none⟩ = some (.int .i64 0) := Blk.cell P.1 0
      have c1 : wE.cell? ⟨w.heap.size + 1 + 1 + 1, 1, none⟩ = some (.int .i64 0) := Blk.cell P.1 1
      have c2 : wE.cell? ⟨w.heap.size + 1 + 1 + 1, 2, none⟩ = some (.slice none 0 0) := Blk.cell P.1 2
      refine bodyPost_ret (v := .tuple #[.agg #[.int .i64 0, .int .i64 0, .slice none 0 0], .int .i64 3]) (by simp [results, Tryz.results65, go_sem, c0, c1, c2]) rfl ?_
      exact ⟨none, 0, w.heap.size, rfl, Nat.le_refl _, Or.inl rfl, Nat.le_refl _, Blk.keep u2 P.2 (by have := unhide lU; omega), m2.new P.2 (by omega)⟩
  · have RF := hide (refuse2 U c0 n0 ⟨hn.1, by omega⟩ R1 C1 a1 l1 p1 R2 C2 a2 l2 p2 (w.heap.size + 1 + 1 + 1 + 1) 3 (Or.inr ⟨ho, rfl⟩) _ hu bx (by omega))
    clear G s5 ba bb bo br bx h hu hlt hb ho hn
    go_enter Tryz.func65, Tryz.ntmps65
    go_wp2_with fail
    generalize (((((w.alloc (.cells #[.int .i64 R1, .int .i64 C1, .slice a1 l1 p1] 24)).alloc (.cells #[.int .i64 R2, .int .i64 C2, .slice a2 l2 p2] 24)).alloc (.cells #[.func (.func F) #[] #[.pointer (some ⟨Q, 0, none⟩)]] 86)).alloc (.cells #[.int .i64 0, .int .i64 0, .slice none 0 0] 24)).alloc (.cells #[.int .i64 R1, .int .i64 C1, .slice a1 l1 p1, .int .i64 R2, .int .i64 C2, .slice a2 l2 p2] 24)) = w1 at *
    refine (unhide RF).mono ?_
    rintro e w2 ⟨rfl, u2, m2⟩
    have b3 := Blk.keep (unhide HB).2.2 m2 (by have := unhide lU; omega)
    have e0 : w2.cell? ⟨w.heap.size + 1 + 1 + 1, 0, none⟩ = some (.int .i64 0) := Blk.cell b3 0
    have e1 : w2.cell? ⟨w.heap.size + 1 + 1 + 1, 1, none⟩ = some (.int .i64 0) := Blk.cell b3 1
    have e2 : w2.cell? ⟨w.heap.size + 1 + 1 + 1, 2, none⟩ = some (.slice none 0 0) := Blk.cell b3 2
    have f := Blk.free b3
    have R := hide (And.intro b3 (And.intro u2 (Mk.of ((Mod.of (unhide HG)).trans m2))))
    clear b3 u2 m2 RF
    go_wp2
    obtain ⟨b3, u2, m2⟩ := unhide R
    have P := putM b3 (.int .i64 0) (.int .i64 0) (.slice none 0 0)
    generalize (((w2.setCell ⟨w.heap.size + 1 + 1 + 1, 0, none⟩ (.int .i64 0)).setCell ⟨w.heap.size + 1 + 1 + 1, 1, none⟩ (.int .i64 0)).setCell ⟨w.heap.size + 1 + 1 + 1, 2, none⟩ (.slice none 0 0)) = wE at *
    have c0 : wE.cell? ⟨w.heap.size + 1 + 1 + 1, 0, none⟩ = some (.int .i64 0) := Blk.cell P.1 0
    have c1 : wE.cell? ⟨w.heap.size + 1 + 1 + 1, 1, none⟩ = some (.int .i64 0) := Blk.cell P.1 1
    have c2 : wE.cell? ⟨w.heap.size + 1 + 1 + 1, 2, none⟩ = some (.slice none 0 0) := Blk.cell P.1 2
    refine bodyPost_ret (v := .tuple #[.agg #[.int .i64 0, .int .i64 0, .slice none 0 0], .int .i64 3]) (by simp [results, Tryz.results65, go_sem, c0, c1, c2]) rfl ?_
    exact ⟨none, 0, w.heap.size, rfl, Nat.le_refl _, Or.inl rfl, Nat.le_refl _, Blk.keep u2 P.2 (by have := unhide lU; omega), m2.new P.2 (by omega)⟩

set_option maxHeartbeats 2000000 in
theorem matReckonP_none (p : Option Addr) (Q F : Nat) (R1 C1 R2 C2 : Int) (a1 a2 : Option Addr) (l1 p1 l2 p2 : Nat) (Z : Nat → Int) (w : World) (h : NU p w) :
    Calls Tryz.prog 65 #[.pointer p, .agg #[.int .i64 R1, .int .i64 C1, .slice a1 l1 p1], .agg #[.int .i64 R2, .int .i64 C2, .slice a2 l2 p2], .func (.func F) #[] #[.pointer (some ⟨Q, 0, none⟩)]] w fun e w' => MatP 0 0 0 Z 1 (Kp w) w e w' := by
  obtain ⟨G, s5, ba, bb, bo, br, bx⟩ := alloc5 w #[.int .i64 R1, .int .i64 C1, .slice a1 l1 p1] 24 #[.int .i64 R2, .int .i64 C2, .slice a2 l2 p2] 24 #[.func (.func F) #[] #[.pointer (some ⟨Q, 0, none⟩)]] 86 #[.int .i64 0, .int .i64 0, .slice none 0 0] 24 #[.int .i64 R1, .int .i64 C1, .slice a1 l1 p1, .int .i64 R2, .int .i64 C2, .slice a2 l2 p2] 24
  have HB := hide br
  have HG := hide G
  have RF := hide (fun s => refuseNone p s _ (h.grown G))
  clear G s5 ba bb bo br bx h
  go_enter Tryz.func65, Tryz.ntmps65
  go_wp2_with fail
  generalize (((((w.alloc (.cells #[.int .i64 R1, .int .i64 C1, .slice a1 l1 p1] 24)).alloc (.cells #[.int .i64 R2, .int .i64 C2, .slice a2 l2 p2] 24)).alloc (.cells #[.func (.func F) #[] #[.pointer (some ⟨Q, 0, none⟩)]] 86)).alloc (.cells #[.int .i64 0, .int .i64 0, .slice none 0 0] 24)).alloc (.cells #[.int .i64 R1, .int .i64 C1, .slice a1 l1 p1, .int .i64 R2, .int .i64 C2, .slice a2 l2 p2] 24)) = w1 at *
  refine (unhide RF _).mono ?_
  rintro e w2 ⟨rfl, rfl⟩
  have e0 : w2.cell? ⟨w.heap.size + 1 + 1 + 1, 0, none⟩ = some (.int .i64 0) := Blk.cell (unhide HB) 0
  have e1 : w2.cell? ⟨w.heap.size + 1 + 1 + 1, 1, none⟩ = some (.int .i64 0) := Blk.cell (unhide HB) 1
  have e2 : w2.cell? ⟨w.heap.size + 1 + 1 + 1, 2, none⟩ = some (.slice none 0 0) := Blk.cell (unhide HB) 2
  have f := Blk.free (unhide HB)
  clear RF
  go_wp2
  have b3 := unhide HB
  have P := putM b3 (.int .i64 0) (.int .i64 0) (.slice none 0 0)
  generalize (((w2.setCell ⟨w.heap.size + 1 + 1 + 1, 0, none⟩ (.int .i64 0)).setCell ⟨w.heap.size + 1 + 1 + 1, 1, none⟩ (.int .i64 0)).setCell ⟨w.heap.size + 1 + 1 + 1, 2, none⟩ (.slice none 0 0)) = wE at *
  have c0 : wE.cell? ⟨w.heap.size + 1 + 1 + 1, 0, none⟩ = some (.int .i64 0) := Blk.cell P.1 0
  have c1 : wE.cell? ⟨w.heap.size + 1 + 1 + 1, 1, none⟩ = some (.int .i64 0) := Blk.cell P.1 1
  have c2 : wE.cell? ⟨w.heap.size + 1 + 1 + 1, 2, none⟩ = some (.slice none 0 0) := Blk.cell P.1 2
  refine bodyPost_ret (v := .tuple #[.agg #[.int .i64 0, .int .i64 0, .slice none 0 0], .int .i64 1]) (by simp [results, Tryz.results65, go_sem, c0, c1, c2]) rfl ?_
  exact ⟨none, 0, w.heap.size, rfl, Nat.le_refl _, Or.inl rfl, Nat.le_refl _, (Kp.of (unhide HG)).mod P.2 (by omega)⟩


set_option maxHeartbeats 2000000 in
theorem matSum_ok (U : Nat) (c0 : Bool) (n0 : Int) (hn : 0 ≤ n0 ∧ n0 < 1152921504606846976) (r c b o cap b2 o2 cap2 : Nat) (A B : Nat → Int) (hr : 1 ≤ r ∧ r ≤ 12) (hc : 1 ≤ c ∧ c ≤ 12) (hA : ∀ j, j < r * c → I64 (A j)) (hB : ∀ j, j < r * c → I64 (B j)) (w : World) (h : UC U c0 n0 w)
    (za : ∀ j, j < r * c → w.cell? ⟨b, o + j, none⟩ = some (.int .i64 (A j))) (zb : ∀ j, j < r * c → w.cell? ⟨b2, o2 + j, none⟩ = some (.int .i64 (B j))) (n4 : b ≠ U) (n5 : b2 ≠ U) :
    Calls Tryz.prog 38 #[.pointer (some ⟨U, 0, none⟩), .agg #[.int .i64 r, .int .i64 c, .slice (some ⟨b, o, none⟩) (r * c) cap], .agg #[.int .i64 r, .int .i64 c, .slice (some ⟨b2, o2, none⟩) (r * c) cap2]] w fun e w' => MatP r c (r * c) (fun p => s2N (A p) (B p)) 0 (fun w' => UC U (c0 || orC (fun p => s2C (A p) (B p)) (r * c)) (n0 + 2 * ((r * c : Nat) : Int)) w' ∧ Mk U w w') w e w' := by
  have hlt := Blk.lt h
  obtain ⟨G, s3, x0, x1, x2⟩ := alloc3 w #[.int .i64 r, .int .i64 c, .slice (some ⟨b, o, none⟩) (r * c) cap] 24 #[.int .i64 r, .int .i64 c, .slice (some ⟨b2, o2, none⟩) (r * c) cap2] 24 #[.int .i64 0, .int .i64 0, .slice none 0 0] 24
  have RK := hide (matReckonM U 0 66 (enters_of Tryz.func66 (by kernel_rfl) rfl) s2N s2C 2 (by omega) (fun _ => True) (fun _ _ _ _ => trivial) c0 n0 hn r c b o cap b2 o2 cap2 A B hr hc hA hB _ (Blk.grown h G) trivial (fun cc nn x y wx bo hx hy hnn hbo hu _ hrow => addTwoM U x y cc nn bo 2 wx hx hy hnn hu hrow hbo) (fun j hj => gat G (za j hj)) (fun j hj => gat G (zb j hj)) n4 n5)
  have HB := hide x2
  have HG := hide (And.intro G (And.intro s3 hlt))
  obtain ⟨len, hlen⟩ : ∃ q, r * c = q := ⟨_, rfl⟩
  simp only [hlen] at RK HG HB
  rw [hlen]
  clear G s3 x0 x1 x2 h hlt za zb hA hB hr hc hlen n4 n5 hn
  go_enter Tryz.func38, Tryz.ntmps38
  go_wp2_with fail
  generalize (((w.alloc (.cells #[.int .i64 r, .int .i64 c, .slice (some ⟨b, o, none⟩) len cap] 24)).alloc (.cells #[.int .i64 r, .int .i64 c, .slice (some ⟨b2, o2, none⟩) len cap2] 24)).alloc (.cells #[.int .i64 0, .int .i64 0, .slice none 0 0] 24)) = w1 at *
  refine (unhide RK).mono ?_
  rintro e w5 ⟨ao, cp, Lb, rfl, h1, h3, h4, u5, mk5⟩
  have lU : Hid (U < w.heap.size) := (unhide HG).2.2
  have b3 : Blk (w.heap.size + 1 + 1) #[.int .i64 0, .int .i64 0, .slice none 0 0] 24 w5 := Blk.mk (unhide HB) mk5 (by have := unhide lU; omega)
  have e0 : w5.cell? ⟨w.heap.size + 1 + 1, 0, none⟩ = some (.int .i64 0) := Blk.cell b3 0
  have e1 : w5.cell? ⟨w.heap.size + 1 + 1, 1, none⟩ = some (.int .i64 0) := Blk.cell b3 1
  have e2 : w5.cell? ⟨w.heap.size + 1 + 1, 2, none⟩ = some (.slice none 0 0) := Blk.cell b3 2
  have f := Blk.free b3
  have R := hide (And.intro b3 (And.intro h1 (And.intro h3 (And.intro h4 (And.intro u5 mk5)))))
  clear b3 h1 h3 h4 u5 mk5 RK
  go_wp2
  obtain ⟨b3, h1, h3, h4, u5, mk5⟩ := unhide R
  have P := putM b3 (.int .i64 r) (.int .i64 c) (.slice ao len cp)
  generalize (((w5.setCell ⟨w.heap.size + 1 + 1, 0, none⟩ (.int .i64 r)).setCell ⟨w.heap.size + 1 + 1, 1, none⟩ (.int .i64 c)).setCell ⟨w.heap.size + 1 + 1, 2, none⟩ (.slice ao len cp)) = wE at *
  have c0 : wE.cell? ⟨w.heap.size + 1 + 1, 0, none⟩ = some (.int .i64 r) := Blk.cell P.1 0
  have c1 : wE.cell? ⟨w.heap.size + 1 + 1, 1, none⟩ = some (.int .i64 c) := Blk.cell P.1 1
  have c2 : wE.cell? ⟨w.heap.size + 1 + 1, 2, none⟩ = some (.slice ao len cp) := Blk.cell P.1 2
  refine bodyPost_ret (v := .tuple #[.agg #[.int .i64 r, .int .i64 c, .slice ao len cp], .int .i64 0]) (by simp [results, Tryz.results38, go_sem, c0, c1, c2]) rfl ?_
  have hu := unhide lU
  have hs := (unhide HG).2.1
  have mw : Mk U w w5 := (Mk.of (Mod.of (unhide HG).1)).trans mk5
  exact ⟨_, _, Lb, rfl, by omega, h3.imp id (fun h => ⟨h.1, Blk.keep h.2 P.2 (by omega)⟩), h4, Blk.keep u5 P.2 (by omega), mw.new P.2 (by omega)⟩

set_option maxHeartbeats 2000000 in
theorem matSum_bad (U : Nat) (c0 : Bool) (n0 : Int) (hn : 0 ≤ n0 ∧ n0 < 1152921504606846976) (R1 C1 R2 C2 : Int) (a1 a2 : Option Addr) (l1 p1 l2 p2 : Nat) (Z : Nat → Int) (hb : ¬ (okM R1 C1 l1 ∧ okM R2 C2 l2 ∧ R1 = R2 ∧ C1 = C2)) (w : World) (h : UC U c0 n0 w) :
    Calls Tryz.prog 38 #[.pointer (some ⟨U, 0, none⟩), .agg #[.int .i64 R1, .int .i64 C1, .slice a1 l1 p1], .agg #[.int .i64 R2, .int .i64 C2, .slice a2 l2 p2]] w fun e w' => MatP 0 0 0 Z 3 (fun w' => UC U c0 n0 w' ∧ Mk U w w') w e w' := by
  have hlt := Blk.lt h
  obtain ⟨G, s3, x0, x1, x2⟩ := alloc3 w #[.int .i64 R1, .int .i64 C1, .slice a1 l1 p1] 24 #[.int .i64 R2, .int .i64 C2, .slice a2 l2 p2] 24 #[.int .i64 0, .int .i64 0, .slice none 0 0] 24
  have RK := hide (matReckonM_bad U 0 66 c0 n0 hn R1 C1 R2 C2 a1 a2 l1 p1 l2 p2 Z hb _ (Blk.grown h G))
  have HB := hide x2
  have HG := hide (And.intro G (And.intro s3 hlt))
  clear G s3 x0 x1 x2 h hlt hb hn
  go_enter Tryz.func38, Tryz.ntmps38
  go_wp2_with fail
  generalize (((w.alloc (.cells #[.int .i64 R1, .int .i64 C1, .slice a1 l1 p1] 24)).alloc (.cells #[.int .i64 R2, .int .i64 C2, .slice a2 l2 p2] 24)).alloc (.cells #[.int .i64 0, .int .i64 0, .slice none 0 0] 24)) = w1 at *
  refine (unhide RK).mono ?_
  rintro e w5 ⟨ao, cp, Lb, rfl, h1, h3, h4, u5, mk5⟩
  have lU : Hid (U < w.heap.size) := (unhide HG).2.2
  have b3 : Blk (w.heap.size + 1 + 1) #[.int .i64 0, .int .i64 0, .slice none 0 0] 24 w5 := Blk.mk (unhide HB) mk5 (by have := unhide lU; omega)
  have e0 : w5.cell? ⟨w.heap.size + 1 + 1, 0, none⟩ = some (.int .i64 0) := Blk.cell b3 0
  have e1 : w5.cell? ⟨w.heap.size + 1 + 1, 1, none⟩ = some (.int .i64 0) := Blk.cell b3 1
  have e2 : w5.cell? ⟨w.heap.size + 1 + 1, 2, none⟩ = some (.slice none 0 0) := Blk.cell b3 2
  have f := Blk.free b3
  have R := hide (And.intro b3 (And.intro h1 (And.intro h3 (And.intro h4 (And.intro u5 mk5)))))
  clear b3 h1 h3 h4 u5 mk5 RK
  go_wp2
  obtain ⟨b3, h1, h3, h4, u5, mk5⟩ := unhide R
  have P := putM b3 (.int .i64 0) (.int .i64 0) (.slice ao 0 cp)
  generalize (((w5.setCell ⟨w.heap.size + 1 + 1, 0, none⟩ (.int .i64 0)).setCell ⟨w.heap.size + 1 + 1, 1, none⟩ (.int .i64 0)).setCell ⟨w.heap.size + 1 + 1, 2, none⟩ (.slice ao 0 cp)) = wE at *
  have c0 : wE.cell? ⟨w.heap.size + 1 + 1, 0, none⟩ = some (.int .i64 0) := Blk.cell P.1 0
  have c1 : wE.cell? ⟨w.heap.size + 1 + 1, 1, none⟩ = some (.int .i64 0) := Blk.cell P.1 1
  have c2 : wE.cell? ⟨w.heap.size + 1 + 1, 2, none⟩ = some (.slice ao 0 cp) := Blk.cell P.1 2
  refine bodyPost_ret (v := .tuple #[.agg #[.int .i64 0, .int .i64 0, .slice ao 0 cp], .int .i64 3]) (by simp [results, Tryz.results38, go_sem, c0, c1, c2]) rfl ?_
  have hu := unhide lU
  have mw : Mk U w w5 := (Mk.of (Mod.of (unhide HG).1)).trans mk5
  exact ⟨_, _, w.heap.size, rfl, Nat.le_refl _, Or.inl rfl, Nat.zero_le _, Blk.keep u5 P.2 (by omega), mw.new P.2 (by omega)⟩

set_option maxHeartbeats 2000000 in
theorem matSum_none (p : Option Addr) (R1 C1 R2 C2 : Int) (a1 a2 : Option Addr) (l1 p1 l2 p2 : Nat) (Z : Nat → Int) (w : World) (h : NU p w) :
    Calls Tryz.prog 38 #[.pointer p, .agg #[.int .i64 R1, .int .i64 C1, .slice a1 l1 p1], .agg #[.int .i64 R2, .int .i64 C2, .slice a2 l2 p2]] w fun e w' => MatP 0 0 0 Z 1 (Kp w) w e w' := by
  obtain ⟨G, s3, x0, x1, x2⟩ := alloc3 w #[.int .i64 R1, .int .i64 C1, .slice a1 l1 p1] 24 #[.int .i64 R2, .int .i64 C2, .slice a2 l2 p2] 24 #[.int .i64 0, .int .i64 0, .slice none 0 0] 24
  have RK := hide (matReckonM_none p 0 66 R1 C1 R2 C2 a1 a2 l1 p1 l2 p2 Z _ (h.grown G))
  have HB := hide x2
  have HG := hide G
  clear G s3 x0 x1 x2 h
  go_enter Tryz.func38, Tryz.ntmps38
  go_wp2_with fail
  generalize (((w.alloc (.cells #[.int .i64 R1, .int .i64 C1, .slice a1 l1 p1] 24)).alloc (.cells #[.int .i64 R2, .int .i64 C2, .slice a2 l2 p2] 24)).alloc (.cells #[.int .i64 0, .int .i64 0, .slice none 0 0] 24)) = w1 at *
  refine (unhide RK).mono ?_
  rintro e w5 ⟨ao, cp, Lb, rfl, h1, h3, h4, k5⟩
  have b3 : Blk (w.heap.size + 1 + 1) #[.int .i64 0, .int .i64 0, .slice none 0 0] 24 w5 := Blk.kp (unhide HB) k5
  have e0 : w5.cell? ⟨w.heap.size + 1 + 1, 0, none⟩ = some (.int .i64 0) := Blk.cell b3 0
  have e1 : w5.cell? ⟨w.heap.size + 1 + 1, 1, none⟩ = some (.int .i64 0) := Blk.cell b3 1
  have e2 : w5.cell? ⟨w.heap.size + 1 + 1, 2, none⟩ = some (.slice none 0 0) := Blk.cell b3 2
  have f := Blk.free b3
  have R := hide (And.intro b3 k5)
  clear b3 h1 h3 h4 k5 RK
  go_wp2
  obtain ⟨b3, k5⟩ := unhide R
  have P := putM b3 (.int .i64 0) (.int .i64 0) (.slice ao 0 cp)
  generalize (((w5.setCell ⟨w.heap.size + 1 + 1, 0, none⟩ (.int .i64 0)).setCell ⟨w.heap.size + 1 + 1, 1, none⟩ (.int .i64 0)).setCell ⟨w.heap.size + 1 + 1, 2, none⟩ (.slice ao 0 cp)) = wE at *
  have c0 : wE.cell? ⟨w.heap.size + 1 + 1, 0, none⟩ = some (.int .i64 0) := Blk.cell P.1 0
  have c1 : wE.cell? ⟨w.heap.size + 1 + 1, 1, none⟩ = some (.int .i64 0) := Blk.cell P.1 1
  have c2 : wE.cell? ⟨w.heap.size + 1 + 1, 2, none⟩ = some (.slice ao 0 cp) := Blk.cell P.1 2
  refine bodyPost_ret (v := .tuple #[.agg #[.int .i64 0, .int .i64 0, .slice ao 0 cp], .int .i64 1]) (by simp [results, Tryz.results38, go_sem, c0, c1, c2]) rfl ?_
  exact ⟨_, _, w.heap.size, rfl, Nat.le_refl _, Or.inl rfl, Nat.zero_le _, ((Kp.of (unhide HG)).trans k5).mod P.2 (by omega)⟩


set_option maxHeartbeats 2000000 in
theorem matScale_ok (U : Nat) (c0 : Bool) (n0 s : Int) (hs : I64 s) (hn : 0 ≤ n0 ∧ n0 < 1152921504606846976) (r c b o cap : Nat) (A : Nat → Int) (hr : 1 ≤ r ∧ r ≤ 12) (hc : 1 ≤ c ∧ c ≤ 12) (hA : ∀ j, j < r * c → I64 (A j)) (w : World) (h : UC U c0 n0 w) (za : ∀ j, j < r * c → w.cell? ⟨b, o + j, none⟩ = some (.int .i64 (A j))) (n4 : b ≠ U) :
    Calls Tryz.prog 37 #[.pointer (some ⟨U, 0, none⟩), .agg #[.int .i64 r, .int .i64 c, .slice (some ⟨b, o, none⟩) (r * c) cap], .int .i64 s] w fun e w' => MatP r c (r * c) (fun p => m2N (A p) s) 0 (fun w' => UC U (c0 || orC (fun p => m2C (A p) s) (r * c)) (n0 + 2 * ((r * c : Nat) : Int)) w' ∧ Mk U w w') w e w' := by
  have hlt := Blk.lt h
  obtain ⟨G, s5, bu, ba, bs, br, bx⟩ := alloc5 w #[.pointer (some ⟨U, 0, none⟩)] 25 #[.int .i64 r, .int .i64 c, .slice (some ⟨b, o, none⟩) (r * c) cap] 24 #[.int .i64 s] 3 #[.int .i64 0, .int .i64 0, .slice none 0 0] 24 #[.int .i64 r, .int .i64 c, .slice (some ⟨b, o, none⟩) (r * c) cap] 24
  have RF := hide (refuse1 U c0 n0 ⟨hn.1, by omega⟩ r c (some ⟨b, o, none⟩) (r * c) cap (w.heap.size + 1 + 1 + 1 + 1) 0 (Or.inl ⟨⟨by omega, by omega, by rw [Int.natCast_mul]⟩, rfl⟩) _ (Blk.grown h G) bx (by omega))
  have MD : Hid (∀ wx, Mk U w wx → UC U c0 n0 wx → Blk w.heap.size #[.pointer (some ⟨U, 0, none⟩)] 25 wx → Blk (w.heap.size + 1) #[.int .i64 r, .int .i64 c, .slice (some ⟨b, o, none⟩) (r * c) cap] 24 wx → Blk (w.heap.size + 1 + 1) #[.int .i64 s] 3 wx →
      Calls Tryz.prog 61 #[.int .i64 r, .int .i64 c, .func (.func 62) #[] #[.pointer (some ⟨w.heap.size, 0, none⟩), .pointer (some ⟨w.heap.size + 1, 0, none⟩), .pointer (some ⟨w.heap.size + 1 + 1, 0, none⟩)]] wx fun e w' => MadeP r c (fun p => m2N (A p) s) (fun w' => UC U (c0 || orC (fun p => m2C (A p) s) (r * c)) (n0 + 2 * ((r * c : Nat) : Int)) w' ∧ Mk U wx w') wx e w') := by
    intro wx mx ux xu xa xs
    refine madeU U c0 n0 2 (by omega) (fun p => m2C (A p) s) 62 (enters_of Tryz.func62 (by kernel_rfl) rfl) _ r c hr hc (fun p => m2N (A p) s) wx hn ux (fun cc nn i k a hi hk hnn ua ma => ?_)
    exact scale1 U cc nn hnn r c i k b o cap w.heap.size (w.heap.size + 1) (w.heap.size + 1 + 1) s A hr hc hi hk hs hA a ua (Blk.mk xu ma (by omega)) (Blk.mk xa ma (by omega)) (Blk.mk xs ma (by omega)) (fun j hj => ma.cell (mx.cell (za j hj) n4) n4) (by omega) (by omega) (by omega) n4
  have HB := hide (And.intro bu (And.intro ba (And.intro bs br)))
  have HG := hide (And.intro G (And.intro s5 hlt))
  obtain ⟨len, hlen⟩ : ∃ q, r * c = q := ⟨_, rfl⟩
  simp only [hlen] at RF HG HB MD
  rw [hlen]
  have HL := hide hlen
  clear G s5 bu ba bs br bx h hlt za hA hr hc hlen n4 hn hs
  go_enter Tryz.func37, Tryz.ntmps37
  go_wp2_with fail
  generalize (((((w.alloc (.cells #[.pointer (some ⟨U, 0, none⟩)] 25)).alloc (.cells #[.int .i64 r, .int .i64 c, .slice (some ⟨b, o, none⟩) len cap] 24)).alloc (.cells #[.int .i64 s] 3)).alloc (.cells #[.int .i64 0, .int .i64 0, .slice none 0 0] 24)).alloc (.cells #[.int .i64 r, .int .i64 c, .slice (some ⟨b, o, none⟩) len cap] 24)) = w1 at *
  refine (unhide RF).mono ?_
  rintro e w2 ⟨rfl, u2, m2⟩
  have M2 : Hid (Mk U w w2) := Mk.of ((Mod.of (unhide HG).1).trans m2)
  have Z2 : Hid (w.heap.size + 1 + 1 + 1 + 1 + 1 ≤ w2.heap.size) := by have := (unhide HG).2.1; have := m2.2.2.2.2; show _ ≤ _; omega
  obtain ⟨bu, ba, bs, br⟩ := unhide HB
  have lU : Hid (U < w.heap.size) := (unhide HG).2.2
  have bu2 := Blk.keep bu m2 (by have := unhide lU; omega)
  have ba2 := Blk.keep ba m2 (by have := unhide lU; omega)
  have bs2 := Blk.keep bs m2 (by have := unhide lU; omega)
  have br2 := Blk.keep br m2 (by have := unhide lU; omega)
  have p0 : w2.cell? ⟨w.heap.size + 1, 0, none⟩ = some (.int .i64 r) := Blk.cell ba2 0
  have p1 : w2.cell? ⟨w.heap.size + 1, 1, none⟩ = some (.int .i64 c) := Blk.cell ba2 1
  have M4 := hide (unhide MD w2 (unhide M2) u2 bu2 ba2 bs2)
  have HR := hide br2
  clear bu ba bs br bu2 ba2 bs2 br2 u2 m2 RF HB MD
  go_wp2_with fail
  refine (unhide M4).mono ?_
  rintro e w5 ⟨Lb, h1, rfl, h3, u5, mk5⟩
  have b3 : Blk (w.heap.size + 1 + 1 + 1) #[.int .i64 0, .int .i64 0, .slice none 0 0] 24 w5 := Blk.mk (unhide HR) mk5 (by have := unhide lU; omega)
  have e0 : w5.cell? ⟨w.heap.size + 1 + 1 + 1, 0, none⟩ = some (.int .i64 0) := Blk.cell b3 0
  have e1 : w5.cell? ⟨w.heap.size + 1 + 1 + 1, 1, none⟩ = some (.int .i64 0) := Blk.cell b3 1
  have e2 : w5.cell? ⟨w.heap.size + 1 + 1 + 1, 2, none⟩ = some (.slice none 0 0) := Blk.cell b3 2
  have f := Blk.free b3
  have R := hide (And.intro b3 (And.intro h1 (And.intro h3 (And.intro u5 mk5))))
  clear b3 h1 h3 u5 mk5 M4 p0 p1
  go_wp2
  obtain ⟨b3, h1, h3, u5, mk5⟩ := unhide R
  have P := putM b3 (.int .i64 r) (.int .i64 c) (.slice (some ⟨Lb, 0, none⟩) (r * c) (r * c))
  generalize (((w5.setCell ⟨w.heap.size + 1 + 1 + 1, 0, none⟩ (.int .i64 r)).setCell ⟨w.heap.size + 1 + 1 + 1, 1, none⟩ (.int .i64 c)).setCell ⟨w.heap.size + 1 + 1 + 1, 2, none⟩ (.slice (some ⟨Lb, 0, none⟩) (r * c) (r * c))) = wE at *
  have c0 : wE.cell? ⟨w.heap.size + 1 + 1 + 1, 0, none⟩ = some (.int .i64 r) := Blk.cell P.1 0
  have c1 : wE.cell? ⟨w.heap.size + 1 + 1 + 1, 1, none⟩ = some (.int .i64 c) := Blk.cell P.1 1
  have c2 : wE.cell? ⟨w.heap.size + 1 + 1 + 1, 2, none⟩ = some (.slice (some ⟨Lb, 0, none⟩) (r * c) (r * c)) := Blk.cell P.1 2
  refine bodyPost_ret (v := .tuple #[.agg #[.int .i64 r, .int .i64 c, .slice (some ⟨Lb, 0, none⟩) (r * c) (r * c)], .int .i64 0]) (by simp [results, Tryz.results37, go_sem, c0, c1, c2]) rfl ?_
  have hz := unhide Z2
  have hu := unhide lU
  have mw := unhide M2
  have hl' := unhide HL
  subst hl'
  exact ⟨_, _, Lb, rfl, by omega, Or.inr ⟨rfl, Blk.keep h3 P.2 (by omega)⟩, Nat.le_refl _, Blk.keep u5 P.2 (by omega), (mw.trans mk5).new P.2 (by omega)⟩

set_option maxHeartbeats 2000000 in
theorem matScale_bad (U : Nat) (c0 : Bool) (n0 s : Int) (hn : 0 ≤ n0 ∧ n0 < 1152921504606846976) (R1 C1 : Int) (a1 : Option Addr) (l1 p1 : Nat) (Z : Nat → Int) (ho : ¬ okM R1 C1 l1) (w : World) (h : UC U c0 n0 w) :
    Calls Tryz.prog 37 #[.pointer (some ⟨U, 0, none⟩), .agg #[.int .i64 R1, .int .i64 C1, .slice a1 l1 p1], .int .i64 s] w fun e w' => MatP 0 0 0 Z 3 (fun w' => UC U c0 n0 w' ∧ Mk U w w') w e w' := by
  have hlt := Blk.lt h
  obtain ⟨G, s5, bu, ba, bs, br, bx⟩ := alloc5 w #[.pointer (some ⟨U, 0, none⟩)] 25 #[.int .i64 R1, .int .i64 C1, .slice a1 l1 p1] 24 #[.int .i64 s] 3 #[.int .i64 0, .int .i64 0, .slice none 0 0] 24 #[.int .i64 R1, .int .i64 C1, .slice a1 l1 p1] 24
  have lU : Hid (U < w.heap.size) := hlt
  have RF := hide (refuse1 U c0 n0 ⟨hn.1, by omega⟩ R1 C1 a1 l1 p1 (w.heap.size + 1 + 1 + 1 + 1) 3 (Or.inr ⟨ho, rfl⟩) _ (Blk.grown h G) bx (by omega))
  have HB := hide br
  have HG := hide G
  clear G s5 bu ba bs br bx h hlt ho hn
  go_enter Tryz.func37, Tryz.ntmps37
  go_wp2_with fail
  generalize (((((w.alloc (.cells #[.pointer (some ⟨U, 0, none⟩)] 25)).alloc (.cells #[.int .i64 R1, .int .i64 C1, .slice a1 l1 p1] 24)).alloc (.cells #[.int .i64 s] 3)).alloc (.cells #[.int .i64 0, .int .i64 0, .slice none 0 0] 24)).alloc (.cells #[.int .i64 R1, .int .i64 C1, .slice a1 l1 p1] 24)) = w1 at *
  refine (unhide RF).mono ?_
  rintro e w2 ⟨rfl, u2, m2⟩
  have b3 := Blk.keep (unhide HB) m2 (by have := unhide lU; omega)
  have e0 : w2.cell? ⟨w.heap.size + 1 + 1 + 1, 0, none⟩ = some (.int .i64 0) := Blk.cell b3 0
  have e1 : w2.cell? ⟨w.heap.size + 1 + 1 + 1, 1, none⟩ = some (.int .i64 0) := Blk.cell b3 1
  have e2 : w2.cell? ⟨w.heap.size + 1 + 1 + 1, 2, none⟩ = some (.slice none 0 0) := Blk.cell b3 2
  have f := Blk.free b3
  have R := hide (And.intro b3 (And.intro u2 (Mk.of ((Mod.of (unhide HG)).trans m2))))
  clear b3 u2 m2 RF
  go_wp2
  obtain ⟨b3, u2, m2⟩ := unhide R
  have P := putM b3 (.int .i64 0) (.int .i64 0) (.slice none 0 0)
  generalize (((w2.setCell ⟨w.heap.size + 1 + 1 + 1, 0, none⟩ (.int .i64 0)).setCell ⟨w.heap.size + 1 + 1 + 1, 1, none⟩ (.int .i64 0)).setCell ⟨w.heap.size + 1 + 1 + 1, 2, none⟩ (.slice none 0 0)) = wE at *
  have c0 : wE.cell? ⟨w.heap.size + 1 + 1 + 1, 0, none⟩ = some (.int .i64 0) := Blk.cell P.1 0
  have c1 : wE.cell? ⟨w.heap.size + 1 + 1 + 1, 1, none⟩ = some (.int .i64 0) := Blk.cell P.1 1
  have c2 : wE.cell? ⟨w.heap.size + 1 + 1 + 1, 2, none⟩ = some (.slice none 0 0) := Blk.cell P.1 2
  refine bodyPost_ret (v := .tuple #[.agg #[.int .i64 0, .int .i64 0, .slice none 0 0], .int .i64 3]) (by simp [results, Tryz.results37, go_sem, c0, c1, c2]) rfl ?_
  exact ⟨none, 0, w.heap.size, rfl, Nat.le_refl _, Or.inl rfl, Nat.le_refl _, Blk.keep u2 P.2 (by have := unhide lU; omega), m2.new P.2 (by omega)⟩

set_option maxHeartbeats 2000000 in
theorem matScale_none (p : Option Addr) (s : Int) (R1 C1 : Int) (a1 : Option Addr) (l1 p1 : Nat) (Z : Nat → Int) (w : World) (h : NU p w) :
    Calls Tryz.prog 37 #[.pointer p, .agg #[.int .i64 R1, .int .i64 C1, .slice a1 l1 p1], .int .i64 s] w fun e w' => MatP 0 0 0 Z 1 (Kp w) w e w' := by
  obtain ⟨G, s5, bu, ba, bs, br, bx⟩ := alloc5 w #[.pointer p] 25 #[.int .i64 R1, .int .i64 C1, .slice a1 l1 p1] 24 #[.int .i64 s] 3 #[.int .i64 0, .int .i64 0, .slice none 0 0] 24 #[.int .i64 R1, .int .i64 C1, .slice a1 l1 p1] 24
  have HB := hide br
  have HG := hide G
  have RF := hide (fun s => refuseNone p s _ (h.grown G))
  clear G s5 bu ba bs br bx h
  go_enter Tryz.func37, Tryz.ntmps37
  go_wp2_with fail
  generalize (((((w.alloc (.cells #[.pointer p] 25)).alloc (.cells #[.int .i64 R1, .int .i64 C1, .slice a1 l1 p1] 24)).alloc (.cells #[.int .i64 s] 3)).alloc (.cells #[.int .i64 0, .int .i64 0, .slice none 0 0] 24)).alloc (.cells #[.int .i64 R1, .int .i64 C1, .slice a1 l1 p1] 24)) = w1 at *
  refine (unhide RF _).mono ?_
  rintro e w2 ⟨rfl, rfl⟩
  have e0 : w2.cell? ⟨w.heap.size + 1 + 1 + 1, 0, none⟩ = some (.int .i64 0) := Blk.cell (unhide HB) 0
  have e1 : w2.cell? ⟨w.heap.size + 1 + 1 + 1, 1, none⟩ = some (.int .i64 0) := Blk.cell (unhide HB) 1
  have e2 : w2.cell? ⟨w.heap.size + 1 + 1 + 1, 2, none⟩ = some (.slice none 0 0) := Blk.cell (unhide HB) 2
  have f := Blk.free (unhide HB)
  clear RF
  go_wp2
  have b3 := unhide HB
  have P := putM b3 (.int .i64 0) (.int .i64 0) (.slice none 0 0)
  generalize (((w2.setCell ⟨w.heap.size + 1 + 1 + 1, 0, none⟩ (.int .i64 0)).setCell ⟨w.heap.size + 1 + 1 + 1, 1, none⟩ (.int .i64 0)).setCell ⟨w.heap.size + 1 + 1 + 1, 2, none⟩ (.slice none 0 0)) = wE at *
  have c0 : wE.cell? ⟨w.heap.size + 1 + 1 + 1, 0, none⟩ = some (.int .i64 0) := Blk.cell P.1 0
  have c1 : wE.cell? ⟨w.heap.size + 1 + 1 + 1, 1, none⟩ = some (.int .i64 0) := Blk.cell P.1 1
  have c2 : wE.cell? ⟨w.heap.size + 1 + 1 + 1, 2, none⟩ = some (.slice none 0 0) := Blk.cell P.1 2
  refine bodyPost_ret (v := .tuple #[.agg #[.int .i64 0, .int .i64 0, .slice none 0 0], .int .i64 1]) (by simp [results, Tryz.results37, go_sem, c0, c1, c2]) rfl ?_
  exact ⟨none, 0, w.heap.size, rfl, Nat.le_refl _, Or.inl rfl, Nat.le_refl _, (Kp.of (unhide HG)).mod P.2 (by omega)⟩


end Go.Proofs.YtopaakjildmjcaaGreat

/- The laws' helper awake: some of the chapter's examples. -/
namespace Go.Proofs.YtopaakjildmjcaaGreat
open Go.RowKit Go.Shelf Go.Proofs.Wd
set_option linter.unusedVariables false
set_option linter.unusedSimpArgs false
set_option maxRecDepth 10000

/-- A list of whole numbers, as it is written, times One. -/
def oneL (l : List Int) : Nat → Int := fun i => ix l i * 4294967296
theorem lits_small {l : List Int} (h : ∀ x ∈ l, -1000000 ≤ x ∧ x ≤ 1000000) : ∀ i, i < l.length → -1000000 ≤ ix l i ∧ ix l i ≤ 1000000 := by
  intro i hi
  have : ix l i = l[i] := by simp [ix, hi]
  rw [this]
  exact h _ (List.getElem_mem _)
theorem oneL_I64 {l : List Int} (h : ∀ x ∈ l, -1000000 ≤ x ∧ x ≤ 1000000) : ∀ i, i < l.length → I64 (oneL l i) := by
  intro i hi
  have := lits_small h i hi
  unfold oneL I64
  omega
theorem ok22 : okM 2 2 4 := ⟨⟨by omega, by omega⟩, ⟨by omega, by omega⟩, by decide⟩
theorem mul22 : ∀ i, i < 4 → mulZ (oneL [1, 2, 3, 4]) (oneL [0, 1, 1, 0]) 2 2 i = oneL [2, 1, 4, 3] i := by decide +kernel
theorem mul22c : (false || orC (mulG (oneL [1, 2, 3, 4]) (oneL [0, 1, 1, 0]) 2 2) 4) = false := by decide +kernel
theorem turn22 : ∀ i, i < 4 → turnZ (oneL [1, 2, 3, 4]) 2 2 i = oneL [1, 3, 2, 4] i := by decide +kernel

end Go.Proofs.YtopaakjildmjcaaGreat

/- Laws with one unit under way. -/
namespace Go.Proofs.YtopaakjildmjcaaGreat
open Go.RowKit Go.Shelf Go.Proofs.Wd
set_option linter.unusedVariables false
set_option linter.unusedSimpArgs false
set_option maxRecDepth 10000

/-- One unit, whose flag is P's, and that has done at most D operations; matrices in cells, lists. -/
def KS (w : World) (U : Nat) (P : Bool → Prop) (D : Int) (bx : List (Nat × Array Value)) (rows : List (Option Addr × Nat × (Nat → Int))) (wx : World) : Prop :=
  (∃ c n, P c ∧ 0 ≤ n ∧ n ≤ D ∧ UC U c n wx) ∧ LS w [U] bx rows wx
section
variable {w : World} {U : Nat} {P : Bool → Prop} {D : Int} {bx : List (Nat × Array Value)} {rows : List (Option Addr × Nat × (Nat → Int))} {wx w' : World}
theorem KS.kp (h : KS w U P D bx rows wx) (k : Kp wx w') : KS w U P D bx rows w' := let ⟨c, n, h1, h2, h3, h4⟩ := h.1; ⟨⟨c, n, h1, h2, h3, Blk.kp h4 k⟩, h.2.kp k⟩
theorem KS.box (h : KS w U P D bx rows wx) (cs : Array Value) : KS w U P D ((wx.heap.size, cs) :: bx) rows (wx.alloc (.cells cs 24)) :=
  let ⟨c, n, h1, h2, h3, h4⟩ := h.1; ⟨⟨c, n, h1, h2, h3, Blk.grown h4 ((Grown.refl _).alloc _ _)⟩, h.2.box cs⟩
theorem KS.cells (h : KS w U P D bx rows wx) {b : Nat} {x y z : Value} (hb : (b, #[x, y, z]) ∈ bx) : wx.cell? ⟨b, 0, none⟩ = some x ∧ wx.cell? ⟨b, 1, none⟩ = some y ∧ wx.cell? ⟨b, 2, none⟩ = some z := ⟨h.2.cell hb 0, h.2.cell hb 1, h.2.cell hb 2⟩
theorem KS.row (h : KS w U P D bx rows wx) {ao : Option Addr} {len : Nat} {Z : Nat → Int} (hr : (ao, len, Z) ∈ rows) : Row wx ao len Z ∧ Off U len ao := ⟨(h.2.at hr).1, (h.2.at hr).2 U (by simp)⟩
theorem KS.congr {ao : Option Addr} {len : Nat} {Z Y : Nat → Int} (h : KS w U P D bx ((ao, len, Z) :: rows) wx) (hz : ∀ i, i < len → Z i = Y i) : KS w U P D bx ((ao, len, Y) :: rows) wx := ⟨h.1, h.2.congr hz⟩
/-- A list written out. -/
theorem KS.lit (h : KS w U P D bx rows wx) (l : List Int) : KS w U P D bx ((some ⟨wx.heap.size, 0, none⟩, l.length, ix l) :: rows) (wx.alloc (.cells (l.map (Value.int .i64)).toArray 3)) := by
  have k := h.kp (Kp.of ((Grown.refl wx).alloc (l.map (Value.int .i64)).toArray 3))
  refine ⟨k.1, k.2.row (row_lit (Blk.new wx _ _)) (fun e he => off_lit ?_)⟩
  have := (h.2.2.1 e he).2
  omega

/-- A matrix that the unit reckoned. -/
theorem KS.toldU {F : Nat} {args : Array Value} {r c err : Int} {len : Nat} {Z : Nat → Int} {G : Bool} {d : Int} (D' : Int) (h : KS w U P D bx rows wx) (hD : D ≤ 1000000000) (hd : 0 ≤ d ∧ D + d ≤ D') (hG : ∀ c, P c → P (c || G))
    (m : ∀ c0 n0, 0 ≤ n0 ∧ n0 < 1152921504606846976 → UC U c0 n0 wx → Calls Tryz.prog F args wx fun e w' => MatP r c len Z err (fun w' => UC U (c0 || G) (n0 + d) w' ∧ Mk U wx w') wx e w') :
    Calls Tryz.prog F args wx fun e w' => ∃ ao cap, e = .returned (.tuple #[.agg #[.int .i64 r, .int .i64 c, .slice ao len cap], .int .i64 err]) ∧ len ≤ cap ∧ KS w U P D' bx ((ao, len, Z) :: rows) w' := by
  obtain ⟨c0, n0, h1, h2, h3, h4⟩ := h.1
  refine (m c0 n0 ⟨h2, by omega⟩ h4).mono fun e w' hv => ?_
  have hx : UC U (c0 || G) (n0 + d) w' ∧ Mk U wx w' := let ⟨_, _, _, _, _, _, _, x⟩ := hv; x
  have t := h.2.mk (U := U) (by simp) hx.2
  obtain ⟨ao, cap, B, e1, e2, e3, e4, e5, _⟩ := h.2.told t hv
  exact ⟨ao, cap, e1, e2, ⟨_, _, hG _ h1, by omega, by omega, hx.1⟩, e5⟩
/-- A list that the unit reckoned. -/
theorem KS.listU {F : Nat} {args : Array Value} {err : Int} {len : Nat} {Z : Nat → Int} {G : Bool} {d : Int} (D' : Int) (h : KS w U P D bx rows wx) (hD : D ≤ 1000000000) (hd : 0 ≤ d ∧ D + d ≤ D') (hG : ∀ c, P c → P (c || G))
    (m : ∀ c0 n0, 0 ≤ n0 ∧ n0 < 1152921504606846976 → UC U c0 n0 wx → Calls Tryz.prog F args wx fun e w' => ListP len Z err (fun w' => UC U (c0 || G) (n0 + d) w' ∧ Mk U wx w') wx e w') :
    Calls Tryz.prog F args wx fun e w' => ∃ ao cap, e = .returned (.tuple #[.slice ao len cap, .int .i64 err]) ∧ len ≤ cap ∧ KS w U P D' bx ((ao, len, Z) :: rows) w' := by
  obtain ⟨c0, n0, h1, h2, h3, h4⟩ := h.1
  refine (m c0 n0 ⟨h2, by omega⟩ h4).mono fun e w' ⟨ao, cap, B, e1, e2, e3, e4, e5, e6⟩ => ?_
  have t := h.2.mk (U := U) (by simp) e6
  refine ⟨ao, cap, e1, e4, ⟨_, _, hG _ h1, by omega, by omega, e5⟩, t.row ?_ (fun e he => ?_)⟩
  · rcases e3 with rfl | ⟨rfl, hb⟩
    · exact Or.inl rfl
    · exact hb.row
  · rcases e3 with rfl | ⟨rfl, hb⟩
    · exact fun hl => absurd hl (Nat.lt_irrefl _)
    · exact off_blk (by have := (h.2.2.1 e he).2; omega)
/-- What no unit reckoned. -/
theorem KS.toldK {r c err : Int} {len : Nat} {Z : Nat → Int} {e : Ending} (h : KS w U P D bx rows wx) (hv : MatP r c len Z err (Kp wx) wx e w') : ∃ ao cap, e = .returned (.tuple #[.agg #[.int .i64 r, .int .i64 c, .slice ao len cap], .int .i64 err]) ∧ len ≤ cap ∧ KS w U P D bx ((ao, len, Z) :: rows) w' := by
  have hx : Kp wx w' := let ⟨_, _, _, _, _, _, _, x⟩ := hv; x
  have t := h.kp hx
  obtain ⟨ao, cap, B, e1, e2, e3, e4, e5, _⟩ := h.2.told t.2 hv
  exact ⟨ao, cap, e1, e2, t.1, e5⟩
theorem KS.rowK {err : Int} {len : Nat} {Z : Nat → Int} {e : Ending} (h : KS w U P D bx rows wx) (hv : RowP len Z err wx e w') : ∃ ao cap, e = .returned (.tuple #[.slice ao len cap, .int .i64 err]) ∧ KS w U P D bx ((ao, len, Z) :: rows) w' := by
  obtain ⟨ao, cap, B, e1, e2, e3, e4⟩ := hv
  have t := h.kp e4
  refine ⟨ao, cap, e1, t.1, t.2.row ?_ (fun e he => ?_)⟩
  · rcases e3 with rfl | ⟨rfl, hb⟩
    · exact Or.inl rfl
    · exact hb.row
  · rcases e3 with rfl | ⟨rfl, hb⟩
    · exact fun hl => absurd hl (Nat.lt_irrefl _)
    · exact off_blk (by have := (h.2.2.1 e he).2; omega)
theorem KS.copy {r c : Int} {len : Nat} {Z : Nat → Int} {e : Ending} (h : KS w U P D bx rows wx) (m : CopyM r c len Z wx e w') : ∃ ao cap, e = .returned (.agg #[.int .i64 r, .int .i64 c, .slice ao len cap]) ∧ len ≤ cap ∧ KS w U P D bx ((ao, len, Z) :: rows) w' := by
  have hx : Kp wx w' := let ⟨_, _, _, _, _, _, k⟩ := m; k
  obtain ⟨ao, cap, e1, e2, e3⟩ := h.2.copy m
  exact ⟨ao, cap, e1, e2, (h.kp hx).1, e3⟩
theorem KS.start {w1 : World} (hU : w.heap.size ≤ U) (h1 : UC U false 0 w1) (g1 : Grown w w1) (hP : P false) : KS w U P 0 [] [] w1 :=
  ⟨⟨false, 0, hP, by omega, by omega, h1⟩, Kp.of g1, fun e he => (by simp at he; subst he; exact ⟨hU, Blk.lt h1⟩), fun _ h => absurd h List.not_mem_nil, fun _ h => absurd h List.not_mem_nil⟩
end

/-- The calls, over rows. -/
theorem mulR (U : Nat) (r m c : Nat) (hr : 1 ≤ r ∧ r ≤ 12) (hm : 1 ≤ m ∧ m ≤ 12) (hc : 1 ≤ c ∧ c ≤ 12) (a1 a2 : Option Addr) (p1 p2 : Nat) (A B : Nat → Int) (hp : r * m ≤ p1) (hA : ∀ j, j < r * m → I64 (A j)) (hB : ∀ j, j < m * c → I64 (B j)) (w : World) (ra : Row w a1 (r * m) A ∧ Off U (r * m) a1) (rb : Row w a2 (m * c) B ∧ Off U (m * c) a2) (c0 : Bool) (n0 : Int) (hn : 0 ≤ n0 ∧ n0 < 1152921504606846976) (h : UC U c0 n0 w) :
    Calls Tryz.prog 46 #[.pointer (some ⟨U, 0, none⟩), .agg #[.int .i64 r, .int .i64 m, .slice a1 (r * m) p1], .agg #[.int .i64 m, .int .i64 c, .slice a2 (m * c) p2]] w fun e w' => MatP r c (r * c) (mulZ A B m c) 0 (fun w' => UC U (c0 || orC (mulG A B m c) (r * c)) (n0 + 2 * m * ((r * c : Nat) : Int)) w' ∧ Mk U w w') w e w' := by
  have k1 := mul12n r m hr hm
  have k2 := mul12n m c hm hc
  obtain ⟨b, o, rfl, za⟩ := ra.1.some k1.1
  obtain ⟨b2, o2, rfl, zb⟩ := rb.1.some k2.1
  exact matMul_ok U c0 n0 hn r m c b o p1 b2 o2 p2 A B hr hm hc hp hA hB w h za zb (off_at ra.2 k1.1) (off_at rb.2 k2.1)
theorem sumR (U : Nat) (r c : Nat) (hr : 1 ≤ r ∧ r ≤ 12) (hc : 1 ≤ c ∧ c ≤ 12) (a1 a2 : Option Addr) (p1 p2 : Nat) (A B : Nat → Int) (hA : ∀ j, j < r * c → I64 (A j)) (hB : ∀ j, j < r * c → I64 (B j)) (w : World) (ra : Row w a1 (r * c) A ∧ Off U (r * c) a1) (rb : Row w a2 (r * c) B ∧ Off U (r * c) a2) (c0 : Bool) (n0 : Int) (hn : 0 ≤ n0 ∧ n0 < 1152921504606846976) (h : UC U c0 n0 w) :
    Calls Tryz.prog 38 #[.pointer (some ⟨U, 0, none⟩), .agg #[.int .i64 r, .int .i64 c, .slice a1 (r * c) p1], .agg #[.int .i64 r, .int .i64 c, .slice a2 (r * c) p2]] w fun e w' => MatP r c (r * c) (fun p => s2N (A p) (B p)) 0 (fun w' => UC U (c0 || orC (fun p => s2C (A p) (B p)) (r * c)) (n0 + 2 * ((r * c : Nat) : Int)) w' ∧ Mk U w w') w e w' := by
  have k1 := mul12n r c hr hc
  obtain ⟨b, o, rfl, za⟩ := ra.1.some k1.1
  obtain ⟨b2, o2, rfl, zb⟩ := rb.1.some k1.1
  exact matSum_ok U c0 n0 hn r c b o p1 b2 o2 p2 A B hr hc hA hB w h za zb (off_at ra.2 k1.1) (off_at rb.2 k1.1)
theorem scaleR (U : Nat) (s : Int) (hs : I64 s) (r c : Nat) (hr : 1 ≤ r ∧ r ≤ 12) (hc : 1 ≤ c ∧ c ≤ 12) (a1 : Option Addr) (p1 : Nat) (A : Nat → Int) (hA : ∀ j, j < r * c → I64 (A j)) (w : World) (ra : Row w a1 (r * c) A ∧ Off U (r * c) a1) (c0 : Bool) (n0 : Int) (hn : 0 ≤ n0 ∧ n0 < 1152921504606846976) (h : UC U c0 n0 w) :
    Calls Tryz.prog 37 #[.pointer (some ⟨U, 0, none⟩), .agg #[.int .i64 r, .int .i64 c, .slice a1 (r * c) p1], .int .i64 s] w fun e w' => MatP r c (r * c) (fun p => m2N (A p) s) 0 (fun w' => UC U (c0 || orC (fun p => m2C (A p) s) (r * c)) (n0 + 2 * ((r * c : Nat) : Int)) w' ∧ Mk U w w') w e w' := by
  have k1 := mul12n r c hr hc
  obtain ⟨b, o, rfl, za⟩ := ra.1.some k1.1
  exact matScale_ok U c0 n0 s hs hn r c b o p1 A hr hc hA w h za (off_at ra.2 k1.1)
theorem mulBadR (U : Nat) (R1 C1 R2 C2 : Int) (a1 a2 : Option Addr) (l1 p1 l2 p2 : Nat) (Z : Nat → Int) (hb : ¬ (okM R1 C1 l1 ∧ okM R2 C2 l2 ∧ C1 = R2)) (w : World) (c0 : Bool) (n0 : Int) (hn : 0 ≤ n0 ∧ n0 < 1152921504606846976) (h : UC U c0 n0 w) :
    Calls Tryz.prog 46 #[.pointer (some ⟨U, 0, none⟩), .agg #[.int .i64 R1, .int .i64 C1, .slice a1 l1 p1], .agg #[.int .i64 R2, .int .i64 C2, .slice a2 l2 p2]] w fun e w' => MatP 0 0 0 Z 3 (fun w' => UC U (c0 || false) (n0 + 0) w' ∧ Mk U w w') w e w' := by
  rw [Bool.or_false, Int.add_zero]
  exact matMul_bad U c0 n0 hn R1 C1 R2 C2 a1 a2 l1 p1 l2 p2 Z hb w h

end Go.Proofs.YtopaakjildmjcaaGreat

/- Small facts: sums and products of places, an owned list's cells, a region's end. -/
namespace Go.Proofs.YtopaakjildmjcaaGreat
open Go.RowKit Go.Shelf Go.Proofs.Wd
set_option linter.unusedVariables false
set_option linter.unusedSimpArgs false
set_option maxRecDepth 10000

theorem noPanic_normalE {Q : Exit → Act → World → Prop} {a : Act} {w : World} (h : Q .normal a w) : NoPanic Q .normal a w := h
theorem wrapPi (a b p : Nat) (h : a * b = p) (hp : p ≤ 1000000) : IntKind.i64.wrap ((a : Int) * (b : Int)) = (p : Int) := by
  rw [IntKind.wrap_i64, ← Int.natCast_mul, h]
  omega
theorem wrapAi (a b p : Nat) (h : a + b = p) (hp : p ≤ 1000000) : IntKind.i64.wrap ((a : Int) + (b : Int)) = (p : Int) := by
  rw [IntKind.wrap_i64, ← Int.natCast_add, h]
  omega
theorem Own.congr {B len : Nat} {Z Y : Nat → Int} {w : World} (h : Own B len Z w) (e : ∀ i, i < len → Z i = Y i) : Own B len Y w := let ⟨cur, h1, h2⟩ := h; ⟨cur, h1, fun i hi => by rw [h2 i hi, e i hi]⟩
theorem Own.cellAt {B len : Nat} {Z : Nat → Int} {w : World} (h : Own B len Z w) (k : Nat) (hk : k < len) : w.cell? ⟨B, k, none⟩ = some (.int .i64 (Z k)) := let ⟨cur, h1, h2⟩ := h; by rw [Blk.cell h1, h2 k hk]
theorem Own.freeAt {B len : Nat} {Z : Nat → Int} {w : World} (h : Own B len Z w) (k : Nat) : w.frozen? ⟨B, k, none⟩ = false := let ⟨cur, h1, h2⟩ := h; Blk.free h1 k
theorem owns_ownC {w : World} {base n : Nat} {v : Value} {Z : Nat → Int} (hn : 1 ≤ n) (h : w.ownsRow base 3 1 v n ((List.range n).map fun i => Value.int .i64 (Z i))) : ∃ B cap, v = .slice (some ⟨B, 0, none⟩) n cap ∧ n ≤ cap ∧ base ≤ B ∧ Own B n Z w := by
  obtain ⟨B, cap, rfl, h1, h2⟩ := owns_own hn h
  obtain ⟨ao, cap', e, h3, _⟩ := owns_rowC h
  cases e
  exact ⟨B, cap, rfl, h3, h1, h2⟩

end Go.Proofs.YtopaakjildmjcaaGreat

/- Polynomials of matrices, in whole numbers: terms, values by Horner's way, and what is strictly upper. -/
namespace Go.Proofs.Wd
set_option linter.unusedVariables false

/-- Each entry by m. -/
def dvZ (Y : Nat → Int) (m : Nat) : Nat → Int := fun j => divN (Y j) (whoN (m : Int))
def dvG (Y : Nat → Int) (m : Nat) : Nat → Bool := fun j => whoC (m : Int) || divC (Y j) (whoN (m : Int))
def oneF : Nat → Int := fun _ => 4294967296
def termZ (A : Nat → Int) (n : Nat) : Nat → Nat → Int
  | 0 => diagZ oneF n
  | m + 1 => dvZ (mulZ (termZ A n m) A n n) (m + 1)
/-- Was something cut up to the m-th? -/
def termC (A : Nat → Int) (n : Nat) : Nat → Bool
  | 0 => false
  | m + 1 => termC A n m || orC (mulG (termZ A n m) A n n) (n * n) || orC (dvG (mulZ (termZ A n m) A n n) (m + 1)) (n * n)
theorem divN_I64 (a b : Int) : I64 (divN a b) := fitI_I64 _
theorem whoN_I64 (a : Int) : I64 (whoN a) := fitI_I64 _
theorem termZ_I64 (A : Nat → Int) (n : Nat) : ∀ m p, p < n * n → I64 (termZ A n m p)
  | 0, p, hp => diagZ_I64 _ n (fun _ _ => by show I64 4294967296; unfold I64; omega) p hp
  | m + 1, p, _ => divN_I64 _ _

/-- One round of Horner's way, and all. -/
def hoZ (V M : Nat → Int) (t : Int) : Nat → Int := fun p => s2N (m2N (V p) t) (M p)
def hoC (V M : Nat → Int) (t : Int) (nn : Nat) : Bool := orC (fun p => m2C (V p) t) nn || orC (fun p => s2C (m2N (V p) t) (M p)) nn
/-- What there is behind the last k + 1 of n + 1 matrices. -/
def horZ (X : Nat → Nat → Int) (n : Nat) (t : Int) : Nat → Nat → Int
  | 0 => X n
  | k + 1 => hoZ (horZ X n t k) (X (n - (k + 1))) t
def horC (X : Nat → Nat → Int) (n : Nat) (t : Int) (nn : Nat) : Nat → Bool
  | 0 => false
  | k + 1 => horC X n t nn k || hoC (horZ X n t k) (X (n - (k + 1))) t nn
theorem horZ_I64 (X : Nat → Nat → Int) (n : Nat) (t : Int) (nn : Nat) (h : ∀ p, p < nn → I64 (X n p)) : ∀ k p, p < nn → I64 (horZ X n t k p)
  | 0, p, hp => h p hp
  | k + 1, p, _ => s2N_I64 _ _
theorem hor_congr (X Y : Nat → Nat → Int) (n : Nat) (t : Int) (nn : Nat) (h : ∀ i, i ≤ n → ∀ p, p < nn → X i p = Y i p) : ∀ k, (∀ p, p < nn → horZ X n t k p = horZ Y n t k p) ∧ horC X n t nn k = horC Y n t nn k
  | 0 => ⟨h n (Nat.le_refl _), rfl⟩
  | k + 1 => by
    obtain ⟨h1, h2⟩ := hor_congr X Y n t nn h k
    refine ⟨fun p hp => ?_, ?_⟩
    · show s2N (m2N (horZ X n t k p) t) (X (n - (k + 1)) p) = s2N (m2N (horZ Y n t k p) t) (Y (n - (k + 1)) p)
      rw [h1 p hp, h (n - (k + 1)) (by omega) p hp]
    · show (horC X n t nn k || (orC _ nn || orC _ nn)) = (horC Y n t nn k || (orC _ nn || orC _ nn))
      rw [h2, orC_congr (fun p => m2C (horZ X n t k p) t) (fun p => m2C (horZ Y n t k p) t) nn (fun p hp => by rw [h1 p hp]), orC_congr (fun p => s2C (m2N (horZ X n t k p) t) (X (n - (k + 1)) p)) (fun p => s2C (m2N (horZ Y n t k p) t) (Y (n - (k + 1)) p)) nn (fun p hp => by rw [h1 p hp, h (n - (k + 1)) (by omega) p hp])]

/-- The first entry in or below the diagonal that is not 0, row by row: is there none? -/
def upRow (A : Nat → Int) (c i : Nat) : Nat → Bool
  | 0 => true
  | k + 1 => upRow A c i k && A (i * c + k) == 0
def upTo (A : Nat → Int) (c : Nat) : Nat → Bool
  | 0 => true
  | i + 1 => upTo A c i && upRow A c i (i + 1)
theorem upRow_true (A : Nat → Int) (c i : Nat) : ∀ k, upRow A c i k = true ↔ ∀ j, j < k → A (i * c + j) = 0
  | 0 => by simp [upRow]
  | k + 1 => by
    show (upRow A c i k && A (i * c + k) == 0) = true ↔ _
    rw [Bool.and_eq_true, upRow_true A c i k, beq_iff_eq]
    refine ⟨fun h j hj => ?_, fun h => ⟨fun j hj => h j (by omega), h k (by omega)⟩⟩
    by_cases e : j = k
    · subst e; exact h.2
    · exact h.1 j (by omega)
theorem upTo_true (A : Nat → Int) (c : Nat) : ∀ n, upTo A c n = true ↔ ∀ i, i < n → ∀ j, j ≤ i → A (i * c + j) = 0
  | 0 => by simp [upTo]
  | n + 1 => by
    show (upTo A c n && upRow A c n (n + 1)) = true ↔ _
    rw [Bool.and_eq_true, upTo_true A c n, upRow_true A c n]
    refine ⟨fun h i hi j hj => ?_, fun h => ⟨fun i hi => h i (by omega), fun j hj => h n (by omega) j (by omega)⟩⟩
    by_cases e : i = n
    · subst e; exact h.2 j (by omega)
    · exact h.1 i (by omega) j hj

end Go.Proofs.Wd

/- A range over a function whose iterator reckons between two rounds: it may change blocks of its own (St), and it is told, at each round that goes on, that it may ask once more (Pp). -/
namespace Go.Proofs.YtopaakjildmjcaaGreat
open Go.RowKit Go.Shelf Go.Proofs.Wd
set_option linter.unusedVariables false
set_option linter.unusedSimpArgs false
set_option maxRecDepth 10000

/-- Cells outside D are as they were. -/
def KC (D : Nat → Prop) (W W' : World) : Prop := (∀ k cs t fr, ¬ D k → W.heap[k]? = some (.cells cs t fr) → W'.heap[k]? = some (.cells cs t fr)) ∧ W.heap.size ≤ W'.heap.size
theorem KC.refl (D : Nat → Prop) (W : World) : KC D W W := ⟨fun _ _ _ _ _ h => h, Nat.le_refl _⟩
theorem KC.trans {D : Nat → Prop} {A B C : World} (h : KC D A B) (k : KC D B C) : KC D A C := ⟨fun i cs t fr hi e => k.1 i cs t fr hi (h.1 i cs t fr hi e), Nat.le_trans h.2 k.2⟩
theorem KC.putObj {D : Nat → Prop} {W : World} {l : Nat} {o o' : Obj} (hl : W.heap[l]? = some o) (ho : o.isCells = false) : KC D W (W.putObj l o') := by
  refine ⟨fun k cs t fr _ h => (World.putObj_heap_other (fun e => ?_)).trans h, by simp⟩
  subst e
  rw [hl] at h
  cases h
  cases ho
theorem KC.blk {D : Nat → Prop} {W W' : World} {U : Nat} {cs : Array Value} {T : TypeId} (h : KC D W W') (hb : Blk U cs T W) (hU : ¬ D U) : Blk U cs T W' := h.1 U cs T (0, 0) hU hb
theorem KC.of {D : Nat → Prop} {W W' : World} (h : ∀ k, k < W.heap.size → ¬ D k → W'.heap[k]? = W.heap[k]?) (hs : W.heap.size ≤ W'.heap.size) : KC D W W' :=
  ⟨fun k cs t fr hk e => (h k (Array.getElem?_eq_some_iff.1 e).1 hk).trans e, hs⟩

/-- How the body of a round may be left. -/
def ownPostD {α : Type} (B : Nat) (D : Nat → Prop) (I : List α → World → Prop) (Ix : Code → List α → World → Prop) (xs : List α) (W : World) : Exit → Act → World → Prop
  | .normal, _, W' => KeepsFrom B W W' ∧ KC D W W' ∧ I xs W'
  | .ret, _, W' => KeepsFrom B W W' ∧ KC D W W' ∧ Ix .ret xs W'
  | .exit id, _, W' => KeepsFrom B W W' ∧ KC D W W' ∧ Ix (.exit id) xs W'
  | .goto t, _, W' => KeepsFrom B W W' ∧ KC D W W' ∧ Ix (.goto t) xs W'
  | .panic _, _, _ => False
  | .outgrown, _, _ => False

/-- What an iterator owes. -/
def SeqD {α : Type} (F : Fence) (n : Nat) (P : Program) (gf : Nat) (lb : Array Value) (encs : α → Array Value) (D : Nat → Prop) (St : World → World → Prop) (Px : List α → α → Prop) (Pp : List α → Prop) (S Sp : List α → World → Prop) (w : World) : Prop :=
  ∀ (l : Nat) (J Jx : List α → World → Prop) (W : World), w.grownBy W none → (∀ s A B, J s A → St A B → J s B) →
    (∀ pre x W1, J pre W1 → Px pre x → YieldAt F (n - 1) P l (encs x) W1 fun e W' =>
      KC D W1 W' ∧ ((e = .returned (.bool true) ∧ J (pre ++ [x]) W' ∧ Pp (pre ++ [x])) ∨ (e = .returned (.bool false) ∧ Jx (pre ++ [x]) W'))) →
    J [] W → CallsIn F n P gf (#[.func (.yield l) #[] #[]] ++ lb) W fun e W' => (∃ v, e = .returned v) ∧ ((∃ xs, S xs W' ∧ J xs W') ∨ (∃ pre, Sp pre W' ∧ Jx pre W'))

theorem range_own {F : Fence} {n : Nat} {P : Program} {α : Type} {g : Operand} {ps : Array Tmp} {assign body : Code} {Q : Exit → Act → World → Prop} {a : Act} {w : World}
    (hro : F.round = none) (h1 : 1 ≤ n) {gf : Nat} {lb : Array Value} (hg : a.eval g = .func (.func gf) #[] lb) (hFg : F.fn gf) (eg : ∀ args w, (callFunc gf args).run P w = .ok (.enter gf args) w)
    {encs : α → Array Value} (hps : ∀ x, (encs x).size = ps.size) {D : Nat → Prop} {St : World → World → Prop} {Px : List α → α → Prop} {Pp : List α → Prop} {S Sp : List α → World → Prop}
    (hSt : ∀ A B k o, St A B → w.heap.size ≤ k → A.heap[k]? = some o → o.isCells = false → B.heap[k]? = some o)
    (hseq : SeqD F (n - 1) P gf lb encs D St Px Pp S Sp w)
    (I : List α → World → Prop) (Ix : Code → List α → World → Prop) (hI : OwnFrom w.heap.size I) (hIx : ∀ c, OwnFrom w.heap.size (Ix c)) (hS : OwnFrom w.heap.size S) (hSp : OwnFrom w.heap.size Sp)
    (hIS : ∀ s A B, I s A → St A B → I s B) (hIp : ∀ s W, I s W → Pp s) (h0 : I [] w) (Ax : α → Act → World → Prop) (hAx : ∀ x a', OwnFrom w.heap.size (fun (_ : Unit) W => Ax x a' W))
    (hassign : ∀ (l : Nat) (pre : List α) (x : α) (W : World) (K : Act → World → Prop), I pre W → (∀ a' W', KeepsFrom w.heap.size W W' → KC D W W' → I pre W' → Ax x a' W' → K a' W') →
      assign.wpIn (F.inRound l) (n - 1 - 1) P (Exit.then K (fun _ _ _ => False)) { tmps := (ps.zip (encs x)).foldl (fun t (p, v) => t.setIfInBounds p v) a.tmps, defers := [] } W)
    (hbody : ∀ (l : Nat) (pre : List α) (x : α) (a' : Act) (W : World), I pre W → Ax x a' W → Px pre x → body.wpIn (F.inRound l) (n - 1 - 1) P (ownPostD w.heap.size D I Ix (pre ++ [x]) W) a' W)
    (hdone : ∀ (d : Nat) (xs : List α) (W : World), w.heap.size ≤ d → S xs W → I xs W → W.heap[d]? = some (.deferred (some [])) → Q .normal { a with defers := { target := .collected d, args := #[] } :: a.defers } W)
    (hstop : ∀ (d : Nat) (c : Code) (pre : List α) (W : World), w.heap.size ≤ d → Sp pre W → Ix c pre W → W.heap[d]? = some (.deferred (some [])) → c.wpIn F n P Q { a with defers := { target := .collected d, args := #[] } :: a.defers } W) :
    (Code.rangeFunc g ps assign body).wpIn F n P Q a w := by
  refine wpIn_rangeFunc fun fn hfn => ?_
  rw [hro]
  obtain ⟨d, hd⟩ : ∃ d, w.heap.size = d := ⟨_, rfl⟩
  obtain ⟨mk, hmk⟩ : ∃ mk : LoopState → Option Code → Loop, mk = fun st pe => { state := st, pending := pe, fn, tmps := a.tmps, params := ps, assign, body, defers := d } := ⟨_, rfl⟩
  have es : ∀ st st' pe, { mk st pe with state := st' } = mk st' pe := fun st st' pe => by rw [hmk]
  obtain ⟨wl, hwl⟩ : ∃ wl, (w.alloc (.deferred (some []))).alloc (.loop (mk .ready none)) = wl := ⟨_, rfl⟩
  have kl : wl.heap[d + 1]? = some (.loop (mk .ready none)) := by
    have := World.alloc_heap_new (w.alloc (.deferred (some []))) (.loop (mk .ready none))
    rwa [World.size_alloc, hd, hwl] at this
  have kd : wl.heap[d]? = some (.deferred (some [])) := by
    rw [← hwl, Below.heap_alloc _ _ _ (by simp; omega), ← hd]
    exact World.alloc_heap_new w _
  have i0 : I [] wl := by rw [← hwl]; exact hI.alloc _ (hI.alloc _ h0)
  have gl : w.grownBy wl none := by
    rw [← hwl]
    exact (World.grownBy_alloc w _ none).trans (World.grownBy_alloc _ _ none)
  rw [hd] at hSt hI hIx hS hSp hAx hassign hbody hdone hstop
  refine ⟨d + 1, [{ target := .collected d, args := #[] }], wl, { target := .fn (.func gf) lb, args := #[.func (.yield (d + 1)) #[] #[]] }, wl, gf, #[.func (.yield (d + 1)) #[] #[]] ++ lb, wl, ?_, ?_, ?_, ?_, fun _ => h1, ?_⟩
  · rw [← hwl, hmk, ← hd]; exact run_enterLoop_outer _ _ _ _ _
  · simp only [resolve, hg]
    simp [go_sem]
  · intro f' hf'; simp [Target.leads] at hf'; subst hf'; exact hFg
  · simp [invoke, go_sem, eg]
  · refine (hseq (d + 1)
      (fun pre W => I pre W ∧ W.heap[d + 1]? = some (.loop (mk .ready none)) ∧ W.heap[d]? = some (.deferred (some [])))
      (fun pre W => ∃ c, Ix c pre W ∧ W.heap[d + 1]? = some (.loop (mk .done (some c))) ∧ W.heap[d]? = some (.deferred (some [])))
      wl gl (fun s A B hs hst => ⟨hIS s A B hs.1 hst, hSt _ _ _ _ hst (by omega) hs.2.1 rfl, hSt _ _ _ _ hst (by omega) hs.2.2 rfl⟩) ?_ ⟨i0, kl, kd⟩).mono ?_
    · rintro pre x W ⟨hi, hl, hk⟩ hpx
      have hy := run_yield (P := P) (args := encs x) hl (by rw [hmk]; exact hps x)
      rw [hmk] at hy
      refine ⟨fn, _, assign, body, hy, roundIn_of_wpIn hfn (hassign _ pre x W _ hi fun a' Wa kf kc hia hax => ?_)⟩
      have hla := kf.same _ _ (by omega) hl rfl
      have hka := kf.same _ _ (by omega) hk rfl
      have lta := (Array.getElem?_eq_some_iff.1 hla).1
      refine ⟨_, run_beginRound hla (by rw [hmk]), ?_⟩
      rw [es]
      have hlb : (Wa.putObj (d + 1) (.loop (mk .busy none))).heap[d + 1]? = some (.loop (mk .busy none)) := World.putObj_heap_same lta
      have hkb : (Wa.putObj (d + 1) (.loop (mk .busy none))).heap[d]? = some (.deferred (some [])) := (World.putObj_heap_other (by omega)).trans hka
      have kcb : KC D W (Wa.putObj (d + 1) (.loop (mk .busy none))) := kc.trans (KC.putObj hla rfl)
      refine wpIn_mono (hbody _ pre x a' _ (hI.putObj _ hia (by omega) hla rfl) ((hAx x a').putObj (s := ()) _ hax (by omega) hla rfl) hpx) fun e a3 W3 hp => ?_
      have fin : ∀ (jump : Option Code), KeepsFrom d (Wa.putObj (d + 1) (.loop (mk .busy none))) W3 → KC D (Wa.putObj (d + 1) (.loop (mk .busy none))) W3 →
          ∃ W4, (Instr.endRound (d + 1) jump).run P W3 = .ok (.bool jump.isNone) W4 ∧ W4 = W3.putObj (d + 1) (.loop (mk (if jump.isNone then .ready else .done) jump)) ∧ W3.heap[d + 1]? = some (.loop (mk .busy none)) ∧
            W4.heap[d + 1]? = some (.loop (mk (if jump.isNone then .ready else .done) jump)) ∧ W4.heap[d]? = some (.deferred (some [])) ∧ KC D W W4 := fun jump k1 k2 => by
        have hl3 := k1.same _ _ (by omega) hlb rfl
        have hk3 := k1.same _ _ (by omega) hkb rfl
        have e := run_endRound (P := P) jump hl3
        have e2 : { mk .busy none with state := if jump.isNone then .ready else .done, pending := jump } = mk (if jump.isNone then .ready else .done) jump := by rw [hmk]
        rw [e2] at e
        exact ⟨_, e, rfl, hl3, World.putObj_heap_same (Array.getElem?_eq_some_iff.1 hl3).1, (World.putObj_heap_other (by omega)).trans hk3, (kcb.trans k2).trans (KC.putObj hl3 rfl)⟩
      cases e with
      | normal =>
        obtain ⟨k1, k2, k3⟩ := hp
        obtain ⟨W4, r1, rfl, r3, r4, r5, r6⟩ := fin none k1 k2
        have i4 := hI.putObj (.loop (mk .ready none)) k3 (by omega) r3 rfl
        exact ⟨_, _, r1, r6, .inl ⟨rfl, ⟨i4, r4, r5⟩, hIp _ _ i4⟩⟩
      | ret =>
        obtain ⟨k1, k2, k3⟩ := hp
        obtain ⟨W4, r1, rfl, r3, r4, r5, r6⟩ := fin (some .ret) k1 k2
        exact ⟨_, _, r1, r6, .inr ⟨rfl, .ret, (hIx _).putObj _ k3 (by omega) r3 rfl, r4, r5⟩⟩
      | exit id =>
        obtain ⟨k1, k2, k3⟩ := hp
        obtain ⟨W4, r1, rfl, r3, r4, r5, r6⟩ := fin (some (.exit id)) k1 k2
        exact ⟨_, _, r1, r6, .inr ⟨rfl, .exit id, (hIx _).putObj _ k3 (by omega) r3 rfl, r4, r5⟩⟩
      | goto t =>
        obtain ⟨k1, k2, k3⟩ := hp
        obtain ⟨W4, r1, rfl, r3, r4, r5, r6⟩ := fin (some (.goto t)) k1 k2
        exact ⟨_, _, r1, r6, .inr ⟨rfl, .goto t, (hIx _).putObj _ k3 (by omega) r3 rfl, r4, r5⟩⟩
      | panic ch => exact hp.elim
      | outgrown => exact hp.elim
    · rintro e W2 ⟨⟨v, rfl⟩, (⟨xs, hs, hi, hl, hk⟩ | ⟨pre, hs, c, hi, hl, hk⟩)⟩
      · have e := run_endLoop (P := P) hl (by rw [hmk]; simp)
        exact ⟨none, _, by rw [e, hmk], hdone d xs _ (Nat.le_refl _) (hS.putObj _ hs (by omega) hl rfl) (hI.putObj _ hi (by omega) hl rfl) ((World.putObj_heap_other (by omega)).trans hk)⟩
      · have e := run_endLoop (P := P) hl (by rw [hmk]; simp)
        exact ⟨some c, _, by rw [e, hmk], hstop d c pre _ (Nat.le_refl _) (hSp.putObj _ hs (by omega) hl rfl) ((hIx c).putObj _ hi (by omega) hl rfl) ((World.putObj_heap_other (by omega)).trans hk)⟩

end Go.Proofs.YtopaakjildmjcaaGreat

/- Objects that may be written, each over blocks of its own, and facts that hang on blocks that are not: the state of a law under way. Matrices in a list. -/
namespace Go.Proofs.YtopaakjildmjcaaGreat
open Go.RowKit Go.Shelf Go.Proofs.Wd
set_option linter.unusedVariables false
set_option linter.unusedSimpArgs false
set_option maxRecDepth 10000

/-- What p says hangs on D's blocks alone. -/
def DepL (D : List Nat) (p : World → Prop) : Prop := ∀ w w' : World, (∀ k ∈ D, w'.heap[k]? = w.heap[k]?) → p w → p w'
/-- But for D's blocks, and new ones, the world is as it was. -/
def MkL (D : List Nat) (w w' : World) : Prop := w'.os = w.os ∧ w'.output = w.output ∧ (∀ k, k < w.heap.size → k ∉ D → w'.heap[k]? = w.heap[k]?) ∧ w.heap.size ≤ w'.heap.size
theorem MkL.one {U : Nat} {w w' : World} (m : Mk U w w') : MkL [U] w w' := ⟨m.1, m.2.1, fun k hk h => m.2.2.1 k hk (fun e => h (by rw [e]; simp)), m.2.2.2⟩
theorem MkL.kp {w w' : World} (m : Kp w w') (D : List Nat) : MkL D w w' := ⟨m.1, m.2.1, fun k hk _ => m.2.2.1 k hk, m.2.2.2⟩
theorem MkL.trans {D : List Nat} {a b c : World} (h : MkL D a b) (k : MkL D b c) : MkL D a c := ⟨k.1.trans h.1, k.2.1.trans h.2.1, fun i hi hd => (k.2.2.1 i (Nat.lt_of_lt_of_le hi h.2.2.2) hd).trans (h.2.2.1 i hi hd), Nat.le_trans h.2.2.2 k.2.2.2⟩
theorem MkL.cell {D : List Nat} {b o : Nat} (w : World) (v : Value) (hb : b ∈ D) : MkL D w (w.setCell ⟨b, o, none⟩ v) :=
  ⟨rfl, rfl, fun k hk hd => Below.heap_setCell _ _ _ _ (fun e => hd (by rw [e]; exact hb)), by simp [World.setCell]⟩

abbrev Ob := List Nat × (World → Prop)
def blksOf (es : List Ob) : List Nat := es.flatMap fun c => c.1
/-- es may be written; fs may not. -/
def ST (w : World) (es fs : List Ob) (wx : World) : Prop :=
  Kp w wx ∧ (∀ c ∈ es, c.2 wx ∧ DepL c.1 c.2) ∧ (blksOf es).Nodup ∧ (∀ k ∈ blksOf es, w.heap.size ≤ k ∧ k < wx.heap.size) ∧ (∀ f ∈ fs, f.2 wx ∧ DepL f.1 f.2 ∧ ∀ k ∈ f.1, k < wx.heap.size ∧ k ∉ blksOf es)
section
variable {w wx w' : World} {es pre post fs : List Ob} {D D' : List Nat} {p p' : World → Prop}
theorem blks_mid (pre post : List Ob) (D : List Nat) (p : World → Prop) : blksOf (pre ++ (D, p) :: post) = blksOf pre ++ (D ++ blksOf post) := by
  unfold blksOf
  rw [List.flatMap_append, List.flatMap_cons]
theorem mem_blks {es : List Ob} {c : Ob} (hc : c ∈ es) {k : Nat} (hk : k ∈ c.1) : k ∈ blksOf es := List.mem_flatMap.2 ⟨c, hc, hk⟩
theorem ST.nil (w : World) : ST w [] [] w := ⟨Kp.refl _, fun _ h => absurd h List.not_mem_nil, List.nodup_nil, fun _ h => absurd h List.not_mem_nil, fun _ h => absurd h List.not_mem_nil⟩
theorem ST.keep (h : ST w es fs wx) : Kp w wx := h.1
theorem ST.kp (h : ST w es fs wx) (k : Kp wx w') : ST w es fs w' :=
  ⟨h.1.trans k, fun c hc => ⟨(h.2.1 c hc).2 wx w' (fun i hi => k.2.2.1 i (h.2.2.2.1 i (mem_blks hc hi)).2) (h.2.1 c hc).1, (h.2.1 c hc).2⟩, h.2.2.1, fun i hi => ⟨(h.2.2.2.1 i hi).1, Nat.lt_of_lt_of_le (h.2.2.2.1 i hi).2 k.2.2.2⟩,
    fun f hf => ⟨(h.2.2.2.2 f hf).2.1 wx w' (fun i hi => k.2.2.1 i ((h.2.2.2.2 f hf).2.2 i hi).1) (h.2.2.2.2 f hf).1, (h.2.2.2.2 f hf).2.1, fun i hi => ⟨Nat.lt_of_lt_of_le ((h.2.2.2.2 f hf).2.2 i hi).1 k.2.2.2, ((h.2.2.2.2 f hf).2.2 i hi).2⟩⟩⟩
/-- An object is written: it may take new blocks. -/
theorem ST.mk (pre : List Ob) (h : ST w (pre ++ (D, p) :: post) fs wx) (m : MkL D wx w') (hp : p' w') (hd : DepL D' p') (hn : D'.Nodup) (hD : ∀ k ∈ D', k ∈ D ∨ (wx.heap.size ≤ k ∧ k < w'.heap.size)) : ST w (pre ++ (D', p') :: post) fs w' := by
  obtain ⟨h1, h2, h3, h4, h5⟩ := h
  rw [blks_mid] at h3 h4 h5
  obtain ⟨n1, n2, n3⟩ := List.nodup_append.1 h3
  obtain ⟨n4, n5, n6⟩ := List.nodup_append.1 n2
  have out : ∀ c : Ob, c ∈ pre ∨ c ∈ post → ∀ i ∈ c.1, i ∉ D := fun c hc i hi hd => by
    rcases hc with hc | hc
    · exact n3 i (mem_blks hc hi) i (List.mem_append_left _ hd) rfl
    · exact n6 i hd i (mem_blks hc hi) rfl
  have lt : ∀ c : Ob, c ∈ pre ∨ c ∈ post → ∀ i ∈ c.1, i < wx.heap.size := fun c hc i hi => by
    rcases hc with hc | hc
    · exact (h4 i (List.mem_append_left _ (mem_blks hc hi))).2
    · exact (h4 i (List.mem_append_right _ (List.mem_append_right _ (mem_blks hc hi)))).2
  have old : ∀ c : Ob, c ∈ pre ∨ c ∈ post → c.2 w' ∧ DepL c.1 c.2 := fun c hc => by
    have hm : c ∈ pre ++ (D, p) :: post := by
      rcases hc with hc | hc
      · exact List.mem_append_left _ hc
      · exact List.mem_append_right _ (List.mem_cons_of_mem _ hc)
    exact ⟨(h2 c hm).2 wx w' (fun i hi => m.2.2.1 i (lt c hc i hi) (out c hc i hi)) (h2 c hm).1, (h2 c hm).2⟩
  refine ⟨⟨m.1.trans h1.1, m.2.1.trans h1.2.1, fun i hi => (m.2.2.1 i (Nat.lt_of_lt_of_le hi h1.2.2.2) (fun hd => ?_)).trans (h1.2.2.1 i hi), Nat.le_trans h1.2.2.2 m.2.2.2⟩, fun c hc => ?_, ?_, fun k hk => ?_, fun f hf => ⟨(h5 f hf).2.1 wx w' (fun i hi => m.2.2.1 i ((h5 f hf).2.2 i hi).1 (fun hd => ((h5 f hf).2.2 i hi).2 (List.mem_append_right _ (List.mem_append_left _ hd)))) (h5 f hf).1, (h5 f hf).2.1, fun i hi => ⟨Nat.lt_of_lt_of_le ((h5 f hf).2.2 i hi).1 m.2.2.2, fun hk => ?_⟩⟩⟩
  · have := (h4 i (List.mem_append_right _ (List.mem_append_left _ hd))).1
    omega
  · rcases List.mem_append.1 hc with hc | hc
    · exact old c (Or.inl hc)
    · rcases List.mem_cons.1 hc with rfl | hc
      · exact ⟨hp, hd⟩
      · exact old c (Or.inr hc)
  · rw [blks_mid]
    refine List.nodup_append.2 ⟨n1, List.nodup_append.2 ⟨hn, n5, fun a ha b hb e => ?_⟩, fun a ha b hb e => ?_⟩
    · subst e
      rcases hD a ha with hx | hx
      · exact n6 a hx a hb rfl
      · have := (h4 a (List.mem_append_right _ (List.mem_append_right _ hb))).2; omega
    · subst e
      rcases List.mem_append.1 hb with hb | hb
      · rcases hD a hb with hx | hx
        · exact n3 a ha a (List.mem_append_left _ hx) rfl
        · have := (h4 a (List.mem_append_left _ ha)).2; omega
      · exact n3 a ha a (List.mem_append_right _ hb) rfl
  · rw [blks_mid] at hk
    rcases List.mem_append.1 hk with hk | hk
    · have := h4 k (List.mem_append_left _ hk); exact ⟨this.1, Nat.lt_of_lt_of_le this.2 m.2.2.2⟩
    · rcases List.mem_append.1 hk with hk | hk
      · rcases hD k hk with hx | hx
        · have := h4 k (List.mem_append_right _ (List.mem_append_left _ hx)); exact ⟨this.1, Nat.lt_of_lt_of_le this.2 m.2.2.2⟩
        · exact ⟨Nat.le_trans h1.2.2.2 hx.1, hx.2⟩
      · have := h4 k (List.mem_append_right _ (List.mem_append_right _ hk)); exact ⟨this.1, Nat.lt_of_lt_of_le this.2 m.2.2.2⟩
  · rw [blks_mid] at hk
    have hlt := ((h5 f hf).2.2 i hi).1
    have hno := ((h5 f hf).2.2 i hi).2
    rcases List.mem_append.1 hk with hk | hk
    · exact hno (List.mem_append_left _ hk)
    · rcases List.mem_append.1 hk with hk | hk
      · rcases hD i hk with hx | hx
        · exact hno (List.mem_append_right _ (List.mem_append_left _ hx))
        · omega
      · exact hno (List.mem_append_right _ (List.mem_append_right _ hk))
/-- A new object. -/
theorem ST.push (h : ST w es fs wx) (k : Kp wx w') (hp : p w') (hd : DepL D p) (hn : D.Nodup) (hD : ∀ k ∈ D, wx.heap.size ≤ k ∧ k < w'.heap.size) : ST w ((D, p) :: es) fs w' := by
  have h' : ST w ([] ++ (([] : List Nat), fun _ => True) :: es) fs wx := ⟨h.1, fun c hc => by
    rcases List.mem_cons.1 hc with rfl | hc
    · exact ⟨trivial, fun _ _ _ _ => trivial⟩
    · exact h.2.1 c hc, h.2.2.1, h.2.2.2.1, h.2.2.2.2⟩
  exact ST.mk [] h' (MkL.kp k []) hp hd hn (fun k hk => Or.inr (hD k hk))
/-- A fact more. -/
theorem ST.fact (h : ST w es fs wx) (hp : p wx) (hd : DepL D p) (hD : ∀ k ∈ D, k < wx.heap.size ∧ k ∉ blksOf es) : ST w es ((D, p) :: fs) wx :=
  ⟨h.1, h.2.1, h.2.2.1, h.2.2.2.1, fun f hf => by
    rcases List.mem_cons.1 hf with rfl | hf
    · exact ⟨hp, hd, hD⟩
    · exact h.2.2.2.2 f hf⟩
/-- A call that changes nothing that was, and tells something in new blocks. -/
theorem ST.tell (h : ST w es fs wx) (k : Kp wx w') (hp : p w') (hd : DepL D p) (hD : ∀ k ∈ D, wx.heap.size ≤ k ∧ k < w'.heap.size) : ST w es ((D, p) :: fs) w' :=
  (h.kp k).fact hp hd (fun i hi => ⟨(hD i hi).2, fun hk => by have := (h.2.2.2.1 i hk).2; have := (hD i hi).1; omega⟩)
/-- An object that is written no more. -/
theorem ST.freeze (pre : List Ob) (h : ST w (pre ++ (D, p) :: post) fs wx) : ST w (pre ++ post) ((D, p) :: fs) wx := by
  have hb := blks_mid pre post D p
  have hb2 : blksOf (pre ++ post) = blksOf pre ++ blksOf post := by unfold blksOf; rw [List.flatMap_append]
  obtain ⟨h1, h2, h3, h4, h5⟩ := h
  rw [hb] at h3 h4 h5
  obtain ⟨n1, n2, n3⟩ := List.nodup_append.1 h3
  obtain ⟨n4, n5, n6⟩ := List.nodup_append.1 n2
  have sub : ∀ k, k ∈ blksOf (pre ++ post) → k ∈ blksOf pre ++ (D ++ blksOf post) := fun k hk => by
    rw [hb2] at hk
    rcases List.mem_append.1 hk with hk | hk
    · exact List.mem_append_left _ hk
    · exact List.mem_append_right _ (List.mem_append_right _ hk)
  refine ⟨h1, fun c hc => h2 c ?_, ?_, fun k hk => h4 k (sub k hk), fun f hf => ?_⟩
  · rcases List.mem_append.1 hc with hc | hc
    · exact List.mem_append_left _ hc
    · exact List.mem_append_right _ (List.mem_cons_of_mem _ hc)
  · rw [hb2]
    exact List.nodup_append.2 ⟨n1, n5, fun a ha b hb e => n3 a ha b (List.mem_append_right _ hb) e⟩
  · rcases List.mem_cons.1 hf with rfl | hf
    · have := h2 (D, p) (by simp)
      refine ⟨this.1, this.2, fun k hk => ⟨(h4 k (List.mem_append_right _ (List.mem_append_left _ hk))).2, fun hx => ?_⟩⟩
      rw [hb2] at hx
      rcases List.mem_append.1 hx with hx | hx
      · exact n3 k hx k (List.mem_append_left _ hk) rfl
      · exact n6 k hk k hx rfl
    · exact ⟨(h5 f hf).1, (h5 f hf).2.1, fun k hk => ⟨((h5 f hf).2.2 k hk).1, fun hx => ((h5 f hf).2.2 k hk).2 (sub k hx)⟩⟩
theorem ST.sub {fs' : List Ob} (h : ST w es fs wx) (hf : ∀ f ∈ fs', f ∈ fs) : ST w es fs' wx := ⟨h.1, h.2.1, h.2.2.1, h.2.2.2.1, fun f h' => h.2.2.2.2 f (hf f h')⟩
theorem ST.get (h : ST w es fs wx) {f : Ob} (hf : f ∈ fs) : f.2 wx := (h.2.2.2.2 f hf).1
theorem ST.ob (h : ST w es fs wx) {c : Ob} (hc : c ∈ es) : c.2 wx := (h.2.1 c hc).1
theorem ST.apart (h : ST w es fs wx) {f c : Ob} (hf : f ∈ fs) (hc : c ∈ es) {k : Nat} (hk : k ∈ f.1) : k ∉ c.1 := fun hx => ((h.2.2.2.2 f hf).2.2 k hk).2 (mem_blks hc hx)
theorem ST.lt (h : ST w es fs wx) {c : Ob} (hc : c ∈ es) {k : Nat} (hk : k ∈ c.1) : w.heap.size ≤ k ∧ k < wx.heap.size := h.2.2.2.1 k (mem_blks hc hk)
theorem ST.flt (h : ST w es fs wx) {f : Ob} (hf : f ∈ fs) {k : Nat} (hk : k ∈ f.1) : k < wx.heap.size := ((h.2.2.2.2 f hf).2.2 k hk).1
end

/-- Facts: a block known whole; a row of numbers. -/
def fBlk (b : Nat) (cs : Array Value) (T : TypeId) : Ob := ([b], Blk b cs T)
theorem blk_depL (b : Nat) (cs : Array Value) (T : TypeId) : DepL [b] (Blk b cs T) := fun w w' h k => (h b (by simp)).trans k
def rowD (ao : Option Addr) (len : Nat) : List Nat := if len = 0 then [] else match ao with | some a => [a.block] | none => []
def fRow (ao : Option Addr) (len : Nat) (Z : Nat → Int) : Ob := (rowD ao len, fun w => Row w ao len Z)
theorem row_depL (ao : Option Addr) (len : Nat) (Z : Nat → Int) : DepL (rowD ao len) (fun w => Row w ao len Z) := fun w w' h r => by
  rcases r with r | ⟨b, o, rfl, hc⟩
  · exact Or.inl r
  · by_cases h0 : len = 0
    · exact Or.inl h0
    · refine Or.inr ⟨b, o, rfl, fun i hi => (World.cell?_of_block (h b ?_)).trans (hc i hi)⟩
      unfold rowD
      rw [if_neg h0]
      simp
theorem off_of {U len : Nat} {ao : Option Addr} (h : U ∉ rowD ao len) : Off U len ao := fun hl a ha e => h (by unfold rowD; rw [if_neg (by omega), ha]; simp [e])
theorem rowD_off {U len : Nat} {ao : Option Addr} (h : Off U len ao) : U ∉ rowD ao len := fun hm => by
  unfold rowD at hm
  split at hm
  · exact absurd hm List.not_mem_nil
  · rename_i h0
    cases ao with
    | none => exact absurd hm List.not_mem_nil
    | some a => simp at hm; exact h (by omega) a rfl hm.symm
theorem rowD_lt {w : World} {ao : Option Addr} {len : Nat} {Z : Nat → Int} (h : Row w ao len Z) : ∀ k ∈ rowD ao len, k < w.heap.size := fun k hk => by
  rcases h with h | ⟨b, o, rfl, hc⟩
  · unfold rowD at hk; rw [if_pos h] at hk; exact absurd hk List.not_mem_nil
  · unfold rowD at hk
    split at hk
    · exact absurd hk List.not_mem_nil
    · simp at hk; subst hk; exact heap_gt (hc 0 (by omega))
section
variable {w wx w' : World} {es fs : List Ob}
theorem ST.row (h : ST w es fs wx) {ao : Option Addr} {len : Nat} {Z : Nat → Int} (hf : fRow ao len Z ∈ fs) : Row wx ao len Z := h.get hf
theorem ST.off (h : ST w es fs wx) {ao : Option Addr} {len : Nat} {Z : Nat → Int} (hf : fRow ao len Z ∈ fs) {c : Ob} (hc : c ∈ es) {U : Nat} (hU : U ∈ c.1) : Off U len ao := off_of fun hk => h.apart hf hc hk hU
theorem ST.cells (h : ST w es fs wx) {b : Nat} {x y z : Value} {T : TypeId} (hf : fBlk b #[x, y, z] T ∈ fs) : wx.cell? ⟨b, 0, none⟩ = some x ∧ wx.cell? ⟨b, 1, none⟩ = some y ∧ wx.cell? ⟨b, 2, none⟩ = some z := ⟨Blk.cell (h.get hf) 0, Blk.cell (h.get hf) 1, Blk.cell (h.get hf) 2⟩
/-- A new block, laid by an alloc. -/
theorem ST.box (h : ST w es fs wx) (cs : Array Value) (T : TypeId) : ST w es (fBlk wx.heap.size cs T :: fs) (wx.alloc (.cells cs T)) :=
  h.tell (Kp.of ((Grown.refl wx).alloc cs T)) (Blk.new wx cs T) (blk_depL _ _ _) (fun k hk => by simp at hk; subst hk; simp)
/-- A row that is told in new memory. -/
theorem ST.rowNew (h : ST w es fs wx) (k : Kp wx w') {ao : Option Addr} {len : Nat} {Z : Nat → Int} (r : Row w' ao len Z) (ho : ∀ U, U < wx.heap.size → Off U len ao) : ST w es (fRow ao len Z :: fs) w' :=
  h.tell k r (row_depL ao len Z) (fun i hi => ⟨by
    rcases Nat.lt_or_ge i wx.heap.size with hx | hx
    · exact absurd hi (rowD_off (ho i hx))
    · exact hx, rowD_lt r i hi⟩)
/-- A row that was there from the beginning. -/
theorem ST.rowOld (h : ST w es fs wx) {ao : Option Addr} {len : Nat} {Z : Nat → Int} (r : Row w ao len Z) : ST w es (fRow ao len Z :: fs) wx :=
  h.fact (r.kp h.1) (row_depL ao len Z) (fun i hi => ⟨Nat.lt_of_lt_of_le (rowD_lt r i hi) h.1.2.2.2, fun hk => by have := (h.2.2.2.1 i hk).1; have := rowD_lt r i hi; omega⟩)
end

/-! Matrices. -/
structure MV where
  R : Int
  C : Int
  ao : Option Addr
  len : Nat
  cap : Nat
  Z : Nat → Int
def MV.cells (x : MV) : Array Value := #[.int .i64 x.R, .int .i64 x.C, .slice x.ao x.len x.cap]
def MV.val (x : MV) : Value := .agg x.cells

end Go.Proofs.YtopaakjildmjcaaGreat

/- Package poly: square, refuse, Upper. -/
namespace Go.Proofs.YtopaakjildmjcaaGreat
open Go.RowKit Go.Shelf Go.Proofs.Wd
set_option linter.unusedVariables false
set_option linter.unusedSimpArgs false
set_option maxRecDepth 10000

/-- A square matrix. -/
def sqA (R C : Int) (len : Nat) : Prop := okM R C len ∧ R = C
open Classical in
noncomputable def sqB (R C : Int) (len : Nat) : Bool := decide (sqA R C len)
theorem sqB_yes {R C : Int} {len : Nat} (h : sqA R C len) : sqB R C len = true := by classical exact decide_eq_true h
theorem sqB_no {R C : Int} {len : Nat} (h : ¬ sqA R C len) : sqB R C len = false := by classical exact decide_eq_false h
theorem sqA.nat {R C : Int} {len : Nat} (h : sqA R C len) : ∃ n : Nat, R = n ∧ C = n ∧ (1 ≤ n ∧ n ≤ 12) ∧ len = n * n ∧ 1 ≤ len ∧ len ≤ 144 := by
  obtain ⟨h1, rfl⟩ := h
  obtain ⟨r, c, e1, e2, hr, hc, hl, k1, k2⟩ := h1.nat
  obtain rfl : r = c := by omega
  exact ⟨r, e1, e1, hr, hl, k1, k2⟩
theorem sqA_of {n : Nat} (hn : 1 ≤ n ∧ n ≤ 12) : sqA n n (n * n) := ⟨⟨by omega, by omega, by rw [Int.natCast_mul]⟩, rfl⟩

set_option maxHeartbeats 2000000 in
theorem polySquare (R C : Int) (ao : Option Addr) (len cap : Nat) (w : World) : Calls Tryz.prog 26 #[.agg #[.int .i64 R, .int .i64 C, .slice ao len cap]] w fun e w' => e = .returned (.bool (sqB R C len)) ∧ Grown w w' := by
  have K1 := hide (fun w => matCheck R C ao len cap w)
  have G1 : Hid (Grown w (w.alloc (.cells #[.int .i64 R, .int .i64 C, .slice ao len cap] 24)) ∧ Blk w.heap.size #[.int .i64 R, .int .i64 C, .slice ao len cap] 24 (w.alloc (.cells #[.int .i64 R, .int .i64 C, .slice ao len cap] 24))) := ⟨(Grown.refl _).alloc _ _, Blk.new w _ _⟩
  by_cases h1 : okM R C len
  · rw [chk_ok h1] at K1
    by_cases h2 : R = C
    · rw [sqB_yes ⟨h1, h2⟩]
      clear h1
      subst h2
      go_enter Tryz.func26, Tryz.ntmps26
      go_wp2_with fail
      generalize w.alloc (.cells #[.int .i64 R, .int .i64 R, .slice ao len cap] 24) = w1 at *
      refine (unhide K1 _).mono ?_
      rintro e w2 ⟨rfl, g2⟩
      have y0 : w2.cell? ⟨w.heap.size, 0, none⟩ = some (.int .i64 R) := Blk.cell (Blk.grown (unhide G1).2 g2) 0
      have y1 : w2.cell? ⟨w.heap.size, 1, none⟩ = some (.int .i64 R) := Blk.cell (Blk.grown (unhide G1).2 g2) 1
      have GG := hide (gtrans (unhide G1).1 g2)
      clear G1 g2 K1
      go_wp2
      go_ret
      exact ⟨rfl, unhide GG⟩
    · rw [sqB_no (fun h => h2 h.2)]
      have b3 : (R == C) = false := by simpa using h2
      clear h1 h2
      go_enter Tryz.func26, Tryz.ntmps26
      go_wp2_with fail
      generalize w.alloc (.cells #[.int .i64 R, .int .i64 C, .slice ao len cap] 24) = w1 at *
      refine (unhide K1 _).mono ?_
      rintro e w2 ⟨rfl, g2⟩
      have y0 : w2.cell? ⟨w.heap.size, 0, none⟩ = some (.int .i64 R) := Blk.cell (Blk.grown (unhide G1).2 g2) 0
      have y1 : w2.cell? ⟨w.heap.size, 1, none⟩ = some (.int .i64 C) := Blk.cell (Blk.grown (unhide G1).2 g2) 1
      have GG := hide (gtrans (unhide G1).1 g2)
      clear G1 g2 K1
      go_wp2
      go_ret
      exact ⟨rfl, unhide GG⟩
  · rw [chk_bad h1] at K1
    rw [sqB_no (fun h => h1 h.1)]
    clear h1
    go_enter Tryz.func26, Tryz.ntmps26
    go_wp2_with fail
    generalize w.alloc (.cells #[.int .i64 R, .int .i64 C, .slice ao len cap] 24) = w1 at *
    refine (unhide K1 _).mono ?_
    rintro e w2 ⟨rfl, g2⟩
    have GG := hide (gtrans (unhide G1).1 g2)
    clear G1 g2 K1
    go_wp2
    go_ret
    exact ⟨rfl, unhide GG⟩

def errB (b : Bool) : Int := if b then 0 else 3
set_option maxHeartbeats 2000000 in
theorem polyRefuse (U : Nat) (c : Bool) (m : Int) (hm : 0 ≤ m ∧ m < 2305843009213693952) (b : Bool) (w : World) (h : UC U c m w) : Calls Tryz.prog 25 #[.pointer (some ⟨U, 0, none⟩), .bool b] w fun e w' => e = .returned (.int .i64 (errB b)) ∧ UC U c m w' ∧ Mod U w w' := by
  have D := hide (refuseDot U c m hm _ h)
  clear h
  cases b
  · show Calls _ _ _ _ fun e w' => e = .returned (.int .i64 3) ∧ _ ∧ _
    go_enter Tryz.func25, Tryz.ntmps25
    go_wp2_with fail
    refine (unhide D).mono ?_
    rintro e w2 ⟨rfl, u2, m2⟩
    have GG := hide (And.intro u2 m2)
    clear m2 u2 D
    go_wp2
    go_ret
    exact ⟨rfl, (unhide GG).1, (unhide GG).2⟩
  · show Calls _ _ _ _ fun e w' => e = .returned (.int .i64 0) ∧ _ ∧ _
    go_enter Tryz.func25, Tryz.ntmps25
    go_wp2_with fail
    refine (unhide D).mono ?_
    rintro e w2 ⟨rfl, u2, m2⟩
    have GG := hide (And.intro u2 m2)
    clear m2 u2 D
    go_wp2
    go_ret
    exact ⟨rfl, (unhide GG).1, (unhide GG).2⟩
set_option maxHeartbeats 2000000 in
theorem polyRefuse_none (p : Option Addr) (b : Bool) (w : World) (h : NU p w) : Calls Tryz.prog 25 #[.pointer p, .bool b] w fun e w' => e = .returned (.int .i64 1) ∧ Grown w w' := by
  have D := hide (noneDot p none none 0 0 0 0 _ h)
  clear h
  go_enter Tryz.func25, Tryz.ntmps25
  go_wp2_with fail
  refine (unhide D).mono ?_
  rintro e w2 ⟨rfl, rfl⟩
  clear D
  go_wp2
  go_ret
  exact ⟨rfl, Grown.refl _⟩

/-- Strictly upper, of n rows and columns. -/
def upB (R C : Int) (len : Nat) (A : Nat → Int) (b : Bool) : Prop := (sqA R C len ∧ b = upTo A C.toNat R.toNat) ∨ (¬ sqA R C len ∧ b = false)

set_option maxRecDepth 20000 in
set_option maxHeartbeats 4000000 in
theorem polyUpper_ok (n b o cap : Nat) (A : Nat → Int) (hn : 1 ≤ n ∧ n ≤ 12) (w : World) (hz : ∀ j, j < n * n → w.cell? ⟨b, o + j, none⟩ = some (.int .i64 (A j))) :
    Calls Tryz.prog 17 #[.agg #[.int .i64 n, .int .i64 n, .slice (some ⟨b, o, none⟩) (n * n) cap]] w fun e w' => e = .returned (.bool (upTo A n n)) ∧ Grown w w' := by
  have SQ := hide (fun w => polySquare n n (some ⟨b, o, none⟩) (n * n) cap w)
  rw [sqB_yes (sqA_of hn)] at SQ
  have HP : Hid (∀ i k, i < n → k < n → i * n + k < n * n) := fun i k hi hk => place_in i k n n hi hk
  have HL := (mul12n n n hn hn).2
  obtain ⟨nn, hnn⟩ : ∃ nn, n * n = nn := ⟨_, rfl⟩
  rw [hnn] at HL HP SQ hz
  rw [hnn]
  have G1 : Hid (Grown w (w.alloc (.cells #[.int .i64 n, .int .i64 n, .slice (some ⟨b, o, none⟩) nn cap] 24)) ∧ Blk w.heap.size #[.int .i64 n, .int .i64 n, .slice (some ⟨b, o, none⟩) nn cap] 24 (w.alloc (.cells #[.int .i64 n, .int .i64 n, .slice (some ⟨b, o, none⟩) nn cap] 24))) := ⟨(Grown.refl _).alloc _ _, Blk.new w _ _⟩
  have HZ := hide hz
  obtain ⟨n0, n1⟩ := hn
  clear hz hnn
  go_enter Tryz.func17, Tryz.ntmps17
  go_wp2_with fail
  generalize w.alloc (.cells #[.int .i64 n, .int .i64 n, .slice (some ⟨b, o, none⟩) nn cap] 24) = w1 at *
  refine (unhide SQ _).mono ?_
  rintro e w2 ⟨rfl, g2⟩
  have b2 := Blk.grown (unhide G1).2 g2
  have y0 : w2.cell? ⟨w.heap.size, 0, none⟩ = some (.int .i64 n) := Blk.cell b2 0
  have y1 : w2.cell? ⟨w.heap.size, 1, none⟩ = some (.int .i64 n) := Blk.cell b2 1
  have y2 : w2.cell? ⟨w.heap.size, 2, none⟩ = some (.slice (some ⟨b, o, none⟩) nn cap) := Blk.cell b2 2
  have GG : Hid (Grown w w2) := gtrans (unhide G1).1 g2
  have Z2 : Hid (∀ j, j < nn → w2.cell? ⟨b, o + j, none⟩ = some (.int .i64 (A j))) := fun j hj => gat (unhide GG) (unhide HZ j hj)
  clear G1 g2 SQ b2 HZ
  go_wp2_with fail
  go_loop [10] (fun i => ∃ k : Nat, k ≤ n ∧ i = .int .i64 k ∧ Hid (upTo A n k = true)) (fun i => n - (intOf i).toNat)
  case atStart => exact ⟨0, Nat.zero_le _, rfl, rfl⟩
  case round =>
    obtain ⟨i, hi, rfl, HI⟩ := hrel
    by_cases hlt : i < n
    · go_wp2_with fail
      go_loop [15] (fun k => ∃ j : Nat, j ≤ i + 1 ∧ k = .int .i64 j ∧ Hid (upRow A n i j = true)) (fun k => i + 1 - (intOf k).toNat)
      case atStart => exact ⟨0, Nat.zero_le _, rfl, rfl⟩
      case round =>
        obtain ⟨k, hk, rfl, HK⟩ := hrel
        by_cases hkt : k < i + 1
        · have hp := unhide HP i k hlt (by omega)
          have hc := unhide Z2 _ hp
          have e2 : upRow A n i (k + 1) = (A (i * n + k) == 0) := by
            show (upRow A n i k && _) = _
            rw [unhide HK, Bool.true_and]
          obtain ⟨p, hpe⟩ : ∃ p, i * n + k = p := ⟨_, rfl⟩
          obtain ⟨q, hqe⟩ : ∃ q, i * n = q := ⟨_, rfl⟩
          rw [hpe] at hp hc e2
          rw [hqe] at hpe
          have wa : wrap64 ((i : Int) * (n : Int)) = (q : Int) := wrapP i n q hqe (by omega)
          have wb : wrap64 ((q : Int) + (k : Int)) = (p : Int) := wrapA q k p hpe (by omega)
          obtain ⟨x, hx⟩ : ∃ x, A p = x := ⟨_, rfl⟩
          rw [hx] at hc e2
          have E2 := hide e2
          clear hx hqe hpe e2
          by_cases h0 : x = 0
          · subst h0
            go_wp2
            go_round
            case rel => exact ⟨k + 1, by omega, by go_num, (unhide E2).trans rfl⟩
            case measure => simp [intOf]; omega
          · have hx0 : (x != 0) = true := by simpa using h0
            have EN : Hid (upTo A n n = false) := by
              cases hu : upTo A n n with
              | false => rfl
              | true =>
                exfalso
                have := (upTo_true A n n).1 hu i hlt
                have h3 := (upRow_true A n i (k + 1)).2 (fun j hj => this j (by omega))
                rw [unhide E2] at h3
                exact h0 (by simpa using h3)
            go_wp2
            go_ret
            exact ⟨by rw [unhide EN]; rfl, unhide GG⟩
        · obtain rfl : k = i + 1 := by omega
          have R : Hid (upTo A n (i + 1) = true) := by
            show (upTo A n i && upRow A n i (i + 1)) = true
            rw [unhide HI, unhide HK]
            rfl
          go_wp2
          go_round
          case rel => exact ⟨i + 1, by omega, by go_num, R⟩
          case measure => simp [intOf]; omega
    · obtain rfl : i = n := by omega
      go_wp2
      go_ret
      exact ⟨by rw [unhide HI]; rfl, unhide GG⟩

set_option maxHeartbeats 2000000 in
theorem polyUpper_bad (R C : Int) (ao : Option Addr) (len cap : Nat) (hb : ¬ sqA R C len) (w : World) :
    Calls Tryz.prog 17 #[.agg #[.int .i64 R, .int .i64 C, .slice ao len cap]] w fun e w' => e = .returned (.bool false) ∧ Grown w w' := by
  have SQ := hide (fun w => polySquare R C ao len cap w)
  rw [sqB_no hb] at SQ
  have G1 : Hid (Grown w (w.alloc (.cells #[.int .i64 R, .int .i64 C, .slice ao len cap] 24))) := (Grown.refl _).alloc _ _
  clear hb
  go_enter Tryz.func17, Tryz.ntmps17
  go_wp2_with fail
  generalize w.alloc (.cells #[.int .i64 R, .int .i64 C, .slice ao len cap] 24) = w1 at *
  refine (unhide SQ _).mono ?_
  rintro e w2 ⟨rfl, g2⟩
  have GG := hide (gtrans (unhide G1) g2)
  clear G1 g2 SQ
  go_wp2
  go_ret
  exact ⟨rfl, unhide GG⟩

open Classical in
noncomputable def upO (R C : Int) (len : Nat) (A : Nat → Int) : Bool := if sqA R C len then upTo A R.toNat R.toNat else false
theorem polyUpper (R C : Int) (ao : Option Addr) (len cap : Nat) (A : Nat → Int) (w : World) (r : Row w ao len A) :
    Calls Tryz.prog 17 #[.agg #[.int .i64 R, .int .i64 C, .slice ao len cap]] w fun e w' => e = .returned (.bool (upO R C len A)) ∧ Grown w w' := by
  unfold upO
  by_cases h : sqA R C len
  · rw [if_pos h]
    obtain ⟨n, rfl, rfl, hn, rfl, k1, k2⟩ := h.nat
    obtain ⟨b, o, rfl, hz⟩ := r.some k1
    exact polyUpper_ok n b o cap A hn w hz
  · rw [if_neg h]
    exact polyUpper_bad R C ao len cap h w

end Go.Proofs.YtopaakjildmjcaaGreat

/- Package poly: the iterator over terms. -/
namespace Go.Proofs.YtopaakjildmjcaaGreat
open Go.RowKit Go.Shelf Go.Proofs.Wd
set_option linter.unusedVariables false
set_option linter.unusedSimpArgs false
set_option maxRecDepth 10000

/-- A step of the iterator's: below N all but block U is as it was; whatever is no cells is as it was. -/
def StT (N U : Nat) (A B : World) : Prop := KeepsOthers A B ∧ B.os = A.os ∧ B.output = A.output ∧ ∀ k, k < N → k ≠ U → B.heap[k]? = A.heap[k]?
theorem StT.trans {N U : Nat} {A B C : World} (h : StT N U A B) (k : StT N U B C) : StT N U A C := ⟨h.1.trans k.1, k.2.1.trans h.2.1, k.2.2.1.trans h.2.2.1, fun i hi hu => (k.2.2.2 i hi hu).trans (h.2.2.2 i hi hu)⟩
theorem StT.mk {N U : Nat} {cs : Array Value} {T : TypeId} {A B : World} (m : Mk U A B) (hU : Blk U cs T A) (hN : N ≤ A.heap.size) : StT N U A B :=
  ⟨⟨m.2.2.2, fun k o hk ho => (m.2.2.1 k (Array.getElem?_eq_some_iff.1 hk).1 (fun e => by
    subst e
    rw [show A.heap[k]? = _ from hU] at hk
    cases hk
    cases ho)).trans hk⟩, m.1, m.2.1, fun k hk hu => m.2.2.1 k (by omega) hu⟩
theorem StT.kp {N U : Nat} {A B : World} (m : Kp A B) (hN : N ≤ A.heap.size) : StT N U A B :=
  ⟨⟨m.2.2.2, fun k o hk ho => (m.2.2.1 k (Array.getElem?_eq_some_iff.1 hk).1).trans hk⟩, m.1, m.2.1, fun k hk hu => m.2.2.1 k (by omega)⟩
theorem StT.set {N U b o : Nat} {v : Value} (A : World) (hb : N ≤ b) : StT N U A (A.setCell ⟨b, o, none⟩ v) :=
  ⟨KeepsOthers.setCell _ _ _, rfl, rfl, fun k hk hu => Below.heap_setCell _ _ _ _ (by show k ≠ b; omega)⟩
theorem StT.new {N U b : Nat} {A B : World} (m : Mod b A B) (hb : N ≤ b) {cs : Array Value} {T : TypeId} (hB : Blk b cs T A) (hN : N ≤ A.heap.size) : StT N U A B :=
  ⟨⟨m.2.2.2.2, fun k o hk ho => (m.2.2.1 k (Array.getElem?_eq_some_iff.1 hk).1 (fun e => by
    subst e
    rw [show A.heap[k]? = _ from hB] at hk
    cases hk
    cases ho)).trans hk⟩, m.1, m.2.1, fun k hk hu => m.2.2.1 k (by omega) (by omega)⟩
theorem KC.cell {D : Nat → Prop} {W W' : World} (h : KC D W W') {b o : Nat} {v : Value} (hc : W.cell? ⟨b, o, none⟩ = some v) (hD : ¬ D b) : W'.cell? ⟨b, o, none⟩ = some v := by
  obtain ⟨x, hx, hi⟩ := cells_of_cell hc
  cases x with
  | cells cs t fr => exact (World.cell?_of_block ((h.1 b cs t fr hD hx).trans hx.symm)).trans hc
  | _ => cases hi

/-- The terms told so far: their blocks. -/
def TSq (N n nn : Nat) (A : Nat → Int) (pre : List (Nat × Nat)) (W : World) : Prop :=
  (∀ i x, pre[i]? = some x → Blk x.1 (ints nn (termZ A n i)) 3 W ∧ N ≤ x.1 ∧ nn ≤ x.2) ∧ (pre.map Prod.fst).Pairwise (· < ·)
def encT (n nn : Nat) (x : Nat × Nat) : Array Value := #[.agg #[.int .i64 n, .int .i64 n, .slice (some ⟨x.1, 0, none⟩) nn x.2]]
def goesT (pre : List (Nat × Nat)) : Prop := pre.length ≤ 24
def UW (U : Nat) (c : Bool) (n0 D : Int) (W : World) : Prop := ∃ cnt, n0 ≤ cnt ∧ cnt ≤ n0 + D ∧ UC U c cnt W
/-- What is there when the iterator has been stopped. -/
def SpT (N U n nn : Nat) (c0 : Bool) (n0 : Int) (A : Nat → Int) (pre : List (Nat × Nat)) (W : World) : Prop :=
  ∃ j, pre.length = j + 1 ∧ j ≤ 24 ∧ TSq N n nn A pre W ∧ UW U (c0 || termC A n j) n0 100000 W
theorem TSq.of {N n nn : Nat} {A : Nat → Int} {pre : List (Nat × Nat)} {W W' : World} (h : TSq N n nn A pre W) (k : ∀ b cs, N ≤ b → Blk b cs 3 W → Blk b cs 3 W') : TSq N n nn A pre W' :=
  ⟨fun i x hx => ⟨k _ _ (h.1 i x hx).2.1 (h.1 i x hx).1, (h.1 i x hx).2⟩, h.2⟩
theorem TSq.of2 {N n nn : Nat} {A : Nat → Int} {pre : List (Nat × Nat)} {W W' : World} (h : TSq N n nn A pre W) (k : ∀ y ∈ pre, ∀ cs, N ≤ y.1 → Blk y.1 cs 3 W → Blk y.1 cs 3 W') : TSq N n nn A pre W' :=
  ⟨fun i x hx => ⟨k x (List.mem_of_getElem? hx) _ (h.1 i x hx).2.1 (h.1 i x hx).1, (h.1 i x hx).2⟩, h.2⟩
theorem TSq.snoc {N n nn : Nat} {A : Nat → Int} {pre : List (Nat × Nat)} {W : World} {B cp : Nat} (h : TSq N n nn A pre W) (hb : Blk B (ints nn (termZ A n pre.length)) 3 W) (hN : N ≤ B) (hc : nn ≤ cp) (hl : ∀ y ∈ pre, y.1 < B) : TSq N n nn A (pre ++ [(B, cp)]) W := by
  refine ⟨fun i x hx => ?_, ?_⟩
  · rw [List.getElem?_append] at hx
    split at hx
    · exact h.1 i x hx
    · rename_i hi
      have : i = pre.length := by
        rcases Nat.lt_or_ge (i - pre.length) 1 with h1 | h1
        · omega
        · rw [List.getElem?_eq_none (by simpa using h1)] at hx; cases hx
      subst this
      rw [Nat.sub_self] at hx
      cases hx
      exact ⟨hb, hN, hc⟩
  · rw [List.map_append, List.pairwise_append]
    refine ⟨h.2, by simp, fun a ha b hb => ?_⟩
    simp at hb
    subst hb
    obtain ⟨y, hy, rfl⟩ := List.mem_map.1 ha
    exact hl y hy
theorem spT_own (N U n nn : Nat) (c0 : Bool) (n0 : Int) (A : Nat → Int) (B : Nat) : OwnFrom B (SpT N U n nn c0 n0 A) := by
  rintro pre W W' row ⟨j, h1, h2, h3, cnt, h4, h5, h6⟩ hg hr
  have hr' : ∀ r, row = some r → ∃ o : Obj, W.heap[r]? = some o ∧ o.isCells = false := fun r e => (hr r e).2
  exact ⟨j, h1, h2, h3.of (fun b cs _ hb => blk_own hb hg hr'), cnt, h4, h5, blk_own h6 hg hr'⟩

/-- What stays: the captured variables, the matrix. -/
def TmC (N U n nn ua aa ab ao cap : Nat) (A : Nat → Int) (W : World) : Prop :=
  Blk ua #[.pointer (some ⟨U, 0, none⟩)] 25 W ∧ Blk aa #[.int .i64 n, .int .i64 n, .slice (some ⟨ab, ao, none⟩) nn cap] 24 W ∧ (∀ j, j < nn → W.cell? ⟨ab, ao + j, none⟩ = some (.int .i64 (A j))) ∧ N ≤ W.heap.size
theorem TmC.kc {N U n nn ua aa ab ao cap : Nat} {A : Nat → Int} {D : Nat → Prop} {W W' : World} (h : TmC N U n nn ua aa ab ao cap A W) (k : KC D W W') (h1 : ¬ D ua) (h2 : ¬ D aa) (h3 : ¬ D ab) : TmC N U n nn ua aa ab ao cap A W' :=
  ⟨k.blk h.1 h1, k.blk h.2.1 h2, fun j hj => k.cell (h.2.2.1 j hj) h3, Nat.le_trans h.2.2.2 k.2⟩
theorem TmC.mk {N U n nn ua aa ab ao cap V : Nat} {A : Nat → Int} {W W' : World} (h : TmC N U n nn ua aa ab ao cap A W) (k : Mk V W W') (h1 : ua ≠ V) (h2 : aa ≠ V) (h3 : ab ≠ V) : TmC N U n nn ua aa ab ao cap A W' :=
  ⟨Blk.mk h.1 k h1, Blk.mk h.2.1 k h2, fun j hj => k.cell (h.2.2.1 j hj) h3, Nat.le_trans h.2.2.2 k.2.2.2⟩
/-- Between two rounds. -/
def TmI (N U n nn ua aa ab ao cap Tb : Nat) (c0 : Bool) (n0 : Int) (A : Nat → Int) (J : List (Nat × Nat) → World → Prop) (j : Nat) (wr : World) : Prop :=
  ∃ (pre : List (Nat × Nat)) (B cp : Nat), J pre wr ∧ pre.length = j ∧ TSq N n nn A pre wr ∧ Blk Tb #[.int .i64 n, .int .i64 n, .slice (some ⟨B, 0, none⟩) nn cp] 24 wr ∧ Blk B (ints nn (termZ A n j)) 3 wr ∧ nn ≤ cp ∧ N ≤ B ∧ (∀ y ∈ pre, y.1 < B) ∧
    UW U (c0 || termC A n j) n0 ((j : Int) * 4000) wr ∧ TmC N U n nn ua aa ab ao cap A wr
/-- The entries' division under way. -/
def mixZ (Y : Nat → Int) (m k : Nat) : Nat → Int := fun i => if i < k then dvZ Y m i else Y i
theorem mix_zero (nn : Nat) (Y : Nat → Int) (m : Nat) : ints nn Y = ints nn (mixZ Y m 0) := ints_congr _ _ _ fun i _ => by simp [mixZ]
theorem mix_all (nn : Nat) (Y : Nat → Int) (m : Nat) : ints nn (mixZ Y m nn) = ints nn (dvZ Y m) := ints_congr _ _ _ fun i hi => by simp [mixZ, hi]
theorem mix_succ (nn : Nat) (Y : Nat → Int) (m k : Nat) : ints nn (fun i => if i = k then dvZ Y m k else mixZ Y m k i) = ints nn (mixZ Y m (k + 1)) := ints_congr _ _ _ fun i _ => by
  unfold mixZ
  by_cases e : i = k
  · subst e; simp
  · rw [if_neg e]
    by_cases h : i < k
    · rw [if_pos h, if_pos (by omega)]
    · rw [if_neg h, if_neg (by omega)]
def DvI (N U n nn ua aa ab ao cap Tb B cp : Nat) (c1 : Bool) (n1 : Int) (A Y : Nat → Int) (j k : Nat) (w5 wr : World) : Prop :=
  Blk Tb #[.int .i64 n, .int .i64 n, .slice (some ⟨B, 0, none⟩) nn cp] 24 wr ∧ Blk B (ints nn (mixZ Y (j + 1) k)) 3 wr ∧ UC U (c1 || orC (dvG Y (j + 1)) k) (n1 + 2 * k) wr ∧ TmC N U n nn ua aa ab ao cap A wr ∧ StT N U w5 wr ∧ (∀ b cs, b ≠ Tb → b ≠ B → b ≠ U → Blk b cs 3 w5 → Blk b cs 3 wr)
theorem blk_ne {b c : Nat} {cs ds : Array Value} {T S : TypeId} {w : World} (h : Blk b cs T w) (k : Blk c ds S w) (hT : T ≠ S) : b ≠ c := fun e => by
  subst e
  unfold Blk at h k
  rw [h] at k
  cases k
  exact hT rfl


theorem DvI.put {N U n nn ua aa ab ao cap Tb B cp : Nat} {c1 wc qc : Bool} {n1 q : Int} {A Y : Nat → Int} {j k : Nat} {w5 wr w7 : World} (h : DvI N U n nn ua aa ab ao cap Tb B cp c1 n1 A Y j k w5 wr) (u : UC U (c1 || orC (dvG Y (j + 1)) k || wc || qc) (n1 + 2 * k + 1 + 1) w7) (m : Mod U wr w7) (hk : k < nn) (e1 : q = dvZ Y (j + 1) k) (e2 : orC (dvG Y (j + 1)) (k + 1) = (orC (dvG Y (j + 1)) k || (wc || qc))) (nua : ua ≠ U) (naa : aa ≠ U) (nab : ab ≠ U) (lU : U < N) (lua : ua < N) (laa : aa < N) (lab : ab < N) (hB : N ≤ B) :
    DvI N U n nn ua aa ab ao cap Tb B cp c1 n1 A Y j (k + 1) w5 (w7.setCell ⟨B, k, none⟩ (.int .i64 q)) ∧ Blk Tb #[.int .i64 n, .int .i64 n, .slice (some ⟨B, 0, none⟩) nn cp] 24 w7 ∧ Blk B (ints nn (mixZ Y (j + 1) k)) 3 w7 := by
  obtain ⟨h1, h2, h3, h4, h5, h6⟩ := h
  have s : Mod B w7 (w7.setCell ⟨B, k, none⟩ (.int .i64 q)) := (Mod.refl _ _).setCell _ _
  have tU : Tb ≠ U := blk_ne h1 h3 (by decide +kernel)
  have bU : B ≠ U := blk_ne h2 h3 (by decide +kernel)
  have tB : Tb ≠ B := blk_ne h1 h2 (by decide +kernel)
  have t7 := Blk.keep h1 m tU
  have b7 := Blk.keep h2 m bU
  have c7 := h4.mk (Mk.of m) nua naa nab
  refine ⟨⟨Blk.keep t7 s tB, ?_, ?_, c7.mk (Mk.of s) (by omega) (by omega) (by omega), (h5.trans (StT.mk (Mk.of m) h3 h4.2.2.2)).trans (StT.set w7 hB), fun b cs n1 n2 n3 hb => Blk.keep (Blk.keep (h6 b cs n1 n2 n3 hb) m n3) s n2⟩, t7, b7⟩
  · have := Blk.setI b7 k q
    rw [e1, mix_succ] at this
    rw [e1]
    exact this
  · rw [e2, ← Bool.or_assoc, ← Bool.or_assoc, show n1 + 2 * ((k + 1 : Nat) : Int) = n1 + 2 * k + 1 + 1 by omega]
    exact Blk.keep u s (Ne.symm bU)

theorem DvI.drew {N U n nn ua aa ab ao cap Tb B cp : Nat} {c1 : Bool} {n1 : Int} {A Y : Nat → Int} {j k : Nat} {w5 wr : World} (h : DvI N U n nn ua aa ab ao cap Tb B cp c1 n1 A Y j k w5 wr) : DvI N U n nn ua aa ab ao cap Tb B cp c1 n1 A Y j k w5 wr.drew :=
  ⟨h.1, h.2.1, h.2.2.1, ⟨h.2.2.2.1.1, h.2.2.2.1.2.1, h.2.2.2.1.2.2.1, h.2.2.2.1.2.2.2⟩, ⟨⟨h.2.2.2.2.1.1.size, h.2.2.2.2.1.1.same⟩, h.2.2.2.2.1.2.1, h.2.2.2.2.1.2.2.1, h.2.2.2.2.1.2.2.2⟩, h.2.2.2.2.2⟩

section
attribute [local go_sem] Oper.semAt_some

set_option maxRecDepth 100000 in
set_option maxHeartbeats 8000000 in
theorem terms1_in (f l N U n nn ua aa ab ao cap : Nat) (hf : 1 ≤ f) (c0 : Bool) (n0 : Int) (hn0 : 0 ≤ n0 ∧ n0 < 1000000000000000000) (A : Nat → Int) (hn : 1 ≤ n ∧ n ≤ 12) (hnn : n * n = nn) (hA : ∀ j, j < nn → I64 (A j)) (hcap : nn ≤ cap) (nua : ua ≠ U) (naa : aa ≠ U) (nab : ab ≠ U) (lU : U < N) (lua : ua < N) (laa : aa < N) (lab : ab < N)
    (D : Nat → Prop) (dU : ¬ D U) (dua : ¬ D ua) (daa : ¬ D aa) (dab : ¬ D ab) (dN : ∀ k, N ≤ k → ¬ D k) (J Jx : List (Nat × Nat) → World → Prop) (hJ : ∀ s X Y, J s X → StT N U X Y → J s Y)
    (hY : ∀ pre x W1, J pre W1 → True → YieldAt Fence.wide (f - 1) Tryz.prog l (encT n nn x) W1 fun e W' => KC D W1 W' ∧ ((e = .returned (.bool true) ∧ J (pre ++ [x]) W' ∧ goesT (pre ++ [x])) ∨ (e = .returned (.bool false) ∧ Jx (pre ++ [x]) W')))
    (W : World) (hU : UC U c0 n0 W) (hC : TmC N U n nn ua aa ab ao cap A W) (h0 : J [] W) :
    CallsIn Fence.wide f Tryz.prog 44 #[.func (.yield l) #[] #[], .pointer (some ⟨aa, 0, none⟩), .pointer (some ⟨ua, 0, none⟩)] W fun e W' => (∃ v, e = .returned v) ∧ ((∃ xs : List (Nat × Nat), False ∧ J xs W') ∨ (∃ pre, SpT N U n nn c0 n0 A pre W' ∧ Jx pre W')) := by
  have k2 := mul12n n n hn hn
  rw [hnn] at k2
  have HE := hide (fun w => matEye_ok n hn w)
  rw [hnn] at HE
  have d0 : W.cell? ⟨aa, 0, none⟩ = some (.int .i64 n) := Blk.cell hC.2.1 0
  have HY := hide hY
  have HJ := hide hJ
  have HW := hide (And.intro hU (And.intro hC h0))
  have HN := hide (And.intro hn (And.intro hn0 k2))
  have HA := hide hA
  have HM : Hid (∀ m, m ≤ 24 → ∀ wx B cp (c : Bool) (q : Int), 0 ≤ q ∧ q < 1152921504606846976 → nn ≤ cp → UC U c q wx → Row wx (some ⟨B, 0, none⟩) nn (termZ A n m) → B ≠ U → (∀ j, j < nn → wx.cell? ⟨ab, ao + j, none⟩ = some (.int .i64 (A j))) →
      Calls Tryz.prog 46 #[.pointer (some ⟨U, 0, none⟩), .agg #[.int .i64 n, .int .i64 n, .slice (some ⟨B, 0, none⟩) nn cp], .agg #[.int .i64 n, .int .i64 n, .slice (some ⟨ab, ao, none⟩) nn cap]] wx fun e w' => MatP n n nn (mulZ (termZ A n m) A n n) 0 (fun w' => UC U (c || orC (mulG (termZ A n m) A n n) nn) (q + 2 * n * (nn : Int)) w' ∧ Mk U wx w') wx e w') := by
    intro m hm wx B cp c q hq hcp hu hr hB hab
    have ht := termZ_I64 A n m
    rw [hnn] at ht
    obtain ⟨_, _, e, hz⟩ := hr.some (by omega)
    cases e
    have := matMul_ok U c q hq n n n B 0 cp ab ao cap (termZ A n m) A hn hn hn (by rw [hnn]; exact hcp) (by rw [hnn]; exact ht) (by rw [hnn]; exact hA) wx hu (by rw [hnn]; exact hz) (by rw [hnn]; exact hab) hB nab
    rw [hnn] at this
    exact this
  have HNE := hide (And.intro nua (And.intro naa (And.intro nab (And.intro lU (And.intro lua (And.intro laa lab))))))
  have HD := hide (And.intro dU (And.intro dua (And.intro daa (And.intro dab dN))))
  have EN := hide hnn
  have n1 : 1 ≤ nn := k2.1
  clear hY hJ h0 hU hC hn hn0 hA nua naa nab lU lua laa lab dU dua daa dab dN hnn k2 hcap
  refine callsIn_of_wp Tryz.func44 rfl trivial ?_ rfl
  simp only [Tryz.ntmps44, List.size_toArray, List.length_cons, List.length_nil, Nat.reduceAdd, Nat.reduceSub, Array.replicate_succ, Array.replicate_zero, List.push_toArray, List.append_toArray, List.nil_append, List.cons_append]
  gi_wp2_with (refine ⟨trivial, ?_⟩; gi_at_call 45; refine (callsIn_wide.2 (unhide HE _)).mono ?_; rintro e w1 ⟨_, cp, B, rfl, hB, hb, hcp, k1⟩; obtain ⟨rfl, hbn⟩ := hb.resolve_left (Nat.ne_of_gt n1); have R1 := hide (And.intro hB (And.intro hbn (And.intro hcp k1))); clear hB hb hbn hcp k1)
  have I0 : Hid (TmI N U n nn ua aa ab ao cap w1.heap.size c0 n0 A J 0 (w1.alloc (.cells #[.int .i64 n, .int .i64 n, .slice (some ⟨B, 0, none⟩) nn cp] 24)) ∧ N ≤ w1.heap.size) := by
    obtain ⟨hB, hb, hcp, k1⟩ := unhide R1
    obtain ⟨hU, hC, h0⟩ := unhide HW
    have k2 : Kp W (w1.alloc (.cells #[.int .i64 n, .int .i64 n, .slice (some ⟨B, 0, none⟩) nn cp] 24)) := k1.grown ((Grown.refl _).alloc _ _)
    refine ⟨⟨[], B, cp, unhide HJ _ _ _ h0 (StT.kp k2 hC.2.2.2), rfl, ⟨fun i x hx => (by cases hx), List.Pairwise.nil⟩, Blk.new _ _ _, Blk.grown hb ((Grown.refl _).alloc _ _), hcp, Nat.le_trans hC.2.2.2 hB, fun _ h => absurd h List.not_mem_nil, ⟨n0, by omega, by omega, ?_⟩, (hC.mk (Mk.kp (U := U) k2) (unhide HNE).1 (unhide HNE).2.1 (unhide HNE).2.2.1)⟩, Nat.le_trans hC.2.2.2 k1.2.2.2⟩
    show UC U (c0 || false) _ _
    rw [Bool.or_false]
    exact Blk.kp hU k2
  have HTb : Hid (N ≤ w1.heap.size) := (unhide I0).2
  clear R1 HW d0 HE
  generalize w1.alloc (.cells #[.int .i64 n, .int .i64 n, .slice (some ⟨B, 0, none⟩) nn cp] 24) = w2 at *
  generalize w1.heap.size = Tb at *
  gi_loopw [6] (fun i wr => ∃ j : Nat, j ≤ 24 ∧ i = .int .i64 ((j + 1 : Nat) : Int) ∧ Hid (TmI N U n nn ua aa ab ao cap Tb c0 n0 A J j wr)) (fun i _ => 26 - (intOf i).toNat)
  case atStart => exact ⟨0, Nat.zero_le _, rfl, (unhide I0).1⟩
  case round =>
    obtain ⟨j, hj, rfl, HI⟩ := hrel
    clear I0
    obtain ⟨pre, B, cp, hJ1, hl, hT, hTb, hb, hcp, hB, hlt, hu, hC⟩ := unhide HI
    obtain ⟨fn, tmps, assign, body, hy, hR⟩ := unhide HY pre (B, cp) wr hJ1 trivial
    dsimp only [encT] at hy
    have x0 : wr.cell? ⟨Tb, 0, none⟩ = some (.int .i64 n) := Blk.cell hTb 0
    have x1 : wr.cell? ⟨Tb, 1, none⟩ = some (.int .i64 n) := Blk.cell hTb 1
    have x2 : wr.cell? ⟨Tb, 2, none⟩ = some (.slice (some ⟨B, 0, none⟩) nn cp) := Blk.cell hTb 2
    have HS := hide (And.intro hl (And.intro hT (And.intro hTb (And.intro hb (And.intro hcp (And.intro hB (And.intro hlt (And.intro hu hC))))))))
    clear hJ1 hl hT hTb hb hcp hB hlt hu hC HI
    gi_wp2
    refine hR.mono ?_
    rintro e W3 ⟨hk, (⟨rfl, hJ3, hP⟩ | ⟨rfl, hJx⟩)⟩
    · obtain ⟨hl, hT, hTb, hb, hcp, hB, hlt, ⟨cnt, q1, q2, hu⟩, hC⟩ := unhide HS
      obtain ⟨dU, dua, daa, dab, dN⟩ := unhide HD
      have hj2 : j + 1 ≤ 24 := by unfold goesT at hP; rw [List.length_append] at hP; simpa [hl] using hP
      have hT3 : TSq N n nn A (pre ++ [(B, cp)]) W3 := (hT.of (fun b cs hbN h => hk.blk h (dN b hbN))).snoc (by rw [hl]; exact hk.blk hb (dN B hB)) hB hcp hlt
      have hTb3 := hk.blk hTb (dN Tb (unhide HTb))
      have hb3 := hk.blk hb (dN B hB)
      have hu3 := hk.blk hu dU
      have hC3 := hC.kc hk dua daa dab
      have x0 : W3.cell? ⟨Tb, 0, none⟩ = some (.int .i64 n) := Blk.cell hTb3 0
      have x1 : W3.cell? ⟨Tb, 1, none⟩ = some (.int .i64 n) := Blk.cell hTb3 1
      have x2 : W3.cell? ⟨Tb, 2, none⟩ = some (.slice (some ⟨B, 0, none⟩) nn cp) := Blk.cell hTb3 2
      have y0 : W3.cell? ⟨ua, 0, none⟩ = some (.pointer (some ⟨U, 0, none⟩)) := Blk.cell hC3.1 0
      have z0 : W3.cell? ⟨aa, 0, none⟩ = some (.int .i64 n) := Blk.cell hC3.2.1 0
      have z1 : W3.cell? ⟨aa, 1, none⟩ = some (.int .i64 n) := Blk.cell hC3.2.1 1
      have z2 : W3.cell? ⟨aa, 2, none⟩ = some (.slice (some ⟨ab, ao, none⟩) nn cap) := Blk.cell hC3.2.1 2
      have hB3 := Blk.lt hb3
      have bB : ∀ y ∈ pre ++ [(B, cp)], y.1 < W3.heap.size := fun y hy => by
        obtain ⟨i, hi⟩ := List.getElem?_of_mem hy
        exact Blk.lt (hT3.1 i y hi).1
      have qb : 0 ≤ (j : Int) * 4000 ∧ (j : Int) * 4000 ≤ 96000 := by omega
      have MU := hide (unhide HM j hj W3 B cp (c0 || termC A n j) cnt (by have := (unhide HN).2.1; omega) hcp hu3 (Blk.row hb3) (blk_ne (b := B) (c := U) hb3 hu3 (by decide +kernel)) hC3.2.2.1)
      have S3 := hide (And.intro hJ3 (And.intro hl (And.intro hT3 (And.intro hTb3 (And.intro hu3 (And.intro hC3 (And.intro bB (And.intro q1 (And.intro q2 hj2)))))))))
      clear hJ3 hl hT hT3 hTb hTb3 hb hb3 hu hu3 hC hC3 hcp hB hlt hk hP q1 q2 dU dua daa dab dN bB hB3 hR hy HS qb
      gi_wp2_with (refine ⟨trivial, ?_⟩; gi_at_call 46; refine (callsIn_wide.2 (unhide MU)).mono ?_; rintro e w4 ⟨_, cp2, B2, rfl, hB2, hb2, hcp2, hu4, m4⟩; obtain ⟨rfl, hbn⟩ := hb2.resolve_left (Nat.ne_of_gt n1); have t4 := Blk.mk (unhide S3).2.2.2.1 m4 (blk_ne (unhide S3).2.2.2.1 (unhide S3).2.2.2.2.1 (by decide +kernel)); have x0 : w4.cell? ⟨Tb, 0, none⟩ = some (.int .i64 n) := Blk.cell t4 0; have x1 : w4.cell? ⟨Tb, 1, none⟩ = some (.int .i64 n) := Blk.cell t4 1; have x2 : w4.cell? ⟨Tb, 2, none⟩ = some (.slice (some ⟨B, 0, none⟩) nn cp) := Blk.cell t4 2; have ff := Blk.free t4; have R4 := hide (And.intro hB2 (And.intro hbn (And.intro hcp2 (And.intro hu4 (And.intro m4 t4))))); clear hB2 hb2 hbn hcp2 hu4 m4 t4)
      obtain ⟨Y, hYe⟩ : ∃ Y, mulZ (termZ A n j) A n n = Y := ⟨_, rfl⟩
      obtain ⟨w5, hw5⟩ : ∃ w5, (((w4.setCell ⟨Tb, 0, none⟩ (.int .i64 n)).setCell ⟨Tb, 1, none⟩ (.int .i64 n)).setCell ⟨Tb, 2, none⟩ (.slice (some ⟨B2, 0, none⟩) nn cp2)) = w5 := ⟨_, rfl⟩
      have S5 : Hid (DvI N U n nn ua aa ab ao cap Tb B2 cp2 (c0 || termC A n j || orC (mulG (termZ A n j) A n n) nn) (cnt + 2 * n * (nn : Int)) A Y j 0 w5 w5 ∧ StT N U W3 w5 ∧ TSq N n nn A (pre ++ [(B, cp)]) w5 ∧ (∀ y ∈ pre ++ [(B, cp)], y.1 < B2) ∧ N ≤ B2 ∧ nn ≤ cp2) := by
        obtain ⟨hB2, hb2, hcp2, hu4, m4, t4⟩ := unhide R4
        obtain ⟨_, hl, hT3, hTb3, hu3, hC3, bB, q1, q2, hj2⟩ := unhide S3
        obtain ⟨nua, naa, nab, lU, lua, laa, lab⟩ := unhide HNE
        have hTbN := unhide HTb
        have P := putM t4 (.int .i64 n) (.int .i64 n) (.slice (some ⟨B2, 0, none⟩) nn cp2)
        rw [hw5] at P
        have tl := Blk.lt hTb3
        have c4 := hC3.mk m4 nua naa nab
        have s1 : StT N U W3 w4 := StT.mk m4 hu3 hC3.2.2.2
        have s2 : StT N U w4 w5 := StT.new P.2 hTbN t4 c4.2.2.2
        refine ⟨⟨P.1, ?_, ?_, c4.mk (Mk.of P.2) (by omega) (by omega) (by omega), ⟨KeepsOthers.refl _, rfl, rfl, fun _ _ _ => rfl⟩, fun _ _ _ _ _ h => h⟩, s1.trans s2, hT3.of (fun b cs hbN h => Blk.keep (Blk.mk h m4 (by omega)) P.2 (blk_ne (Blk.mk h m4 (by omega)) t4 (by decide +kernel))), fun y hy => Nat.lt_of_lt_of_le (bB y hy) hB2, Nat.le_trans hC3.2.2.2 hB2, hcp2⟩
        · rw [← mix_zero, ← hYe]
          exact Blk.keep hb2 P.2 (by omega)
        · show UC U (_ || false) (_ + 2 * 0) _
          rw [Bool.or_false, Int.mul_zero, Int.add_zero]
          exact Blk.keep hu4 P.2 (by omega)
      have J3 := hide (unhide S3).1
      have K3 : Hid (pre.length = j ∧ n0 ≤ cnt ∧ cnt ≤ n0 + (j : Int) * 4000 ∧ j + 1 ≤ 24) := ⟨(unhide S3).2.1, (unhide S3).2.2.2.2.2.2.2.1, (unhide S3).2.2.2.2.2.2.2.2.1, (unhide S3).2.2.2.2.2.2.2.2.2⟩
      rw [hw5]
      have g2 : w5.cell? ⟨Tb, 2, none⟩ = some (.slice (some ⟨B2, 0, none⟩) nn cp2) := Blk.cell (unhide S5).1.1 2
      clear hw5 R4 S3 x0 x1 x2 y0 z0 z1 z2 MU ff
      have HYE := hide hYe
      clear hYe
      gi_wp2
      gi_loopw [30] (fun i wq => ∃ k : Nat, k ≤ nn ∧ i = .int .i64 k ∧ Hid (DvI N U n nn ua aa ab ao cap Tb B2 cp2 (c0 || termC A n j || orC (mulG (termZ A n j) A n n) nn) (cnt + 2 * n * (nn : Int)) A Y j k w5 wq)) (fun i _ => nn - (intOf i).toNat)
      case atStart => exact ⟨0, Nat.zero_le _, rfl, (unhide S5).1⟩
      case round =>
        obtain ⟨k, hk, rfl, HK⟩ := hrel
        clear g2
        by_cases hkn : k < nn
        · have xk : wr.cell? ⟨B2, k, none⟩ = some (.int .i64 (Y k)) := by
            rw [Blk.cell (unhide HK).2.1, ints_at nn _ k hkn]
            simp [mixZ]
          have y0 : wr.cell? ⟨Tb, 2, none⟩ = some (.slice (some ⟨B2, 0, none⟩) nn cp2) := Blk.cell (unhide HK).1 2
          have y1 : wr.cell? ⟨ua, 0, none⟩ = some (.pointer (some ⟨U, 0, none⟩)) := Blk.cell (unhide HK).2.2.2.1.1 0
          have i0 : (0 : Int) ≤ (k : Int) := by omega
          have i1 : (k : Int) < (nn : Int) := by omega
          have k144 : k ≤ 143 := by have := (unhide HN).2.2.2; omega
          have mI : I64 ((j + 1 : Nat) : Int) := by unfold I64; omega
          have yI : I64 (Y k) := by
            rw [← unhide HYE]
            exact mulZ_I64 _ _ _ _ _
          have UL : U < wr.heap.size := Blk.lt (unhide HK).2.2.1
          have hm := unhide HN
          have kb : (n : Int) * (nn : Int) ≤ 12 * 144 := Int.mul_le_mul (by omega) (by omega) (by omega) (by omega)
          have kb0 : 0 ≤ (n : Int) * (nn : Int) := Int.mul_nonneg (by omega) (by omega)
          have kq : 2 * (n : Int) * (nn : Int) = 2 * ((n : Int) * (nn : Int)) := Int.mul_assoc _ _ _
          have kj : (j : Int) * 4000 ≤ 96000 := by omega
          have cb : 0 ≤ cnt + 2 * (n : Int) * (nn : Int) + 2 * (k : Int) ∧ cnt + 2 * (n : Int) * (nn : Int) + 2 * (k : Int) + 10 < 2305843009213693952 := by
            have := (unhide K3).2
            rw [kq]
            generalize (n : Int) * (nn : Int) = p at *
            omega
          have WH := hide (fun c w h => unitWhole U c (cnt + 2 * (n : Int) * (nn : Int) + 2 * (k : Int)) ((j + 1 : Nat) : Int) mI ⟨cb.1, by omega⟩ w h)
          have DV := hide (fun c w h => unitDiv U c (cnt + 2 * (n : Int) * (nn : Int) + 2 * (k : Int) + 1) (Y k) (whoN ((j + 1 : Nat) : Int)) yI (whoN_I64 _) ⟨by omega, by omega⟩ w h)
          have ED : Hid (divN (Y k) (whoN ((j + 1 : Nat) : Int)) = dvZ Y (j + 1) k) := rfl
          have EG : Hid (orC (dvG Y (j + 1)) (k + 1) = (orC (dvG Y (j + 1)) k || (whoC ((j + 1 : Nat) : Int) || divC (Y k) (whoN ((j + 1 : Nat) : Int))))) := rfl
          generalize whoN ((j + 1 : Nat) : Int) = wm at *
          generalize whoC ((j + 1 : Nat) : Int) = wc at *
          generalize Y k = y at *
          generalize divN y wm = q at *
          generalize divC y wm = qc at *
          clear kb kb0 kq kj cb hm
          gi_wp2
          refine wpIn_wide.2 ?_
          refine region_G (fun w' => w'.cell? ⟨Tb, 2, none⟩ = some (.slice (some ⟨B2, 0, none⟩) nn cp2) ∧ w'.cell? ⟨ua, 0, none⟩ = some (.pointer (some ⟨U, 0, none⟩))) 10 (by kernel_rfl) ⟨y0, y1⟩ (fun hHeld => ?_)
          refine take_G (i := 0) (d := 35) (v := .pointer (some ⟨Tb, 2, none⟩)) rfl rfl (by kernel_rfl) (by kernel_rfl) (by kernel_rfl) (by kernel_rfl) (by kernel_rfl) (Or.inl ⟨by rfl, ?_⟩) hHeld ?_
          · intro wS hSw
            obtain ⟨z0, z1⟩ := hSw
            clear hHeld
            go_simp
          (try simp only [Act.put, List.setIfInBounds_toArray, List.set_cons_zero, List.set_cons_succ])
          refine take_G (i := 1) (d := 36) (v := .slice (some ⟨B2, 0, none⟩) nn cp2) rfl rfl (by kernel_rfl) (by kernel_rfl) (by kernel_rfl) (by kernel_rfl) (by kernel_rfl) (Or.inl ⟨by rfl, ?_⟩) hHeld ?_
          · intro wS hSw
            obtain ⟨z0, z1⟩ := hSw
            clear hHeld
            go_simp
          (try simp only [Act.put, List.setIfInBounds_toArray, List.set_cons_zero, List.set_cons_succ])
          refine take_G (i := 2) (d := 37) (v := .int .i64 (k : Int)) rfl rfl (by kernel_rfl) (by kernel_rfl) (by kernel_rfl) (by kernel_rfl) (by kernel_rfl) (Or.inl ⟨by rfl, ?_⟩) hHeld ?_
          · intro wS hSw
            obtain ⟨z0, z1⟩ := hSw
            clear hHeld
            go_simp
          (try simp only [Act.put, List.setIfInBounds_toArray, List.set_cons_zero, List.set_cons_succ])
          refine take_G (i := 3) (d := 38) (v := .pointer (some ⟨U, 0, none⟩)) rfl rfl (by kernel_rfl) (by kernel_rfl) (by kernel_rfl) (by kernel_rfl) (by kernel_rfl) (Or.inl ⟨by rfl, ?_⟩) hHeld ?_
          · intro wS hSw
            obtain ⟨z0, z1⟩ := hSw
            clear hHeld
            go_simp
          (try simp only [Act.put, List.setIfInBounds_toArray, List.set_cons_zero, List.set_cons_succ])
          refine take_G (i := 4) (d := 39) (v := .int .i64 y) rfl rfl (by kernel_rfl) (by kernel_rfl) (by kernel_rfl) (by kernel_rfl) (by kernel_rfl) (Or.inl ⟨by rfl, ?_⟩) hHeld ?_
          · intro wS hSw
            obtain ⟨z0, z1⟩ := hSw
            clear hHeld
            go_simp
          (try simp only [Act.put, List.setIfInBounds_toArray, List.set_cons_zero, List.set_cons_succ])
          refine take_G (i := 5) (d := 40) (v := .pointer (some ⟨U, 0, none⟩)) rfl rfl (by kernel_rfl) (by kernel_rfl) (by kernel_rfl) (by kernel_rfl) (by kernel_rfl) (Or.inl ⟨by rfl, ?_⟩) hHeld ?_
          · intro wS hSw
            obtain ⟨z0, z1⟩ := hSw
            clear hHeld
            go_simp
          (try simp only [Act.put, List.setIfInBounds_toArray, List.set_cons_zero, List.set_cons_succ])
          refine take_G (i := 6) (d := 41) (v := .int .i64 ((j + 1 : Nat) : Int)) rfl rfl (by kernel_rfl) (by kernel_rfl) (by kernel_rfl) (by kernel_rfl) (by kernel_rfl) (Or.inl ⟨by rfl, ?_⟩) hHeld ?_
          · intro wS hSw
            obtain ⟨z0, z1⟩ := hSw
            clear hHeld
            go_simp
          (try simp only [Act.put, List.setIfInBounds_toArray, List.set_cons_zero, List.set_cons_succ])
          have HK2 : Hid (DvI N U n nn ua aa ab ao cap Tb B2 cp2 (c0 || termC A n j || orC (mulG (termZ A n j) A n n) nn) (cnt + 2 * n * (nn : Int)) A Y j k w5 wr.drew) := (unhide HK).drew
          clear HK xk y0 y1 hHeld
          refine step_G (i := 7) (by kernel_rfl) (fun K hK => ?_)
          refine wpOp_of rfl rfl ?_
          unfold Oper.wp
          go_simp
          refine (unhide WH _ _ (unhide HK2).2.2.1).mono ?_
          rintro e w6 ⟨rfl, u6, m6⟩
          have b6 := Blk.keep (unhide HK2).1 m6 (blk_ne (unhide HK2).1 (unhide HK2).2.2.1 (by decide +kernel))
          have v6 := Blk.keep (unhide HK2).2.2.2.1.1 m6 (unhide HNE).1
          have hHeld : w6.cell? ⟨Tb, 2, none⟩ = some (.slice (some ⟨B2, 0, none⟩) nn cp2) ∧ w6.cell? ⟨ua, 0, none⟩ = some (.pointer (some ⟨U, 0, none⟩)) := ⟨Blk.cell b6 2, Blk.cell v6 0⟩
          have S6 := hide (And.intro u6 (And.intro m6 (And.intro b6 v6)))
          refine hK _ _ (fun _ => hHeld) ?_
          clear hK K u6 m6 b6 v6
          (try simp only [Act.put, List.setIfInBounds_toArray, List.set_cons_zero, List.set_cons_succ])
          refine step_G (i := 8) (by kernel_rfl) (fun K hK => ?_)
          refine wpOp_of rfl rfl ?_
          unfold Oper.wp
          go_simp
          refine (unhide DV _ _ (unhide S6).1).mono ?_
          rintro e w7 ⟨rfl, u7, m7⟩
          have P7 := hide ((unhide HK2).put u7 ((unhide S6).2.1.trans m7) hkn (unhide ED) (unhide EG) (unhide HNE).1 (unhide HNE).2.1 (unhide HNE).2.2.1 (unhide HNE).2.2.2.1 (unhide HNE).2.2.2.2.1 (unhide HNE).2.2.2.2.2.1 (unhide HNE).2.2.2.2.2.2 (unhide S5).2.2.2.2.1)
          have b7 := (unhide P7).2.1
          have k7 := Blk.cell (unhide P7).2.2 k
          rw [ints_at nn _ k hkn] at k7
          have f7 := Blk.free (unhide P7).2.2 k
          have v7 := Blk.keep (unhide S6).2.2.2 m7 (unhide HNE).1
          have hHeld : w7.cell? ⟨Tb, 2, none⟩ = some (.slice (some ⟨B2, 0, none⟩) nn cp2) ∧ w7.cell? ⟨ua, 0, none⟩ = some (.pointer (some ⟨U, 0, none⟩)) := ⟨Blk.cell b7 2, Blk.cell v7 0⟩
          refine hK _ _ (fun _ => hHeld) ?_
          clear hK K u7 m7 b7 v7 S6
          (try simp only [Act.put, List.setIfInBounds_toArray, List.set_cons_zero, List.set_cons_succ])
          refine take_G (i := 9) (d := 44) (v := .pointer (some ⟨B2, k, none⟩)) rfl rfl (by kernel_rfl) (by kernel_rfl) (by kernel_rfl) (by kernel_rfl) (by kernel_rfl) (Or.inl ⟨by rfl, ?_⟩) hHeld ?_
          · intro wS hSw
            obtain ⟨z0, z1⟩ := hSw
            clear hHeld
            go_simp
          (try simp only [Act.put, List.setIfInBounds_toArray, List.set_cons_zero, List.set_cons_succ])
          clear hHeld
          generalize mixZ Y (j + 1) k k = old at *
          refine step_G (i := 10) (by kernel_rfl) (fun K hK => ?_)
          refine wpOp_of rfl rfl ?_
          unfold Oper.wp
          go_simp
          refine hK _ _ (fun h => absurd rfl h) ?_
          clear hK K
          (try simp only [Act.put, List.setIfInBounds_toArray, List.set_cons_zero, List.set_cons_succ])
          refine done_G (by kernel_rfl) ?_
          refine noPanic_normalE ?_
          have R : Hid (DvI N U n nn ua aa ab ao cap Tb B2 cp2 (c0 || termC A n j || orC (mulG (termZ A n j) A n n) nn) (cnt + 2 * n * (nn : Int)) A Y j (k + 1) w5 (w7.setCell ⟨B2, k, none⟩ (.int .i64 q))) := (unhide P7).1
          clear P7 k7 f7 WH DV ED EG HK2
          gi_wp2
          go_roundw
          case rel => exact ⟨k + 1, by omega, by go_num, R⟩
          case measure => simp [intOf]; omega
        · obtain rfl : k = nn := by omega
          have R : Hid (TmI N U n k ua aa ab ao cap Tb c0 n0 A J (j + 1) wr) := by
            obtain ⟨h1, h2, h3, h4, h5, h6⟩ := unhide HK
            obtain ⟨s1, s2, s3, s4, s5, s6⟩ := unhide S5
            obtain ⟨q1, q2, q3, q4⟩ := unhide K3
            refine ⟨pre ++ [(B, cp)], B2, cp2, unhide HJ _ _ _ (unhide J3) (s2.trans h5), by rw [List.length_append, q1]; rfl, s3.of2 (fun y hy cs hN hb => h6 _ _ (blk_ne hb s1.1 (by decide +kernel)) (Nat.ne_of_lt (s4 y hy)) (blk_ne hb s1.2.2.1 (by decide +kernel)) hb), h1, ?_, s6, s5, s4, ⟨cnt + 2 * n * (k : Int) + 2 * k, ?_, ?_, ?_⟩, h4⟩
            · rw [mix_all, ← unhide HYE] at h2
              exact h2
            · have : 0 ≤ (n : Int) * (k : Int) := Int.mul_nonneg (by omega) (by omega)
              rw [Int.mul_assoc]
              omega
            · have kb : (n : Int) * (k : Int) ≤ 12 * 144 := Int.mul_le_mul (by have := unhide HN; omega) (by have := unhide HN; omega) (by omega) (by omega)
              rw [Int.mul_assoc, Int.natCast_add, Int.add_mul]
              have := (unhide HN).2.2.2
              omega
            · show UC U (c0 || (termC A n j || orC (mulG (termZ A n j) A n n) (n * n) || orC (dvG (mulZ (termZ A n j) A n n) (j + 1)) (n * n))) _ _
              rw [unhide EN, unhide HYE, ← Bool.or_assoc, ← Bool.or_assoc]
              exact h3
          have q4 := (unhide K3).2.2.2
          clear HK
          gi_wp2
          go_roundw
          case rel => exact ⟨j + 1, q4, by go_num, R⟩
          case measure => simp [intOf]; omega
    · obtain ⟨hl, hT, hTb, hb, hcp, hB, hlt, ⟨cnt, q1, q2, hu⟩, hC⟩ := unhide HS
      obtain ⟨dU, dua, daa, dab, dN⟩ := unhide HD
      have R : Hid (SpT N U n nn c0 n0 A (pre ++ [(B, cp)]) W3 ∧ Jx (pre ++ [(B, cp)]) W3) := by
        refine ⟨⟨j, by rw [List.length_append, hl]; rfl, hj, (hT.of (fun b cs hbN h => hk.blk h (dN b hbN))).snoc (by rw [hl]; exact hk.blk hb (dN B hB)) hB hcp hlt, cnt, q1, by omega, hk.blk hu dU⟩, hJx⟩
      clear hl hT hTb hb hcp hB hlt hu hC hk hJx hR hy HS dU dua daa dab dN x0 x1 x2
      gi_wp2
      go_end0
      exact ⟨⟨_, rfl⟩, .inr ⟨_, unhide R⟩⟩
end

end Go.Proofs.YtopaakjildmjcaaGreat


/- Lists of matrices that a call gathers, and lists of matrices that are read. -/
namespace Go.Proofs.YtopaakjildmjcaaGreat
open Go.RowKit Go.Shelf Go.Proofs.Wd
set_option linter.unusedVariables false
set_option linter.unusedSimpArgs false
set_option maxRecDepth 10000

/-- Their cells, one behind the other. -/
def flat (l : List MV) : List Value := l.flatMap fun x => x.cells.toList
theorem flat_len : ∀ l : List MV, (flat l).length = l.length * 3
  | [] => rfl
  | x :: l => by
    have := flat_len l
    unfold flat at *
    rw [List.flatMap_cons, List.length_append, this, List.length_cons]
    show 3 + _ = _
    omega
theorem flat_snoc (l : List MV) (x : MV) : flat (l ++ [x]) = flat l ++ x.cells.toList := by
  unfold flat
  rw [List.flatMap_append]
  simp
theorem flat_at : ∀ (l : List MV) (i j : Nat) (x : MV), l[i]? = some x → j < 3 → (flat l)[i * 3 + j]? = x.cells[j]?
  | [], i, j, x, h, _ => by simp at h
  | y :: l, 0, j, x, h, hj => by
    simp at h
    subst h
    unfold flat
    rw [List.flatMap_cons, List.getElem?_append_left (by show 0 * 3 + j < 3; omega)]
    simp
  | y :: l, i + 1, j, x, h, hj => by
    have := flat_at l i j x (by simpa using h) hj
    unfold flat at *
    rw [List.flatMap_cons, List.getElem?_append_right (by show 3 ≤ _; omega), ← this]
    congr 1
    show (i + 1) * 3 + j - 3 = _
    omega
theorem cells_oneMV (x : MV) : ∀ u ∈ x.cells.toList, u.oneCell' = true := by
  intro u hu
  simp [MV.cells] at hu
  rcases hu with rfl | rfl | rfl <;> rfl
theorem Tryz.infoMat : (Tryz.prog.info? 24).map (fun i => (i.zero, i.size, i.bytes)) = some (some (.agg #[.int .i64 0, .int .i64 0, .slice none 0 0]), 3, 40) := by kernel_rfl

/-- A list that a call gathered. -/
def MLs (w : World) (base : Nat) (v : Value) (l : List MV) : Prop := w.ownsRow base 24 3 v l.length (flat l)
theorem MLs.blk {w w' : World} {base : Nat} {v : Value} {l : List MV} (h : MLs w base v l) (k : ∀ g cs, v.ownBlock = some g → base ≤ g → Blk g cs 24 w → Blk g cs 24 w') : MLs w' base v l := by
  refine ⟨h.1, ?_⟩
  rcases h.2 with h2 | ⟨g, cap, cur, rfl, hb, hg, r⟩
  · exact Or.inl h2
  · exact Or.inr ⟨g, cap, cur, rfl, hb, k g cur rfl hb hg, r⟩
theorem MLs.kp {w w' : World} {base : Nat} {v : Value} {l : List MV} (h : MLs w base v l) (k : Kp w w') : MLs w' base v l := h.blk fun _ _ _ _ hb => Blk.kp hb k
theorem MLs.mono {w : World} {base base' : Nat} {v : Value} {l : List MV} (h : MLs w base v l) (hb : base' ≤ base) : MLs w base' v l := by
  refine ⟨h.1, ?_⟩
  rcases h.2 with h2 | ⟨g, cap, cur, rfl, hb', hg, r⟩
  · exact Or.inl h2
  · exact Or.inr ⟨g, cap, cur, rfl, by omega, hg, r⟩
theorem MLs.has {w : World} {base g n c : Nat} {l : List MV} (h : MLs w base (.slice (some ⟨g, 0, none⟩) n c) l) : base ≤ g ∧ ∃ cur, Blk g cur 24 w := by
  rcases h.2 with ⟨e, _⟩ | ⟨g', cap, cur, e, hb, hg, r⟩
  · cases e
  · simp at e
    obtain ⟨rfl, _⟩ := e
    exact ⟨hb, cur, hg⟩
theorem MLs.nil (w : World) (base : Nat) : MLs w base (.slice none 0 0) [] := World.ownsRow_nil _ _ _ _

/-- A list of matrices, as it is read: where its cells lie. -/
def Mats (w : World) (ao : Option Addr) (n : Nat) (X : Nat → MV) : Prop := n = 0 ∨ ∃ b o, ao = some ⟨b, o, none⟩ ∧ ∀ i, i < n → ∀ j, j < 3 → w.cell? ⟨b, o + i * 3 + j, none⟩ = (X i).cells[j]?
theorem Mats.at {w : World} {ao : Option Addr} {n : Nat} {X : Nat → MV} (h : Mats w ao n X) {k : Nat} (hk : k < n) : ∃ b o, ao = some ⟨b, o, none⟩ ∧ w.cell? ⟨b, o + k * 3, none⟩ = some (.int .i64 (X k).R) ∧ w.cell? ⟨b, o + k * 3 + 1, none⟩ = some (.int .i64 (X k).C) ∧ w.cell? ⟨b, o + k * 3 + 2, none⟩ = some (.slice (X k).ao (X k).len (X k).cap) := by
  rcases h with h | ⟨b, o, rfl, hc⟩
  · omega
  · exact ⟨b, o, rfl, hc k hk 0 (by omega), hc k hk 1 (by omega), hc k hk 2 (by omega)⟩
theorem Mats.cells {w w' : World} {ao : Option Addr} {n : Nat} {X : Nat → MV} (h : Mats w ao n X) (k : ∀ b o (v : Value), (0 < n → ∃ o', ao = some ⟨b, o', none⟩) → w.cell? ⟨b, o, none⟩ = some v → w'.cell? ⟨b, o, none⟩ = some v) : Mats w' ao n X := by
  rcases h with h | ⟨b, o, rfl, hc⟩
  · exact Or.inl h
  · refine Or.inr ⟨b, o, rfl, fun i hi j hj => ?_⟩
    have := hc i hi j hj
    have hs : ∃ v, (X i).cells[j]? = some v := ⟨_, Array.getElem?_eq_getElem (by show j < 3; exact hj)⟩
    obtain ⟨v, hv⟩ := hs
    rw [hv] at this ⊢
    exact k b _ v (fun _ => ⟨o, rfl⟩) this
theorem Mats.kp {w w' : World} {ao : Option Addr} {n : Nat} {X : Nat → MV} (h : Mats w ao n X) (k : Kp w w') : Mats w' ao n X := h.cells fun _ _ _ _ hv => k.cell hv
theorem Mats.grown {w w' : World} {ao : Option Addr} {n : Nat} {X : Nat → MV} (h : Mats w ao n X) (k : Grown w w') : Mats w' ao n X := h.kp (Kp.of k)
theorem Mats.sub {w : World} {ao : Option Addr} {n m : Nat} {X : Nat → MV} (h : Mats w ao n X) (hm : m ≤ n) : Mats w ao m X := by
  rcases h with h | ⟨b, o, rfl, hc⟩
  · exact Or.inl (by omega)
  · exact Or.inr ⟨b, o, rfl, fun i hi => hc i (by omega)⟩
def z0MV : MV := ⟨0, 0, none, 0, 0, fun _ => 0⟩
def ixM (l : List MV) (i : Nat) : MV := (l[i]?).getD z0MV
theorem ixM_at {l : List MV} {i : Nat} {x : MV} (h : l[i]? = some x) : ixM l i = x := by unfold ixM; rw [h]; rfl
theorem MLs.mats {w : World} {base : Nat} {v : Value} {l : List MV} (h : MLs w base v l) : ∃ ao cap, v = .slice ao l.length cap ∧ Mats w ao l.length (ixM l) ∧ l.length ≤ cap ∧ (∀ U, U < base → Off U l.length ao) := by
  have hc := fun g (e : v.ownBlock = some g) => World.ownsRow.cells h e
  rcases h.2 with ⟨rfl, e⟩ | ⟨g, cap, cur, rfl, hb, hg, hn, r⟩
  · rw [e]
    exact ⟨none, 0, rfl, Or.inl rfl, Nat.le_refl _, fun U _ h0 => absurd h0 (Nat.lt_irrefl _)⟩
  · refine ⟨_, cap, rfl, Or.inr ⟨g, 0, rfl, fun i hi j hj => ?_⟩, hn, fun U hU _ a ha => by cases ha; show g ≠ U; omega⟩
    have hx : l[i]? = some l[i] := List.getElem?_eq_getElem hi
    have hf := flat_at l i j _ hx hj
    have hs : ∃ u, (l[i]).cells[j]? = some u := ⟨_, Array.getElem?_eq_getElem (by show j < 3; exact hj)⟩
    obtain ⟨u, hu⟩ := hs
    have := hc g rfl (i * 3 + j) u (by rw [hf, hu])
    rw [Go.WideShapes.add_plain] at this
    rw [ixM_at hx, hu, ← this, Nat.zero_add]
    show _ = w.cell? ⟨g, 0 + (i * 3 + j), none⟩
    rw [Nat.zero_add]
theorem news_mat {w : World} {b : Nat} {x : MV} (h : Blk b x.cells 24 w) : ∀ j u, x.cells.toList[j]? = some u → w.cell? ((⟨b, 0, none⟩ : Addr).add j) = some u := by
  intro j u hu
  rw [Go.WideShapes.add_plain, Nat.zero_add, Blk.cell h]
  simpa using hu

end Go.Proofs.YtopaakjildmjcaaGreat

/- Package poly: Terms. -/
namespace Go.Proofs.YtopaakjildmjcaaGreat
open Go.RowKit Go.Shelf Go.Proofs.Wd
set_option linter.unusedVariables false
set_option linter.unusedSimpArgs false
set_option maxRecDepth 10000

set_option maxHeartbeats 1000000 in
theorem polyTermsMk (u : Option Addr) (R C : Int) (ao : Option Addr) (len cap : Nat) (w : World) : Calls Tryz.prog 27 #[.pointer u, .agg #[.int .i64 R, .int .i64 C, .slice ao len cap]] w fun e w' => e = .returned (.func (.func 44) #[] #[.pointer (some ⟨w.heap.size + 1, 0, none⟩), .pointer (some ⟨w.heap.size, 0, none⟩)]) ∧ w' = (w.alloc (.cells #[.pointer u] 25)).alloc (.cells #[.int .i64 R, .int .i64 C, .slice ao len cap] 24) := by
  go_enter Tryz.func27, Tryz.ntmps27
  go_wp2
  go_ret
  exact ⟨rfl, rfl⟩
/-- make([]api.Mat, 0, c). -/
theorem make_mats (c : Nat) (hc : c ≤ 1000000) : ∃ zc : Array Value, zc.size = c * 3 ∧ ∀ w : World, (Instr.makeSlice 31 (.int .i64 0) (.int .i64 (c : Int))).run Tryz.prog w = .ok (.slice (some ⟨w.heap.size, 0, none⟩) 0 c) (w.alloc (.cells zc 24)) := by
  obtain ⟨i0, hi, hz0, hz1, hz2⟩ := info_parts Tryz.infoMat
  refine ⟨madeCells (Value.agg #[.int .i64 0, .int .i64 0, .slice none 0 0]).cells (c * 3), by rw [size_madeCells], fun w => ?_⟩
  have := run_make (P := Tryz.prog) w 31 24 i0 _ Tryz.underlying31 hi hz0 .i64 .i64 0 c (Int.le_refl _) (by omega) (by rw [hz2]; omega) (by omega)
  rw [hz1, Int.toNat_natCast] at this
  exact this

/-- What Terms tells where there is something to tell. -/
def XT (n nn : Nat) (A : Nat → Int) (i : Nat) (x : Nat × Nat) : MV := ⟨n, n, some ⟨x.1, 0, none⟩, nn, x.2, termZ A n i⟩
def listT (n nn : Nat) (A : Nat → Int) (pre : List (Nat × Nat)) : List MV := pre.mapIdx (XT n nn A)
theorem listT_len (n nn : Nat) (A : Nat → Int) (pre : List (Nat × Nat)) : (listT n nn A pre).length = pre.length := by simp [listT]
theorem listT_snoc (n nn : Nat) (A : Nat → Int) (pre : List (Nat × Nat)) (x : Nat × Nat) : listT n nn A (pre ++ [x]) = listT n nn A pre ++ [XT n nn A pre.length x] := by simp [listT]
def TermP (U n nn : Nat) (c : Bool) (n0 : Int) (A : Nat → Int) (k : Nat) (w : World) (e : Ending) (w' : World) : Prop :=
  ∃ (Lb : Nat) (pre : List (Nat × Nat)), e = .returned (.tuple #[.slice (some ⟨Lb, 0, none⟩) (k + 1) (k + 1), .int .i64 0]) ∧ pre.length = k + 1 ∧ MLs w' w.heap.size (.slice (some ⟨Lb, 0, none⟩) (k + 1) (k + 1)) (listT n nn A pre) ∧ TSq w.heap.size n nn A pre w' ∧ UW U (c || termC A n k) n0 100000 w' ∧ Mk U w w'

theorem TSq.mono {N M n nn : Nat} {A : Nat → Int} {pre : List (Nat × Nat)} {W : World} (h : TSq N n nn A pre W) (hN : M ≤ N) : TSq M n nn A pre W := ⟨fun i x hx => ⟨(h.1 i x hx).1, Nat.le_trans hN (h.1 i x hx).2.1, (h.1 i x hx).2.2⟩, h.2⟩
def TmJ (w : World) (U n nn S3 k : Nat) (A : Nat → Int) (p : Nat) (pre : List (Nat × Nat)) (W : World) : Prop :=
  pre.length = p ∧ MLs W w.heap.size (.slice (some ⟨S3, 0, none⟩) p (k + 1)) (listT n nn A pre) ∧ Blk (S3 + 1) #[.slice (some ⟨S3, 0, none⟩) p (k + 1)] 31 W ∧ Blk (w.heap.size + 1) #[.int .i64 k] 3 W ∧ Mk U w W ∧ S3 + 4 ≤ W.heap.size
theorem mls_own {base : Nat} {v : Value} {l : List MV} {W W' : World} {row : Option Nat} (h : MLs W base v l) (hg : W.grownBy W' row) (hr : ∀ r, row = some r → ∃ o : Obj, W.heap[r]? = some o ∧ o.isCells = false) : MLs W' base v l := h.blk fun _ _ _ _ hb => blk_own hb hg hr
theorem mk_own {U B : Nat} {w W W' : World} {row : Option Nat} (h : Mk U w W) (hB : w.heap.size ≤ B) (hg : W.grownBy W' row) (hr : ∀ r, row = some r → B ≤ r ∧ ∃ o : Obj, W.heap[r]? = some o ∧ o.isCells = false) : Mk U w W' := h.by hg (fun k e => Nat.le_trans hB (hr k e).1)
theorem tmJ_own {w W W' : World} {U n nn S3 k p B : Nat} {A : Nat → Int} {pre : List (Nat × Nat)} {row : Option Nat} (h : TmJ w U n nn S3 k A p pre W) (hB : w.heap.size ≤ B) (hg : W.grownBy W' row) (hr : ∀ r, row = some r → B ≤ r ∧ ∃ o : Obj, W.heap[r]? = some o ∧ o.isCells = false) : TmJ w U n nn S3 k A p pre W' := by
  have hr' : ∀ r, row = some r → ∃ o : Obj, W.heap[r]? = some o ∧ o.isCells = false := fun r e => (hr r e).2
  exact ⟨h.1, mls_own h.2.1 hg hr', blk_own h.2.2.1 hg hr', blk_own h.2.2.2.1 hg hr', mk_own h.2.2.2.2.1 hB hg hr, Nat.le_trans h.2.2.2.2.2 hg.size⟩
theorem mk_stT {U N : Nat} {w A B : World} (h : Mk U w A) (s : StT N U A B) (hN : w.heap.size ≤ N) : Mk U w B :=
  ⟨s.2.1.trans h.1, s.2.2.1.trans h.2.1, fun k hk hu => (s.2.2.2 k (by omega) hu).trans (h.2.2.1 k hk hu), Nat.le_trans h.2.2.2 s.1.size⟩
theorem tmJ_stT {w A B : World} {U N n nn S3 k p : Nat} {Z : Nat → Int} {pre : List (Nat × Nat)} (h : TmJ w U n nn S3 k Z p pre A) (s : StT N U A B) (hN : S3 + 4 ≤ N) (hw : w.heap.size + 2 ≤ S3) (hU : U < w.heap.size) : TmJ w U n nn S3 k Z p pre B :=
  have kb : ∀ b cs T, b < N → b ≠ U → Blk b cs T A → Blk b cs T B := fun b cs T hb hu h => (s.2.2.2 b hb hu).trans h
  ⟨h.1, h.2.1.blk fun g cs e hb hB => kb g cs _ (by cases e; show S3 < N; omega) (by cases e; show S3 ≠ U; omega) hB, kb _ _ _ (by omega) (by omega) h.2.2.1, kb _ _ _ (by omega) (by omega) h.2.2.2.1, mk_stT h.2.2.2.2.1 s (by omega), Nat.le_trans h.2.2.2.2.2 s.1.size⟩
/-- A term is appended. -/
theorem TmJ.app {w W w' : World} {U n nn S3 k p : Nat} {A : Nat → Int} {pre : List (Nat × Nat)} {x : Nat × Nat} (h : TmJ w U n nn S3 k A p pre W) (hS : w.heap.size + 2 ≤ S3)
    (hown : w'.ownsRow w.heap.size 24 3 (.slice (some ⟨S3, 0, none⟩) (p + 1) (k + 1)) (p + 1) (flat (listT n nn A pre) ++ (XT n nn A p x).cells.toList)) (hg : (W.alloc (.cells (XT n nn A p x).cells 24)).grownBy w' (some S3)) :
    Blk (S3 + 1) #[.slice (some ⟨S3, 0, none⟩) p (k + 1)] 31 w' ∧ Blk (w.heap.size + 1) #[.int .i64 k] 3 w' ∧
      TmJ w U n nn S3 k A (p + 1) (pre ++ [x]) (w'.setCell ⟨S3 + 1, 0, none⟩ (.slice (some ⟨S3, 0, none⟩) (p + 1) (k + 1))) ∧
      KC (fun k => k = S3 ∨ k = S3 + 1) W (w'.setCell ⟨S3 + 1, 0, none⟩ (.slice (some ⟨S3, 0, none⟩) (p + 1) (k + 1))) ∧ KeepsOthers W (w'.setCell ⟨S3 + 1, 0, none⟩ (.slice (some ⟨S3, 0, none⟩) (p + 1) (k + 1))) := by
  obtain ⟨h1, h2, h3, h4, h5, h6⟩ := h
  have ga : Grown W (W.alloc (.cells (XT n nn A p x).cells 24)) := (Grown.refl _).alloc _ _
  have b3 := Blk.by (Blk.grown h3 ga) hg (by simp)
  have b4 := Blk.by (Blk.grown h4 ga) hg (by simp; omega)
  have s : Mod (S3 + 1) w' (w'.setCell ⟨S3 + 1, 0, none⟩ (.slice (some ⟨S3, 0, none⟩) (p + 1) (k + 1))) := (Mod.refl _ _).setCell _ _
  have sz : W.heap.size ≤ w'.heap.size := Nat.le_trans ga.2.2 hg.size
  have lS : S3 < W.heap.size := by omega
  obtain ⟨hb0, cur, hcur⟩ := h2.has
  have hc2 : Blk S3 cur 24 (W.alloc (.cells (XT n nn A p x).cells 24)) := Blk.grown hcur ga
  refine ⟨b3, b4, ⟨by rw [List.length_append, h1]; rfl, ?_, Blk.set b3 0 _, Blk.keep b4 s (by omega), ((h5.grown ga).by hg (fun k e => by cases e; omega)).new s (by omega), Nat.le_trans (by omega) s.2.2.2.2⟩, ?_, ?_⟩
  · unfold MLs
    rw [listT_snoc, flat_snoc, h1, List.length_append, listT_len, h1]
    have : MLs w' w.heap.size (.slice (some ⟨S3, 0, none⟩) (p + 1) (k + 1)) (listT n nn A (pre ++ [x])) := by
      unfold MLs
      rw [listT_snoc, flat_snoc, h1, List.length_append, listT_len, h1]
      exact hown
    have t := this.blk (w' := w'.setCell ⟨S3 + 1, 0, none⟩ (.slice (some ⟨S3, 0, none⟩) (p + 1) (k + 1))) (fun g cs e _ hb => Blk.keep hb s (by cases e; show S3 ≠ S3 + 1; omega))
    unfold MLs at t
    rwa [listT_snoc, flat_snoc, h1, List.length_append, listT_len, h1] at t
  · refine KC.of (fun i hi hD => ?_) (Nat.le_trans sz s.2.2.2.2)
    rw [s.2.2.1 i (by omega) (fun e => hD (Or.inr e)), hg.block i (Nat.lt_of_lt_of_le hi ga.2.2) (fun e => hD (Or.inl (by cases e; rfl)))]
    exact gblock ga hi
  · refine ((KeepsOthers.alloc W _).trans (KeepsOthers.of_grownBy hg (fun j o e ho => ?_))).trans (KeepsOthers.setCell _ _ _)
    cases e
    rw [show (W.alloc (.cells (XT n nn A p x).cells 24)).heap[S3]? = _ from hc2] at ho
    cases ho
    rfl

section
attribute [local go_sem] Oper.semAt_some

set_option maxRecDepth 100000 in
set_option maxHeartbeats 4000000 in
theorem polyTerms_ok (U n nn b o cap k : Nat) (c0 : Bool) (n0 : Int) (hn0 : 0 ≤ n0 ∧ n0 < 1000000000000000000) (A : Nat → Int) (hn : 1 ≤ n ∧ n ≤ 12) (hnn : n * n = nn) (hk : k ≤ 24) (hcap : nn ≤ cap) (hA : ∀ j, j < nn → I64 (A j)) (w : World) (h : UC U c0 n0 w) (za : ∀ j, j < nn → w.cell? ⟨b, o + j, none⟩ = some (.int .i64 (A j))) (hb : b ≠ U) :
    Calls Tryz.prog 9 #[.pointer (some ⟨U, 0, none⟩), .agg #[.int .i64 n, .int .i64 n, .slice (some ⟨b, o, none⟩) nn cap], .int .i64 k] w fun e w' => TermP U n nn c0 n0 A k w e w' := by
  have SQ := hide (fun w => polySquare n n (some ⟨b, o, none⟩) nn cap w)
  rw [← hnn, sqB_yes (sqA_of hn), hnn] at SQ
  have lU := Blk.lt h
  have lb : b < w.heap.size := heap_gt (za 0 (by have := mul12n n n hn hn; omega))
  have bn := Blk.new w #[.int .i64 n, .int .i64 n, .slice (some ⟨b, o, none⟩) nn cap] 24
  have G : Grown w ((w.alloc (.cells #[.int .i64 n, .int .i64 n, .slice (some ⟨b, o, none⟩) nn cap] 24)).alloc (.cells #[.int .i64 k] 3)) := ((Grown.refl _).alloc _ _).alloc _ _
  have HB : Hid (Blk w.heap.size #[.int .i64 n, .int .i64 n, .slice (some ⟨b, o, none⟩) nn cap] 24 ((w.alloc (.cells #[.int .i64 n, .int .i64 n, .slice (some ⟨b, o, none⟩) nn cap] 24)).alloc (.cells #[.int .i64 k] 3)) ∧ Blk (w.heap.size + 1) #[.int .i64 k] 3 ((w.alloc (.cells #[.int .i64 n, .int .i64 n, .slice (some ⟨b, o, none⟩) nn cap] 24)).alloc (.cells #[.int .i64 k] 3)) ∧ ((w.alloc (.cells #[.int .i64 n, .int .i64 n, .slice (some ⟨b, o, none⟩) nn cap] 24)).alloc (.cells #[.int .i64 k] 3)).heap.size = w.heap.size + 2) := ⟨Blk.grown bn ((Grown.refl _).alloc _ _), blk_new2 w _ _ _, by simp⟩
  have HG := hide G
  have HU := hide (And.intro h (And.intro lU (And.intro za (And.intro hb lb))))
  have HA := hide (And.intro hA (And.intro hn0 (And.intro hn (And.intro hnn hcap))))
  have d24 : decide ((24 : Int) < (k : Int)) = false := decide_eq_false (by omega)
  have d0 : decide ((k : Int) < 0) = false := decide_eq_false (by omega)
  obtain ⟨zc, hzc, MK0⟩ := make_mats (k + 1) (by omega)
  have MK : ∀ w : World, (Instr.makeSlice 31 (.int .i64 0) (.int .i64 ((k : Int) + 1))).run Tryz.prog w = .ok (.slice (some ⟨w.heap.size, 0, none⟩) 0 (k + 1)) (w.alloc (.cells zc 24)) := fun w => MK0 w
  clear MK0
  have HZ := hide hzc
  clear hzc
  have wk : wrap64 ((k : Int) + 1) = (k : Int) + 1 := by unfold wrap64; omega
  clear G bn h lU lb za hb hA hn0 hn hnn hcap
  refine (callsIn_wide (n := 6)).1 ?_
  refine callsIn_of_wp_marks Tryz.func9 rfl trivial ?_ rfl
  simp only [Tryz.ntmps9, List.size_toArray, List.length_cons, List.length_nil, Nat.reduceAdd, Nat.reduceSub, Array.replicate_succ, Array.replicate_zero, List.push_toArray, List.append_toArray, List.nil_append, List.cons_append]
  gi_wp2_with fail
  generalize (w.alloc (.cells #[.int .i64 n, .int .i64 n, .slice (some ⟨b, o, none⟩) nn cap] 24)).alloc (.cells #[.int .i64 k] 3) = w1 at *
  refine ⟨trivial, ?_⟩
  refine (callsIn_wide.2 (unhide SQ _)).mono ?_
  rintro e w2 ⟨rfl, g2⟩
  have RF := hide (polyRefuse U c0 n0 ⟨(unhide HA).2.1.1, by have := (unhide HA).2.1.2; omega⟩ true w2 (Blk.grown (Blk.grown (unhide HU).1 (unhide HG)) g2))
  have G2 := hide g2
  clear g2 SQ
  gi_wp2_with (refine ⟨trivial, ?_⟩; gi_at_call 25; refine (callsIn_wide.2 (unhide RF)).mono ?_; rintro e w3 ⟨rfl, u3, m3⟩; have B3 := hide (And.intro (Blk.keep (Blk.grown (unhide HB).1 (unhide G2)) m3 (Nat.ne_of_gt (unhide HU).2.1)) (And.intro (Blk.keep (Blk.grown (unhide HB).2.1 (unhide G2)) m3 (by have := (unhide HU).2.1; omega)) (And.intro u3 m3))); have x0 : w3.cell? ⟨w.heap.size, 0, none⟩ = some (.int .i64 n) := Blk.cell (unhide B3).1 0; have x1 : w3.cell? ⟨w.heap.size, 1, none⟩ = some (.int .i64 n) := Blk.cell (unhide B3).1 1; have x2 : w3.cell? ⟨w.heap.size, 2, none⟩ = some (.slice (some ⟨b, o, none⟩) nn cap) := Blk.cell (unhide B3).1 2; have x3 : w3.cell? ⟨w.heap.size + 1, 0, none⟩ = some (.int .i64 k) := Blk.cell (unhide B3).2.1 0; have q1 : w.heap.size < w3.heap.size := Blk.lt (unhide B3).1; have q2 : w.heap.size + 1 < w3.heap.size := Blk.lt (unhide B3).2.1; have q3 : w.heap.size ≠ w3.heap.size := (by omega); have q4 : w.heap.size ≠ w3.heap.size + 1 := (by omega); clear u3 m3 RF; simp only [errB, if_true])
  refine ⟨trivial, ?_⟩
  refine (callsIn_wide.2 (polyTermsMk _ _ _ _ _ _ _)).mono ?_
  rintro e w4 ⟨rfl, rfl⟩
  gi_wp2_with fail
  obtain ⟨S3, hS3⟩ : ∃ S3, w3.heap.size = S3 := ⟨_, rfl⟩
  simp only [World.size_alloc, hS3]
  obtain ⟨W0, hW0⟩ : ∃ W0, ((((w3.alloc (.cells zc 24)).alloc (.cells #[.slice (some ⟨S3, 0, none⟩) 0 (k + 1)] 31)).alloc (.cells #[.pointer (some ⟨U, 0, none⟩)] 25)).alloc (.cells #[.int .i64 n, .int .i64 n, .slice (some ⟨b, o, none⟩) nn cap] 24)) = W0 := ⟨_, rfl⟩
  rw [hW0]
  have ST : Hid (TmJ w U n nn S3 k A 0 [] W0 ∧ TmC W0.heap.size U n nn (S3 + 2) (S3 + 3) b o cap A W0 ∧ UC U c0 n0 W0 ∧ W0.heap.size = S3 + 4 ∧ w.heap.size + 2 ≤ S3) := by
    obtain ⟨B1, B2, u3, m3⟩ := unhide B3
    obtain ⟨hu, lU, za, hb, lb⟩ := unhide HU
    have gz : Grown w w2 := gtrans (unhide HG) (unhide G2)
    have M3 : Mk U w w3 := (Mk.kp (Kp.of gz)).trans (Mk.of m3)
    subst hS3
    have e0 := World.ownsRow_made (base := w.heap.size) (e := 24) (size := 3) w3 zc (k + 1) M3.2.2.2 (by unfold maxLen; omega) (unhide HZ)
    have g1 : Grown w3 (w3.alloc (.cells zc 24)) := (Grown.refl _).alloc _ _
    generalize hw4 : w3.alloc (.cells zc 24) = w4 at *
    have s4 : w4.heap.size = w3.heap.size + 1 := by rw [← hw4]; simp
    have e1 := Blk.new w4 #[.slice (some ⟨w3.heap.size, 0, none⟩) 0 (k + 1)] 31
    have g2 : Grown w4 (w4.alloc (.cells #[.slice (some ⟨w3.heap.size, 0, none⟩) 0 (k + 1)] 31)) := (Grown.refl _).alloc _ _
    generalize hw5 : w4.alloc (.cells #[.slice (some ⟨w3.heap.size, 0, none⟩) 0 (k + 1)] 31) = w5 at *
    have s5 : w5.heap.size = w3.heap.size + 2 := by rw [← hw5]; simp; omega
    have e2 := Blk.new w5 #[.pointer (some ⟨U, 0, none⟩)] 25
    have g3 : Grown w5 (w5.alloc (.cells #[.pointer (some ⟨U, 0, none⟩)] 25)) := (Grown.refl _).alloc _ _
    generalize hw6 : w5.alloc (.cells #[.pointer (some ⟨U, 0, none⟩)] 25) = w6 at *
    have s6 : w6.heap.size = w3.heap.size + 3 := by rw [← hw6]; simp; omega
    have e3 := Blk.new w6 #[.int .i64 n, .int .i64 n, .slice (some ⟨b, o, none⟩) nn cap] 24
    have g4 : Grown w6 (w6.alloc (.cells #[.int .i64 n, .int .i64 n, .slice (some ⟨b, o, none⟩) nn cap] 24)) := (Grown.refl _).alloc _ _
    rw [hW0] at e3 g4
    have s7 : W0.heap.size = w3.heap.size + 4 := by rw [← hW0]; simp; omega
    rw [s4] at e1
    rw [s5] at e2
    rw [s6] at e3
    have g24 : Grown w4 W0 := gtrans (gtrans g2 g3) g4
    have g30 : Grown w3 W0 := gtrans g1 g24
    refine ⟨⟨rfl, (show MLs w4 w.heap.size (.slice (some ⟨w3.heap.size, 0, none⟩) 0 (k + 1)) [] from e0).kp (Kp.of g24), Blk.grown e1 (gtrans g3 g4), Blk.grown B2 g30, M3.grown g30, by omega⟩, ⟨Blk.grown e2 g4, e3, fun j hj => gat g30 (M3.cell (za j hj) hb), Nat.le_refl _⟩, Blk.grown u3 g30, s7, ?_⟩
    have := Blk.lt B2
    omega
  clear hW0 B3 HB HG G2 x0 x1 x2 x3 q1 q2 q3 q4 HZ MK wk
  obtain ⟨hA, hn0, hn, hnn, hcap⟩ := unhide HA
  obtain ⟨_, lU, _, hb, lb⟩ := unhide HU
  obtain ⟨hJ0, hC0, hU0, hsz, hw3⟩ := unhide ST
  obtain ⟨i0, hi, hz0, hz1, hz2⟩ := info_parts Tryz.infoMat
  have HI0 := hide (And.intro hi hz1)
  clear hi hz0 hz1 hz2
  refine range_own (P := Tryz.prog) (encs := encT n nn) (St := StT W0.heap.size U) (D := fun q => q = S3 ∨ q = S3 + 1) (Px := fun _ _ => True) (Pp := goesT) (S := fun _ _ => False) (Sp := SpT W0.heap.size U n nn c0 n0 A) rfl (by omega) (gf := 44) (lb := #[.pointer (some ⟨S3 + 3, 0, none⟩), .pointer (some ⟨S3 + 2, 0, none⟩)]) rfl trivial (enters_of Tryz.func44 (by kernel_rfl) rfl) (fun _ => rfl)
    (fun A B q x hs hq hx hc => hs.1.same q x hx hc)
    (fun l J Jx W hg hJ hY h0 => ?seq)
    (fun pre W => pre.length ≤ k ∧ TmJ w U n nn S3 k A pre.length pre W)
    (fun c pre W => c = .exit 0 ∧ pre.length = k + 1 ∧ TmJ w U n nn S3 k A (k + 1) pre W)
    (fun pre W W' row h hg hr => ⟨h.1, tmJ_own h.2 (by omega) hg hr⟩)
    (fun c pre W W' row h hg hr => ⟨h.1, h.2.1, tmJ_own h.2.2 (by omega) hg hr⟩)
    (fun _ _ _ _ h _ _ => h)
    (spT_own _ _ _ _ _ _ _ _)
    (fun pre X Y h s => ⟨h.1, tmJ_stT h.2 s (by omega) hw3 lU⟩)
    (fun pre W h => Nat.le_trans h.1 hk)
    ⟨Nat.zero_le _, hJ0⟩
    (fun x a' W => ∃ Bx, S3 + 4 ≤ Bx ∧ Blk Bx (XT n nn A 0 x).cells 24 W ∧ a' = { tmps := #[.pointer (some ⟨U, 0, none⟩), .agg #[.int .i64 n, .int .i64 n, .slice (some ⟨b, o, none⟩) nn cap], .int .i64 k, undef, .pointer (some ⟨w.heap.size, 0, none⟩), .pointer (some ⟨w.heap.size + 1, 0, none⟩), .slice none 0 0, .int .i64 0, .int .i64 0, .pointer (some ⟨S3 + 1, 0, none⟩), .pointer (some ⟨Bx, 0, none⟩), .pointer (some ⟨U, 0, none⟩), .agg #[.int .i64 n, .int .i64 n, .slice (some ⟨b, o, none⟩) nn cap], .bool true, .int .i64 0, .int .i64 0, .bool false, undef, .int .i64 k, .bool false, .bool false, .int .i64 k, .bool false, .bool false, .int .i64 k, .int .i64 ((k : Int) + 1), .slice (some ⟨S3, 0, none⟩) 0 (k + 1), .pointer (some ⟨U, 0, none⟩), .agg #[.int .i64 n, .int .i64 n, .slice (some ⟨b, o, none⟩) nn cap], .func (.func 44) #[] #[.pointer (some ⟨S3 + 3, 0, none⟩), .pointer (some ⟨S3 + 2, 0, none⟩)], .agg #[.int .i64 n, .int .i64 n, .slice (some ⟨x.1, 0, none⟩) nn x.2], undef, undef, undef, undef, undef, undef, undef, undef, undef], defers := [] })
    (fun x a' _ W W' row h hg hr => let ⟨Bx, h1, h2, h3⟩ := h; ⟨Bx, h1, blk_own h2 hg (fun r e => (hr r e).2), h3⟩)
    ?assign ?body ?done ?stop
  case seq =>
    have gk : ∀ c cs T, Blk c cs T W0 → Blk c cs T W := fun c cs T h => (hg.block c (Blk.lt h) (by simp)).trans h
    have C1 : TmC W0.heap.size U n nn (S3 + 2) (S3 + 3) b o cap A W := ⟨gk _ _ _ hC0.1, gk _ _ _ hC0.2.1, fun j hj => hg.cell (hC0.2.2.1 j hj) (by simp), hg.size⟩
    exact terms1_in _ l W0.heap.size U n nn (S3 + 2) (S3 + 3) b o cap (by omega) c0 n0 hn0 A hn hnn hA hcap (by omega) (by omega) hb (by omega) (by omega) (by omega) (by omega) _ (by omega) (by omega) (by omega) (by omega) (fun q hq => by omega) J Jx hJ hY W (gk _ _ _ hU0) C1 h0
  case assign =>
    intro l pre x W K hI hK
    dsimp only [encT]
    clear hJ0 hC0 hU0 hA
    gi_wp2
    refine hK _ _ ((KeepsOthers.alloc _ _).from _) (KC.of (fun q hq _ => gblock ((Grown.refl _).alloc _ _) hq) (by simp)) ⟨hI.1, tmJ_own hI.2 (Nat.le_refl _) (World.grownBy_alloc _ _ none) (fun r e => by cases e)⟩ ⟨W.heap.size, hI.2.2.2.2.2.2, Blk.new _ _ _, rfl⟩
  case body =>
    rintro l pre x a' W ⟨hle, hI⟩ ⟨Bx, hBx, bX, rfl⟩ _
    obtain ⟨p, hp⟩ : ∃ p, pre.length = p := ⟨_, rfl⟩
    rw [hp] at hle hI
    have x0 : W.cell? ⟨Bx, 0, none⟩ = some (.int .i64 n) := Blk.cell bX 0
    have x1 : W.cell? ⟨Bx, 1, none⟩ = some (.int .i64 n) := Blk.cell bX 1
    have x2 : W.cell? ⟨Bx, 2, none⟩ = some (.slice (some ⟨x.1, 0, none⟩) nn x.2) := Blk.cell bX 2
    have y0 : W.cell? ⟨S3 + 1, 0, none⟩ = some (.slice (some ⟨S3, 0, none⟩) p (k + 1)) := Blk.cell hI.2.2.1 0
    obtain ⟨hi, hz1⟩ := unhide HI0
    have hown : Hid ((W.alloc (.cells #[.int .i64 n, .int .i64 n, .slice (some ⟨x.1, 0, none⟩) nn x.2] 24)).ownsRow w.heap.size 24 3 (.slice (some ⟨S3, 0, none⟩) p (k + 1)) p (flat (listT n nn A pre))) := by
      have := hI.2.1
      unfold MLs at this
      rw [listT_len, hp] at this
      exact this.alloc _
    have HN : Hid (∀ j u, (XT n nn A p x).cells.toList[j]? = some u → (W.alloc (.cells #[.int .i64 n, .int .i64 n, .slice (some ⟨x.1, 0, none⟩) nn x.2] 24)).cell? ((⟨W.heap.size, 0, none⟩ : Addr).add j) = some u) := news_mat (x := XT n nn A p x) (Blk.new W _ _)
    have HS := hide (And.intro hI (And.intro hle hp))
    have HX : Hid (∀ u ∈ (XT n nn A p x).cells.toList, u.oneCell' = true) := cells_oneMV _
    have kp1 : p + 1 ≤ k + 1 := by omega
    clear hI hJ0 hC0 hU0 bX hBx hA hp HI0
    by_cases hpk : p < k
    · have dk : decide ((k : Int) < (p : Int) + 1) = false := decide_eq_false (by omega)
      gi_wp2_with (gi_at_builtin; refine wpListIn_append_fits _ rfl _ _ 31 rfl w.heap.size 24 i0 3 Tryz.underlying31 hi hz1 S3 p (k + 1) (flat (listT n nn A pre)) rfl (unhide hown) ⟨W.heap.size, 0, none⟩ 1 1 (XT n nn A p x).cells.toList rfl rfl (unhide HN) (unhide HX) kp1 ?_; intro w5 hown' hgrow; have P := hide ((unhide HS).1.app (w' := w5) (x := x) hw3 hown' hgrow); have y1 : w5.cell? ⟨S3 + 1, 0, none⟩ = some (.slice (some ⟨S3, 0, none⟩) p (k + 1)) := Blk.cell (unhide P).1 0; have y2 : w5.cell? ⟨w.heap.size + 1, 0, none⟩ = some (.int .i64 k) := Blk.cell (unhide P).2.1 0; have ff := Blk.free (unhide P).1; have ne : w.heap.size + 1 ≠ S3 + 1 := (by omega); clear hown' hgrow)
      have e1 : (pre ++ [x]).length = p + 1 := by rw [List.length_append, (unhide HS).2.2]; rfl
      refine ⟨(unhide P).2.2.2.2.from _, (unhide P).2.2.2.1, by omega, ?_⟩
      rw [e1]
      exact (unhide P).2.2.1
    · have dk : decide ((k : Int) < (p : Int) + 1) = true := decide_eq_true (by omega)
      gi_wp2_with (gi_at_builtin; refine wpListIn_append_fits _ rfl _ _ 31 rfl w.heap.size 24 i0 3 Tryz.underlying31 hi hz1 S3 p (k + 1) (flat (listT n nn A pre)) rfl (unhide hown) ⟨W.heap.size, 0, none⟩ 1 1 (XT n nn A p x).cells.toList rfl rfl (unhide HN) (unhide HX) kp1 ?_; intro w5 hown' hgrow; have P := hide ((unhide HS).1.app (w' := w5) (x := x) hw3 hown' hgrow); have y1 : w5.cell? ⟨S3 + 1, 0, none⟩ = some (.slice (some ⟨S3, 0, none⟩) p (k + 1)) := Blk.cell (unhide P).1 0; have y2 : w5.cell? ⟨w.heap.size + 1, 0, none⟩ = some (.int .i64 k) := Blk.cell (unhide P).2.1 0; have ff := Blk.free (unhide P).1; have ne : w.heap.size + 1 ≠ S3 + 1 := (by omega); clear hown' hgrow)
      have e1 : (pre ++ [x]).length = p + 1 := by rw [List.length_append, (unhide HS).2.2]; rfl
      have e2 : p = k := by have := (unhide HS).2.1; omega
      have t := unhide P
      rw [e2] at t e1
      rw [e2]
      exact ⟨t.2.2.2.2.from _, t.2.2.2.1, rfl, e1, t.2.2.1⟩
  case done =>
    rintro d xs W hd h
    exact h.elim
  case stop =>
    rintro d c pre W hd hSp ⟨rfl, hl, hT⟩ hDf
    have y0 : W.cell? ⟨S3 + 1, 0, none⟩ = some (.slice (some ⟨S3, 0, none⟩) (k + 1) (k + 1)) := Blk.cell hT.2.2.1 0
    have HS := hide (And.intro hSp (And.intro hl hT))
    clear hJ0 hC0 hU0 hA hSp hT hl
    gi_wp2
    obtain ⟨hSp, hl, hT⟩ := unhide HS
    have gD := grownBy_putObj' W d (.deferred none)
    have hr : ∀ r, some d = some r → W0.heap.size ≤ r ∧ ∃ o : Obj, W.heap[r]? = some o ∧ o.isCells = false := fun r e => by cases e; exact ⟨hd, _, hDf, rfl⟩
    have t2 := tmJ_own hT (by omega) gD hr
    have s2 := spT_own _ _ _ _ _ _ _ _ _ _ _ _ hSp gD hr
    refine ⟨by simp, .inl ⟨_, _, rfl, run_takeDeferred hDf, ?_⟩⟩
    refine ⟨.tuple #[.slice (some ⟨S3, 0, none⟩) (k + 1) (k + 1), .int .i64 0], by simp [results, Tryz.results9, go_sem], ?_⟩
    obtain ⟨j, j1, j2, j3, j4⟩ := s2
    obtain rfl : j = k := by omega
    exact ⟨S3, pre, rfl, hl, t2.2.1, j3.mono (by omega), j4, t2.2.2.2.2.1⟩
end
end Go.Proofs.YtopaakjildmjcaaGreat
