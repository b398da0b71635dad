/- RegJ RegG MatTS MatOv MatS MatSu MatAw MatKS OwnB SymMath SymM2 SymA SymB SymC SymC2 SymD SymE SymF SymI SymG SymH, one after another. -/
import Derived.Orders
import Derived.OrdersHeld
import Derived.Deep.RegionHeld3
import Derived.Test.YtgahdjfkmpadoaaGreatMatO
import Derived.Test.YtgahdjfkmpadoaaGreatMatI
import Derived.Test.YtgahdjfkmpadoaaGreatMatN
import Derived.Test.YtgahdjfkmpadoaaGreatMatM
import Derived.Test.YtgahdjfkmpadoaaGreatMatMath
import Derived.Test.YtgahdjfkmpadoaaGreatMatD
import Derived.Test.YtgahdjfkmpadoaaGreatRoundR
/- A region that draws its order and calls, makes and stores: by an invariant over what has come up. -/
namespace Go.Proofs.YtgahdjfkmpadoaaGreat
open Go.RowKit Go.Shelf Go.Proofs.Wd
set_option linter.unusedVariables false
set_option linter.unusedSimpArgs false
set_option maxRecDepth 10000

/-- J n: it holds while n operations have not come up. -/
theorem wpAny_inv {P : Program} {ops : Array Oper} {Q : Exit → Act → World → Prop} {md : Region.Mode} (J : Nat → Array Bool → Act → World → Prop)
    (h0 : ∀ listed a w, J 0 listed a w → Region.ready md ops listed = [] ∧ Q .normal a w)
    (h1 : ∀ n listed a w, J (n + 1) listed a w → Region.ready md ops listed ≠ [] ∧ ∀ i ∈ Region.ready md ops listed, wpOp P ops Q i (J n (listed.setIfInBounds i true)) a w) :
    ∀ n listed a w, J n listed a w → wpAny P md ops Q n listed a w
  | 0, l, a, w, h => h0 l a w h
  | n + 1, l, a, w, h => ⟨fun hr => absurd hr (h1 n l a w h).1, fun i hi => wpOp_mono (fun a' w' h' => wpAny_inv J h0 h1 n _ a' w' h') ((h1 n l a w h).2 i hi)⟩

theorem ready_mem {md : Region.Mode} {ops : Array Oper} {listed : Array Bool} {i : Nat} (h : i ∈ Region.ready md ops listed) :
    i < ops.size ∧ listed.getD i true = false ∧ ∀ o, ops[i]? = some o → ∀ e ∈ o.after, Region.binds md e = true → listed.getD e.on false = true := by
  unfold Region.ready at h
  rw [List.mem_filter, List.mem_range] at h
  obtain ⟨h1, h2⟩ := h
  rw [Bool.and_eq_true] at h2
  refine ⟨h1, by simpa using h2.1, fun o ho e he hb => ?_⟩
  have h3 := h2.2
  rw [ho] at h3
  simp only [Option.map_some, Option.getD_some] at h3
  rw [Array.all_eq_true_iff_forall_mem] at h3
  have := h3 e he
  rw [hb] at this
  simpa using this

/-- Each operation waits for earlier ones alone. -/
def backs (ops : Array Oper) : Bool := (List.range ops.size).all fun i => ((ops[i]?).map (·.after.all fun e => decide (e.on < i))).getD true
theorem ready_ne {md : Region.Mode} {ops : Array Oper} {listed : Array Bool} (hb : backs ops = true) (hs : listed.size = ops.size) : ∀ (m i : Nat), i ≤ m → i < ops.size → listed.getD i true = false → Region.ready md ops listed ≠ [] := by
  intro m
  induction m with
  | zero =>
    intro i him hi hl
    obtain rfl : i = 0 := by omega
    intro hr
    have : 0 ∈ Region.ready md ops listed := by
      unfold Region.ready
      rw [List.mem_filter, List.mem_range]
      refine ⟨hi, ?_⟩
      rw [hl]
      have ho : ops[0]? = some ops[0] := by simp [hi]
      rw [ho]
      simp only [Option.map_some, Option.getD_some, Bool.not_false, Bool.true_and]
      unfold backs at hb
      rw [List.all_eq_true] at hb
      have h2 := hb 0 (List.mem_range.2 hi)
      rw [ho] at h2
      simp only [Option.map_some, Option.getD_some] at h2
      rw [Array.all_eq_true_iff_forall_mem] at h2 ⊢
      intro e he
      have := h2 e he
      simp at this
    rw [hr] at this
    exact absurd this List.not_mem_nil
  | succ m ih =>
    intro i him hi hl hr
    have ho : ops[i]? = some ops[i] := by simp [hi]
    have hbi : ∀ e ∈ ops[i].after, e.on < i := by
      unfold backs at hb
      rw [List.all_eq_true] at hb
      have h2 := hb i (List.mem_range.2 hi)
      rw [ho] at h2
      simp only [Option.map_some, Option.getD_some] at h2
      rw [Array.all_eq_true_iff_forall_mem] at h2
      intro e he
      simpa using h2 e he
    by_cases hall : ∀ e ∈ ops[i].after, listed.getD e.on false = true
    · have : i ∈ Region.ready md ops listed := by
        unfold Region.ready
        rw [List.mem_filter, List.mem_range]
        refine ⟨hi, ?_⟩
        rw [hl, ho]
        simp only [Option.map_some, Option.getD_some, Bool.not_false, Bool.true_and]
        rw [Array.all_eq_true_iff_forall_mem]
        intro e he
        rw [hall e he]
        simp
      rw [hr] at this
      exact absurd this List.not_mem_nil
    · have ⟨e, he⟩ := Classical.not_forall.1 hall
      have ⟨hm, hf⟩ := Classical.not_imp.1 he
      have hlt := hbi e hm
      have hsz : e.on < listed.size := by omega
      refine ih e.on (by omega) (by omega) ?_ hr
      have h1 : listed.getD e.on false = listed[e.on] := by simp [Array.getD, hsz]
      have h2 : listed.getD e.on true = listed[e.on] := by simp [Array.getD, hsz]
      rw [h1] at hf
      rw [h2]
      simpa using hf
/-- It waits for number k. -/
def waits (aft : Array Edge) (k : Nat) : Bool := aft.any fun e => Region.binds .any e && e.on == k
theorem ready_waits {ops : Array Oper} {listed : Array Bool} {i : Nat} (h : i ∈ Region.ready .any ops listed) {o : Oper} (ho : ops[i]? = some o) {k : Nat} (hk : waits o.after k = true) : listed.getD k false = true := by
  unfold waits at hk
  obtain ⟨e, he, hb⟩ := Array.any_eq_true'.1 hk
  rw [Bool.and_eq_true] at hb
  have := (ready_mem h).2.2 o ho e he hb.1
  rwa [eq_of_beq hb.2] at this

/-- All slots but those of D are as they were. -/
def Sl (D : List Nat) (a0 a : Act) : Prop := a.defers = a0.defers ∧ a.tmps.size = a0.tmps.size ∧ ∀ k, k ∉ D → a.tmps[k]? = a0.tmps[k]?
theorem Sl.refl (D : List Nat) (a : Act) : Sl D a a := ⟨rfl, rfl, fun _ _ => rfl⟩
theorem Sl.put {D : List Nat} {a0 a : Act} (h : Sl D a0 a) (d : Nat) (v : Value) (hd : d ∈ D) : Sl D a0 (a.put (some d) v) := by
  refine ⟨h.1, ?_, fun k hk => ?_⟩
  · show (a.tmps.setIfInBounds d v).size = _
    rw [Array.size_setIfInBounds, h.2.1]
  · show (a.tmps.setIfInBounds d v)[k]? = _
    rw [Array.getElem?_setIfInBounds_ne (fun e : d = k => hk (by rw [← e]; exact hd)), h.2.2 k hk]
theorem put_same {a : Act} {d : Nat} {v : Value} (h : d < a.tmps.size) : (a.put (some d) v).tmps[d]? = some v := by
  show (a.tmps.setIfInBounds d v)[d]? = _
  rw [Array.getElem?_setIfInBounds_self_of_lt h]
theorem put_ne {a : Act} {d k : Nat} {v : Value} (h : d ≠ k) : (a.put (some d) v).tmps[k]? = a.tmps[k]? := by
  show (a.tmps.setIfInBounds d v)[k]? = _
  rw [Array.getElem?_setIfInBounds_ne h]
theorem eval_tmp {a : Act} {k : Nat} {v : Value} (h : a.tmps[k]? = some v) : a.eval (.tmp k) = v := by
  show a.tmps.getD k undef = v
  rw [Array.getD_eq_getD_getElem?, h]; rfl

section
variable {ops : Array Oper} {Q : Exit → Act → World → Prop} {i d k : Nat} {K : Act → World → Prop} {a : Act} {w : World} {T : TypeId} {pos : String} {aft : Array Edge}
theorem wpOp_of {P : Program} {o : Oper} (hi : ops[i]? = some o) (hg : o.guard = none) (h : o.wp P a w K Q) : wpOp P ops Q i K a w := by
  unfold wpOp
  simp only [hi]
  rw [if_pos (by simp [Region.wanted, hg])]
  exact Or.inl h
theorem wpOp_load (hi : ops[i]? = some ⟨some d, .load 24 (.tmp k), T, pos, aft, none⟩) {B : Nat} {v0 v1 v2 : Value} (hk : a.tmps[k]? = some (.pointer (some ⟨B, 0, none⟩))) (hb : Blk B #[v0, v1, v2] 24 w)
    (h : K (a.put (some d) (.agg #[v0, v1, v2])) w) : wpOp Tryz.prog ops Q i K a w := by
  refine wpOp_of hi rfl ?_
  have ev := eval_tmp hk
  have c0 : w.cell? ⟨B, 0, none⟩ = some v0 := by rw [Blk.cell hb]; rfl
  have c1 : w.cell? ⟨B, 1, none⟩ = some v1 := by rw [Blk.cell hb]; rfl
  have c2 : w.cell? ⟨B, 2, none⟩ = some v2 := by rw [Blk.cell hb]; rfl
  unfold Oper.wp
  simp [go_sem, hk, c0, c1, c2]
  exact h
theorem wpOp_alloc (hi : ops[i]? = some ⟨some d, .alloc 24, T, pos, aft, none⟩)
    (h : K (a.put (some d) (.pointer (some ⟨w.heap.size, 0, none⟩))) (w.alloc (.cells #[.int .i64 0, .int .i64 0, .slice none 0 0] 24))) : wpOp Tryz.prog ops Q i K a w := by
  refine wpOp_of hi rfl ?_
  unfold Oper.wp
  simp [go_sem]
  exact h
theorem wpOp_store (hi : ops[i]? = some ⟨none, .store 24 (.tmp k) (.tmp d), T, pos, aft, none⟩) {B : Nat} {r c : Int} {ao : Option Addr} {n cap : Nat} {u0 u1 u2 : Value} (hk : a.tmps[k]? = some (.pointer (some ⟨B, 0, none⟩))) (hd : a.tmps[d]? = some (.agg #[.int .i64 r, .int .i64 c, .slice ao n cap])) (hb : Blk B #[u0, u1, u2] 24 w)
    (h : ∀ w', Mod B w w' → Blk B #[.int .i64 r, .int .i64 c, .slice ao n cap] 24 w' → K a w') : wpOp Tryz.prog ops Q i K a w := by
  refine wpOp_of hi rfl ?_
  have c0 : w.cell? ⟨B, 0, none⟩ = some u0 := by rw [Blk.cell hb]; rfl
  have c1 : w.cell? ⟨B, 1, none⟩ = some u1 := by rw [Blk.cell hb]; rfl
  have c2 : w.cell? ⟨B, 2, none⟩ = some u2 := by rw [Blk.cell hb]; rfl
  have f0 := Blk.free hb 0
  have f1 := Blk.free hb 1
  have f2 := Blk.free hb 2
  have hh := h (((w.setCell ⟨B, 0, none⟩ (.int .i64 r)).setCell ⟨B, 1, none⟩ (.int .i64 c)).setCell ⟨B, 2, none⟩ (.slice ao n cap)) ((((Mod.refl _ _).setCell _ _).setCell _ _).setCell _ _) (((hb.set 0 _).set 1 _).set 2 _)
  unfold Oper.wp
  simp [go_sem, hk, hd, c0, c1, c2, f0, f1, f2]
  exact hh
theorem wpOp_call1 {f : Nat} (hi : ops[i]? = some ⟨some d, .call ⟨.value (.func f), #[.tmp k], #[24]⟩, T, pos, aft, none⟩) {v : Value} (hk : a.tmps[k]? = some v) (hf : ∀ w, Sem.run Tryz.prog (callFunc f #[v]) w = .ok (.enter f #[v]) w)
    (h : Calls Tryz.prog f #[v] w fun e w' => ∃ x, e = .returned x ∧ K (a.put (some d) x) w') : wpOp Tryz.prog ops Q i K a w := by
  refine wpOp_of hi rfl ?_
  unfold Oper.wp
  simp [go_sem, hk, hf]
  refine h.mono ?_
  rintro e w' ⟨x, rfl, hx⟩
  exact hx
end

end Go.Proofs.YtgahdjfkmpadoaaGreat

/- A region that draws its order, whose last operation waits for all others: S need not hold behind that one. -/
namespace Go.Proofs.YtgahdjfkmpadoaaGreat
open Go.RowKit Go.Shelf Go.Proofs.Wd
set_option linter.unusedVariables false
set_option linter.unusedSimpArgs false
set_option maxRecDepth 10000

section
variable {P : Program} {ops : Array Oper} {Q : Exit → Act → World → Prop} {md : Region.Mode} {S : World → Prop} {g : Nat}
/-- Whatever order is picked, S holds behind every operation but number g. -/
def wpAnyG (P : Program) (md : Region.Mode) (ops : Array Oper) (Q : Exit → Act → World → Prop) (S : World → Prop) (g : Nat) : Nat → Array Bool → Act → World → Prop
  | 0, listed, a, w => Region.ready md ops listed = [] ∧ Q .normal a w
  | fuel + 1, listed, a, w =>
    (Region.ready md ops listed = [] → Q .normal a w) ∧
    ∀ i ∈ Region.ready md ops listed, wpOp P ops Q i (fun a' w' => (i ≠ g → S w') ∧ wpAnyG P md ops Q S g fuel (listed.setIfInBounds i true) a' w') a w
theorem wpAny_of_G : ∀ (fuel : Nat) (listed : Array Bool) (a : Act) (w : World), wpAnyG P md ops Q S g fuel listed a w → wpAny P md ops Q fuel listed a w
  | 0, _, _, _, h => h
  | fuel + 1, _, _, _, h => ⟨h.1, fun i hi => wpOp_mono (fun a' w' h' => wpAny_of_G fuel _ a' w' h'.2) (h.2 i hi)⟩
/-- Number g waits for number i. -/
def waitsFor (md : Region.Mode) (ops : Array Oper) (g i : Nat) : Bool := ((ops[g]?).map (·.after.any fun e => Region.binds md e && e.on == i)).getD false
theorem waits_listed {listed : Array Bool} {i : Nat} (h : waitsFor md ops g i = true) (hg : g ∈ Region.ready md ops listed) : listed.getD i false = true := by
  unfold waitsFor at h
  cases ho : ops[g]? with
  | none => rw [ho] at h; cases h
  | some o =>
    rw [ho] at h
    simp only [Option.map_some, Option.getD_some] at h
    obtain ⟨e, he, hb⟩ := Array.any_eq_true'.1 h
    rw [Bool.and_eq_true] at hb
    have := (ready_mem hg).2.2 o ho e he hb.1
    rwa [eq_of_beq hb.2] at this
theorem G_first {i : Nat} {oi : Oper} {v : Value} (hi : ops[i]? = some oi) (hgi : waitsFor md ops g i = true) (hig : i ≠ g) (hsel : ∀ (j : Nat) (o : Oper) cs b, ops[j]? = some o → o.op ≠ .select cs b)
    (hQ : ∀ c a w, Q (.panic c) (a.put oi.dst v) w → Q (.panic c) a w) :
    ∀ (fuel : Nat) (listed : Array Bool) (a : Act) (w : World),
      (∀ j oj, ops[j]? = some oj → j ≠ i → listed.getD j true = false → (∀ e ∈ oj.after, Region.binds md e = true → e.on ≠ i) → oi.apart ops oj = true) →
      i ∈ Region.ready md ops listed → YieldsIf P ops S oi v a → S w →
      wpAnyG P md ops Q S g fuel (listed.setIfInBounds i true) (a.put oi.dst v) w → wpAnyG P md ops Q S g (fuel + 1) listed a w := by
  intro fuel
  induction fuel with
  | zero =>
    intro listed a w _ hr hy hS H
    refine ⟨fun h => (by rw [h] at hr; cases hr), fun j hj => ?_⟩
    by_cases hji : j = i
    · subst hji; exact hy.wpOp hi hS ⟨fun _ => hS, H⟩
    · have := ready_mono hj hji
      rw [H.1] at this
      cases this
  | succ fuel ih =>
    intro listed a w hfree hr hy hS H
    refine ⟨fun h => (by rw [h] at hr; cases hr), fun j hj => ?_⟩
    by_cases hji : j = i
    · subst hji; exact hy.wpOp hi hS ⟨fun _ => hS, H⟩
    · have hun := (ready_mem hr).2.1
      have hjg : j ≠ g := by
        intro e
        subst e
        have h1 := waits_listed hgi hj
        rcases Nat.lt_or_ge i listed.size with h' | h'
        · simp [Array.getD, h'] at hun h1
          rw [hun] at h1
          cases h1
        · simp [Array.getD, Nat.not_lt.2 h'] at h1
      have h1 := H.2 j (ready_mono hj hji)
      have hoj' := (ready_mem hj).1
      obtain ⟨oj, hoj⟩ : ∃ oj, ops[j]? = some oj := ⟨ops[j], by simp [hoj']⟩
      have hjun := (ready_mem hj).2.1
      have hnot : ∀ e ∈ oj.after, Region.binds md e = true → e.on ≠ i := fun e he hb heq => by
        have h1 := (ready_mem hj).2.2 oj hoj e he hb
        rw [heq] at h1
        rcases Nat.lt_or_ge i listed.size with h' | h'
        · simp [Array.getD, h'] at hun h1
          rw [hun] at h1
          cases h1
        · simp [Array.getD, Nat.not_lt.2 h'] at h1
      have h2 := wpOp_putIf hoj (hfree j oj hoj hji hjun hnot) (fun cs b => hsel i oi cs b hi) (fun cs b => hsel j oj cs b hoj) hQ hy h1
      have hfree' : ∀ k ok, ops[k]? = some ok → k ≠ i → (listed.setIfInBounds j true).getD k true = false →
          (∀ e ∈ ok.after, Region.binds md e = true → e.on ≠ i) → oi.apart ops ok = true := fun k ok hk hki hun hno => by
        refine hfree k ok hk hki ?_ hno
        by_cases hjk : j = k
        · subst hjk; exact hjun
        · rw [getD_set_ne true hjk] at hun; exact hun
      refine wpOp_mono (fun a' w' h3 => ⟨fun _ => h3.2.1 hjg, ih (listed.setIfInBounds j true) a' w' hfree' (ready_mono hr (Ne.symm hji)) h3.1 (h3.2.1 hjg) ?_⟩) h2
      rw [Array.setIfInBounds_comm _ _ hji]
      exact h3.2.2
/-- The beginning. -/
theorem region_G {id : Nat} {a : Act} {w : World} (S : World → Prop) (g : Nat) (hm : P.follows .mixedOrders = true) (hS : S w.drew)
    (h : S w.drew → wpAnyG P .any ops (NoPanic Q) S g ops.size (Array.replicate ops.size false) a w.drew) : (Code.region id ops true).wp P Q a w :=
  wp_region_noPanic (wp_region_any hm (wpAny_of_G _ _ _ _ (h hS)))
/-- One operation is taken first. -/
theorem take_G {i d : Nat} {oi : Oper} {v : Value} {fuel : Nat} {listed : Array Bool} {a : Act} {w : World} (hi : ops[i]? = some oi) (hd : oi.dst = some d) (hgi : waitsFor md ops g i = true) (hig : (i == g) = false)
    (hs : Region.noSelect ops = true) (hf : Region.free md ops listed i = true) (hr : (Region.ready md ops listed).contains i = true)
    (hy : YieldsIf P ops S oi v a) (hS : S w)
    (h : wpAnyG P md ops (NoPanic Q) S g fuel (listed.setIfInBounds i true) (a.put (some d) v) w) : wpAnyG P md ops (NoPanic Q) S g (fuel + 1) listed a w := by
  refine G_first hi hgi (by simpa using hig) (Region.noSelect_spec hs) (fun _ _ _ h => h) fuel listed a w (Region.free_spec hi hf) (by simpa using hr) hy hS ?_
  rw [hd]
  exact h
/-- The one that can come up comes up. -/
theorem one_G {i fuel : Nat} {listed : Array Bool} {a : Act} {w : World} (hr : Region.ready md ops listed = [i])
    (h : wpOp P ops (NoPanic Q) i (fun a' w' => (i ≠ g → S w') ∧ wpAnyG P md ops (NoPanic Q) S g fuel (listed.setIfInBounds i true) a' w') a w) : wpAnyG P md ops (NoPanic Q) S g (fuel + 1) listed a w :=
  ⟨fun h0 => by (rw [hr] at h0; cases h0), fun j hj => by rw [hr] at hj; cases List.mem_singleton.1 hj; exact h⟩
theorem step_G {i fuel : Nat} {listed : Array Bool} {a : Act} {w : World} (hr : Region.ready md ops listed = [i])
    (h : ∀ K : Act → World → Prop, (∀ a' w', (i ≠ g → S w') → wpAnyG P md ops (NoPanic Q) S g fuel (listed.setIfInBounds i true) a' w' → K a' w') → wpOp P ops (NoPanic Q) i K a w) : wpAnyG P md ops (NoPanic Q) S g (fuel + 1) listed a w :=
  one_G hr (h _ (fun a' w' h1 h2 => ⟨h1, h2⟩))
theorem done_G {fuel : Nat} {listed : Array Bool} {a : Act} {w : World} (hr : Region.ready md ops listed = []) (h : NoPanic Q .normal a w) : wpAnyG P md ops (NoPanic Q) S g fuel listed a w := by
  cases fuel with
  | zero => exact ⟨hr, h⟩
  | succ f => exact ⟨fun _ => h, fun j hj => by rw [hr] at hj; cases hj⟩
end

end Go.Proofs.YtgahdjfkmpadoaaGreat

/- Laws with two units under way. -/
namespace Go.Proofs.YtgahdjfkmpadoaaGreat
open Go.RowKit Go.Shelf Go.Proofs.Wd
set_option linter.unusedVariables false
set_option linter.unusedSimpArgs false
set_option maxRecDepth 10000

def TS (w : World) (U V : Nat) (cu : Array Value) (tu : TypeId) (cv : Array Value) (tv : TypeId) (bx : List (Nat × Array Value)) (rows : List (Option Addr × Nat × (Nat → Int))) (wx : World) : Prop :=
  Blk U cu tu wx ∧ Blk V cv tv wx ∧ U ≠ V ∧ LS w [U, V] bx rows wx
theorem LS.unit {w : World} {E : List Nat} {bx : List (Nat × Array Value)} {rows : List (Option Addr × Nat × (Nat → Int))} {wx w1 : World} {cs : Array Value} {T : TypeId} (h : LS w E bx rows wx) (g : Grown wx w1) (hu : Blk wx.heap.size cs T w1) : LS w (wx.heap.size :: E) bx rows w1 := by
  have k := h.kp (Kp.of g)
  refine ⟨k.1, fun e he => ?_, fun b hb => ⟨(k.2.2.1 b hb).1, fun he => ?_⟩, fun r hr => ⟨(k.2.2.2 r hr).1, fun e he => ?_⟩⟩
  · rcases List.mem_cons.1 he with rfl | he
    · exact ⟨h.1.2.2.2, Blk.lt hu⟩
    · exact k.2.1 e he
  · rcases List.mem_cons.1 he with e | he
    · have := Blk.lt (h.2.2.1 b hb).1; omega
    · exact (k.2.2.1 b hb).2 he
  · rcases List.mem_cons.1 he with rfl | he
    · exact (h.2.2.2 r hr).1.off (Nat.le_refl _)
    · exact (k.2.2.2 r hr).2 e he
section
variable {w : World} {U V : Nat} {cu cv : Array Value} {tu tv : TypeId} {bx : List (Nat × Array Value)} {rows : List (Option Addr × Nat × (Nat → Int))} {wx w' : World}
theorem TS.kp (h : TS w U V cu tu cv tv bx rows wx) (k : Kp wx w') : TS w U V cu tu cv tv bx rows w' := ⟨Blk.kp h.1 k, Blk.kp h.2.1 k, h.2.2.1, h.2.2.2.kp k⟩
theorem TS.box (h : TS w U V cu tu cv tv bx rows wx) (cs : Array Value) : TS w U V cu tu cv tv ((wx.heap.size, cs) :: bx) rows (wx.alloc (.cells cs 24)) :=
  ⟨Blk.grown h.1 ((Grown.refl _).alloc _ _), Blk.grown h.2.1 ((Grown.refl _).alloc _ _), h.2.2.1, h.2.2.2.box cs⟩
theorem TS.mkU {cu' : Array Value} (h : TS w U V cu tu cv tv bx rows wx) (m : Mk U wx w') (u : Blk U cu' tu w') : TS w U V cu' tu cv tv bx rows w' := ⟨u, Blk.mk h.2.1 m (Ne.symm h.2.2.1), h.2.2.1, h.2.2.2.mk (by simp) m⟩
theorem TS.mkV {cv' : Array Value} (h : TS w U V cu tu cv tv bx rows wx) (m : Mk V wx w') (u : Blk V cv' tv w') : TS w U V cu tu cv' tv bx rows w' := ⟨Blk.mk h.1 m h.2.2.1, u, h.2.2.1, h.2.2.2.mk (by simp) m⟩
theorem TS.toldU {cu' : Array Value} {r c err : Int} {len : Nat} {Z : Nat → Int} {e : Ending} (h : TS w U V cu tu cv tv bx rows wx) (m : MatP r c len Z err (fun w' => Blk U cu' tu w' ∧ Mk U wx w') wx e w') :
    ∃ ao cap B, e = .returned (.tuple #[.agg #[.int .i64 r, .int .i64 c, .slice ao len cap], .int .i64 err]) ∧ len ≤ cap ∧ (len = 0 ∨ (ao = some ⟨B, 0, none⟩ ∧ Blk B (ints len Z) 3 w')) ∧ wx.heap.size ≤ B ∧ TS w U V cu' tu cv tv bx ((ao, len, Z) :: rows) w' := by
  have hx : Blk U cu' tu w' ∧ Mk U wx w' := let ⟨_, _, _, _, _, _, _, x⟩ := m; x
  have t := h.mkU hx.2 hx.1
  obtain ⟨ao, cap, B, h1, h2, h3, h4, h5, _⟩ := h.2.2.2.told t.2.2.2 m
  exact ⟨ao, cap, B, h1, h2, h3, h4, t.1, t.2.1, t.2.2.1, h5⟩
theorem TS.toldV {cv' : Array Value} {r c err : Int} {len : Nat} {Z : Nat → Int} {e : Ending} (h : TS w U V cu tu cv tv bx rows wx) (m : MatP r c len Z err (fun w' => Blk V cv' tv w' ∧ Mk V wx w') wx e w') :
    ∃ ao cap B, e = .returned (.tuple #[.agg #[.int .i64 r, .int .i64 c, .slice ao len cap], .int .i64 err]) ∧ len ≤ cap ∧ (len = 0 ∨ (ao = some ⟨B, 0, none⟩ ∧ Blk B (ints len Z) 3 w')) ∧ wx.heap.size ≤ B ∧ TS w U V cu tu cv' tv bx ((ao, len, Z) :: rows) w' := by
  have hx : Blk V cv' tv w' ∧ Mk V wx w' := let ⟨_, _, _, _, _, _, _, x⟩ := m; x
  have t := h.mkV hx.2 hx.1
  obtain ⟨ao, cap, B, h1, h2, h3, h4, h5, _⟩ := h.2.2.2.told t.2.2.2 m
  exact ⟨ao, cap, B, h1, h2, h3, h4, t.1, t.2.1, t.2.2.1, h5⟩
theorem TS.toldK {r c err : Int} {len : Nat} {Z : Nat → Int} {e : Ending} (h : TS w U V cu tu cv tv bx rows wx) (m : MatP r c len Z err (Kp wx) wx e w') :
    ∃ ao cap B, e = .returned (.tuple #[.agg #[.int .i64 r, .int .i64 c, .slice ao len cap], .int .i64 err]) ∧ len ≤ cap ∧ (len = 0 ∨ (ao = some ⟨B, 0, none⟩ ∧ Blk B (ints len Z) 3 w')) ∧ wx.heap.size ≤ B ∧ TS w U V cu tu cv tv bx ((ao, len, Z) :: rows) w' := by
  have hx : Kp wx w' := let ⟨_, _, _, _, _, _, _, x⟩ := m; x
  have t := h.kp hx
  obtain ⟨ao, cap, B, h1, h2, h3, h4, h5, _⟩ := h.2.2.2.told t.2.2.2 m
  exact ⟨ao, cap, B, h1, h2, h3, h4, t.1, t.2.1, t.2.2.1, h5⟩
theorem TS.congr {ao : Option Addr} {len : Nat} {Z Y : Nat → Int} (h : TS w U V cu tu cv tv bx ((ao, len, Z) :: rows) wx) (hz : ∀ i, i < len → Z i = Y i) : TS w U V cu tu cv tv bx ((ao, len, Y) :: rows) wx := ⟨h.1, h.2.1, h.2.2.1, h.2.2.2.congr hz⟩
/-- The three cells of a matrix. -/
theorem TS.cells (h : TS w U V cu tu cv tv bx rows wx) {b : Nat} {x y z : Value} (hb : (b, #[x, y, z]) ∈ bx) : wx.cell? ⟨b, 0, none⟩ = some x ∧ wx.cell? ⟨b, 1, none⟩ = some y ∧ wx.cell? ⟨b, 2, none⟩ = some z := ⟨h.2.2.2.cell hb 0, h.2.2.2.cell hb 1, h.2.2.2.cell hb 2⟩
theorem TS.lt (h : TS w U V cu tu cv tv bx rows wx) {b : Nat} {cs : Array Value} (hb : (b, cs) ∈ bx) : b < wx.heap.size := h.2.2.2.lt hb
theorem TS.rowU (h : TS w U V cu tu cv tv bx rows wx) {ao : Option Addr} {len : Nat} {Z : Nat → Int} (hr : (ao, len, Z) ∈ rows) : Row wx ao len Z ∧ Off U len ao ∧ Off V len ao :=
  ⟨(h.2.2.2.at hr).1, (h.2.2.2.at hr).2 U (by simp), (h.2.2.2.at hr).2 V (by simp)⟩
end

end Go.Proofs.YtgahdjfkmpadoaaGreat

/- OverInts over what a call made; a law's state beside it. -/
namespace Go.Proofs.YtgahdjfkmpadoaaGreat
open Go.RowKit Go.Shelf Go.Proofs.Wd
set_option linter.unusedVariables false
set_option linter.unusedSimpArgs false
set_option maxRecDepth 10000

theorem Own.set {B len : Nat} {Z : Nat → Int} {w : World} (h : Own B len Z w) (k : Nat) (v : Int) : Own B len (fun i => if i = k then v else Z i) (w.setCell ⟨B, k, none⟩ (.int .i64 v)) := by
  obtain ⟨cur, h1, h2⟩ := h
  refine ⟨_, Blk.set h1 k _, fun i hi => ?_⟩
  have e := h2 i hi
  have hs := (Array.getElem?_eq_some_iff.1 e).1
  rw [Array.getElem?_setIfInBounds]
  by_cases hk : k = i
  · rw [if_pos hk, if_pos (by omega)]
    show _ = some (Value.int .i64 (if i = k then v else Z i))
    rw [if_pos hk.symm]
  · rw [if_neg hk, e]
    show _ = some (Value.int .i64 (if i = k then v else Z i))
    rw [if_neg (fun e => hk e.symm)]
def OvJ (B : Nat) (ao : Option Addr) (len : Nat) (w wr : World) : Prop := Mod B w wr ∧ (len = 0 ∨ (ao = some ⟨B, 0, none⟩ ∧ ∃ Y, Own B len Y wr))
set_option maxHeartbeats 1000000 in
theorem kitOverI (B : Nat) (ao : Option Addr) (len cap : Nat) (X : Nat → Int) (hl : len ≤ 1000000) (w : World) (hA : len = 0 ∨ (ao = some ⟨B, 0, none⟩ ∧ Own B len X w)) :
    Calls Tryz.prog 33 #[.slice ao len cap] w fun e w' => e = .returned (.tuple #[]) ∧ Mod B w w' := by
  have HA := hide hA
  clear hA
  go_enter Tryz.func33, Tryz.ntmps33
  go_wp2
  go_loopw [2] (fun i wr => ∃ k : Nat, k ≤ len ∧ i = .int .i64 k ∧ Hid (OvJ B ao len w wr)) (fun i _ => len - (intOf i).toNat)
  case atStart => exact ⟨0, Nat.zero_le _, rfl, Mod.refl _ _, (unhide HA).imp id fun h => ⟨h.1, X, h.2⟩⟩
  case round =>
    obtain ⟨k, hk, rfl, HI⟩ := hrel
    by_cases hlt : k < len
    · obtain ⟨i1, i2⟩ := unhide HI
      rcases i2 with i2 | ⟨e1, Y, i2⟩
      · omega
      · subst e1
        have hc : wr.cell? ⟨B, k, none⟩ = some (.int .i64 (Y k)) := by obtain ⟨cur, b1, b2⟩ := i2; rw [Blk.cell b1, b2 k hlt]
        have hfz : wr.frozen? ⟨B, k, none⟩ = false := by obtain ⟨cur, b1, b2⟩ := i2; exact Blk.free b1 k
        have R : Hid (OvJ B (some ⟨B, 0, none⟩) len w (wr.setCell ⟨B, k, none⟩ (.int .i64 (-77)))) :=
          ⟨i1.setCell _ _, Or.inr ⟨rfl, _, Own.set i2 k _⟩⟩
        clear i1 i2 HI HA
        go_wp2
        go_roundw
        case rel => exact ⟨k + 1, by omega, by go_num, R⟩
        case measure => simp [intOf]; omega
    · obtain rfl : len = k := by omega
      go_wp2
      exact bodyPost_end (v := .tuple #[]) (by simp [results, Tryz.results33, go_sem]) rfl ⟨rfl, (unhide HI).1⟩

/-- A block that is none of the boxes, and holds no list. -/
def OffR (b : Nat) (bx : List (Nat × Array Value)) (rows : List (Option Addr × Nat × (Nat → Int))) : Prop := (∀ x ∈ bx, x.1 ≠ b) ∧ (∀ r ∈ rows, Off b r.2.1 r.1)
section
variable {w : World} {E : List Nat} {bx : List (Nat × Array Value)} {rows : List (Option Addr × Nat × (Nat → Int))} {wx w' : World} {b : Nat}
theorem LS.fresh (h : LS w E bx rows wx) (hb : wx.heap.size ≤ b) : OffR b bx rows := ⟨fun x hx => by have := Blk.lt (h.2.2.1 x hx).1; omega, fun r hr => (h.2.2.2 r hr).1.off hb⟩
theorem LS.over (h : LS w [] bx rows wx) (m : Mk b wx w') (hw : w.heap.size ≤ b) (f : OffR b bx rows) : LS w [] bx rows w' :=
  ⟨h.1.mk m hw, fun _ h => absurd h List.not_mem_nil, fun x hx => ⟨Blk.mk (h.2.2.1 x hx).1 m (f.1 x hx), List.not_mem_nil⟩, fun r hr => ⟨(h.2.2.2 r hr).1.mk m (f.2 r hr), fun _ h => absurd h List.not_mem_nil⟩⟩
theorem Mk.fresh (m : Mk wx.heap.size wx w') : Kp wx w' := ⟨m.1, m.2.1, fun k hk => m.2.2.1 k hk (by omega), m.2.2.2⟩
theorem kitOverL {ao : Option Addr} {len cap : Nat} {Z : Nat → Int} (hl : len ≤ 1000000) (h : LS w [] bx rows wx) (o : len = 0 ∨ (ao = some ⟨b, 0, none⟩ ∧ Own b len Z wx)) (hw : w.heap.size ≤ b) (f : len = 0 ∨ OffR b bx rows) :
    Calls Tryz.prog 33 #[.slice ao len cap] wx fun e w' => e = .returned (.tuple #[]) ∧ LS w [] bx rows w' ∧ (∀ k cs T, (len = 0 ∨ k ≠ b) → Blk k cs T wx → Blk k cs T w') := by
  by_cases hz : len = 0
  · refine (kitOverI wx.heap.size ao len cap Z hl wx (Or.inl hz)).mono ?_
    rintro e w' ⟨rfl, m⟩
    have k := Mk.fresh (Mk.of m)
    exact ⟨rfl, h.kp k, fun _ _ _ _ hb => Blk.kp hb k⟩
  · refine (kitOverI b ao len cap Z hl wx o).mono ?_
    rintro e w' ⟨rfl, m⟩
    exact ⟨rfl, h.over (Mk.of m) hw (f.resolve_left hz), fun _ _ _ hk hb => Blk.mk hb (Mk.of m) (hk.resolve_left hz)⟩
end

end Go.Proofs.YtgahdjfkmpadoaaGreat

/- Package mat: the funcs that Scale and reckon hand on. -/
namespace Go.Proofs.YtgahdjfkmpadoaaGreat
open Go.RowKit Go.Shelf Go.Proofs.Wd
set_option linter.unusedVariables false
set_option linter.unusedSimpArgs false
set_option maxRecDepth 10000

theorem pair_rowM (w : World) (x y : Int) : Row (w.alloc (.cells #[.int .i64 x, .int .i64 y] 3)) (some ⟨w.heap.size, 0, none⟩) 2 (pairZ x y) := by
  refine Or.inr ⟨_, 0, rfl, fun i hi => ?_⟩
  rw [Nat.zero_add, Blk.cell (Blk.new w _ _)]
  match i, hi with
  | 0, _ => rfl
  | 1, _ => rfl
theorem addTwoM (U : Nat) (a b : Int) (c : Bool) (n : Int) (bo cap : Nat) (w : World) (ha : I64 a) (hb : I64 b) (hn : 0 ≤ n ∧ n < 2305843009213693952) (h : UC U c n w) (hr : Row w (some ⟨bo, 0, none⟩) 2 (pairZ a b)) (ho : bo ≠ U) :
    Calls Tryz.prog 42 #[.pointer (some ⟨U, 0, none⟩), .slice (some ⟨bo, 0, none⟩) 2 cap] w fun e w' => e = .returned (.int .i64 (s2N a b)) ∧ UC U (c || s2C a b) (n + 2) w' ∧ Mod U w w' := by
  have := unitAdd U c n (some ⟨bo, 0, none⟩) 2 cap (pairZ a b) hn (by omega) (pairZ_I64 ha hb) w h hr (off_blk ho)
  rw [s2N_th, s2C_th] at this
  exact this
theorem mulTwoM (U : Nat) (a b : Int) (c : Bool) (n : Int) (bo cap : Nat) (w : World) (ha : I64 a) (hb : I64 b) (hn : 0 ≤ n ∧ n < 2305843009213693952) (h : UC U c n w) (hr : Row w (some ⟨bo, 0, none⟩) 2 (pairZ a b)) (ho : bo ≠ U) :
    Calls Tryz.prog 43 #[.pointer (some ⟨U, 0, none⟩), .slice (some ⟨bo, 0, none⟩) 2 cap] w fun e w' => e = .returned (.int .i64 (m2N a b)) ∧ UC U (c || m2C a b) (n + 2) w' ∧ Mod U w w' := by
  have := unitMul U c n (some ⟨bo, 0, none⟩) 2 cap (pairZ a b) hn (by omega) (pairZ_I64 ha hb) w h hr (off_blk ho)
  rw [m2N_th, m2C_th] at this
  exact this
/-- The k-th of row i: new memory alone. -/
theorem matAtG (r c i k b o cap : Nat) (Z : Nat → Int) (hr : 1 ≤ r ∧ r ≤ 12) (hc : 1 ≤ c ∧ c ≤ 12) (hi : i < r) (hk : k < c) (w : World) (hz : w.cell? ⟨b, o + (i * c + k), none⟩ = some (.int .i64 (Z (i * c + k)))) :
    Calls Tryz.prog 79 #[.agg #[.int .i64 r, .int .i64 c, .slice (some ⟨b, o, none⟩) (r * c) cap], .int .i64 i, .int .i64 k] w fun e w' => e = .returned (.int .i64 (Z (i * c + k))) ∧ Grown w w' :=
  (matAt r c i k b o cap Z hr hc hi hk w hz).mono fun e w' h => ⟨h.1, by rw [h.2]; exact (Grown.refl _).alloc _ _⟩


end Go.Proofs.YtgahdjfkmpadoaaGreat

/- Package mat: reckon, Sum, Less, Scale. -/
namespace Go.Proofs.YtgahdjfkmpadoaaGreat
open Go.RowKit Go.Shelf Go.Proofs.Wd
set_option linter.unusedVariables false
set_option linter.unusedSimpArgs false
set_option maxRecDepth 10000


end Go.Proofs.YtgahdjfkmpadoaaGreat

/- The laws' helper awake: some of the chapter's examples. -/
namespace Go.Proofs.YtgahdjfkmpadoaaGreat
open Go.RowKit Go.Shelf Go.Proofs.Wd
set_option linter.unusedVariables false
set_option linter.unusedSimpArgs false
set_option maxRecDepth 10000

/-- A list of whole numbers, as it is written, times One. -/
def oneL (l : List Int) : Nat → Int := fun i => ix l i * 4294967296
theorem lits_small {l : List Int} (h : ∀ x ∈ l, -1000000 ≤ x ∧ x ≤ 1000000) : ∀ i, i < l.length → -1000000 ≤ ix l i ∧ ix l i ≤ 1000000 := by
  intro i hi
  have : ix l i = l[i] := by simp [ix, hi]
  rw [this]
  exact h _ (List.getElem_mem _)
theorem oneL_I64 {l : List Int} (h : ∀ x ∈ l, -1000000 ≤ x ∧ x ≤ 1000000) : ∀ i, i < l.length → I64 (oneL l i) := by
  intro i hi
  have := lits_small h i hi
  unfold oneL I64
  omega
theorem ok22 : okM 2 2 4 := ⟨⟨by omega, by omega⟩, ⟨by omega, by omega⟩, by decide⟩
theorem mul22 : ∀ i, i < 4 → mulZ (oneL [1, 2, 3, 4]) (oneL [0, 1, 1, 0]) 2 2 i = oneL [2, 1, 4, 3] i := by decide +kernel
theorem mul22c : (false || orC (mulG (oneL [1, 2, 3, 4]) (oneL [0, 1, 1, 0]) 2 2) 4) = false := by decide +kernel
theorem turn22 : ∀ i, i < 4 → turnZ (oneL [1, 2, 3, 4]) 2 2 i = oneL [1, 3, 2, 4] i := by decide +kernel

end Go.Proofs.YtgahdjfkmpadoaaGreat

/- Laws with one unit under way. -/
namespace Go.Proofs.YtgahdjfkmpadoaaGreat
open Go.RowKit Go.Shelf Go.Proofs.Wd
set_option linter.unusedVariables false
set_option linter.unusedSimpArgs false
set_option maxRecDepth 10000

/-- One unit, whose flag is P's, and that has done at most D operations; matrices in cells, lists. -/
def KS (w : World) (U : Nat) (P : Bool → Prop) (D : Int) (bx : List (Nat × Array Value)) (rows : List (Option Addr × Nat × (Nat → Int))) (wx : World) : Prop :=
  (∃ c n, P c ∧ 0 ≤ n ∧ n ≤ D ∧ UC U c n wx) ∧ LS w [U] bx rows wx
section
variable {w : World} {U : Nat} {P : Bool → Prop} {D : Int} {bx : List (Nat × Array Value)} {rows : List (Option Addr × Nat × (Nat → Int))} {wx w' : World}
theorem KS.kp (h : KS w U P D bx rows wx) (k : Kp wx w') : KS w U P D bx rows w' := let ⟨c, n, h1, h2, h3, h4⟩ := h.1; ⟨⟨c, n, h1, h2, h3, Blk.kp h4 k⟩, h.2.kp k⟩
theorem KS.box (h : KS w U P D bx rows wx) (cs : Array Value) : KS w U P D ((wx.heap.size, cs) :: bx) rows (wx.alloc (.cells cs 24)) :=
  let ⟨c, n, h1, h2, h3, h4⟩ := h.1; ⟨⟨c, n, h1, h2, h3, Blk.grown h4 ((Grown.refl _).alloc _ _)⟩, h.2.box cs⟩
theorem KS.cells (h : KS w U P D bx rows wx) {b : Nat} {x y z : Value} (hb : (b, #[x, y, z]) ∈ bx) : wx.cell? ⟨b, 0, none⟩ = some x ∧ wx.cell? ⟨b, 1, none⟩ = some y ∧ wx.cell? ⟨b, 2, none⟩ = some z := ⟨h.2.cell hb 0, h.2.cell hb 1, h.2.cell hb 2⟩
theorem KS.row (h : KS w U P D bx rows wx) {ao : Option Addr} {len : Nat} {Z : Nat → Int} (hr : (ao, len, Z) ∈ rows) : Row wx ao len Z ∧ Off U len ao := ⟨(h.2.at hr).1, (h.2.at hr).2 U (by simp)⟩
theorem KS.congr {ao : Option Addr} {len : Nat} {Z Y : Nat → Int} (h : KS w U P D bx ((ao, len, Z) :: rows) wx) (hz : ∀ i, i < len → Z i = Y i) : KS w U P D bx ((ao, len, Y) :: rows) wx := ⟨h.1, h.2.congr hz⟩
/-- A list written out. -/
theorem KS.lit (h : KS w U P D bx rows wx) (l : List Int) : KS w U P D bx ((some ⟨wx.heap.size, 0, none⟩, l.length, ix l) :: rows) (wx.alloc (.cells (l.map (Value.int .i64)).toArray 3)) := by
  have k := h.kp (Kp.of ((Grown.refl wx).alloc (l.map (Value.int .i64)).toArray 3))
  refine ⟨k.1, k.2.row (row_lit (Blk.new wx _ _)) (fun e he => off_lit ?_)⟩
  have := (h.2.2.1 e he).2
  omega

/-- A matrix that the unit reckoned. -/
theorem KS.toldU {F : Nat} {args : Array Value} {r c err : Int} {len : Nat} {Z : Nat → Int} {G : Bool} {d : Int} (D' : Int) (h : KS w U P D bx rows wx) (hD : D ≤ 1000000000) (hd : 0 ≤ d ∧ D + d ≤ D') (hG : ∀ c, P c → P (c || G))
    (m : ∀ c0 n0, 0 ≤ n0 ∧ n0 < 1152921504606846976 → UC U c0 n0 wx → Calls Tryz.prog F args wx fun e w' => MatP r c len Z err (fun w' => UC U (c0 || G) (n0 + d) w' ∧ Mk U wx w') wx e w') :
    Calls Tryz.prog F args wx fun e w' => ∃ ao cap, e = .returned (.tuple #[.agg #[.int .i64 r, .int .i64 c, .slice ao len cap], .int .i64 err]) ∧ len ≤ cap ∧ KS w U P D' bx ((ao, len, Z) :: rows) w' := by
  obtain ⟨c0, n0, h1, h2, h3, h4⟩ := h.1
  refine (m c0 n0 ⟨h2, by omega⟩ h4).mono fun e w' hv => ?_
  have hx : UC U (c0 || G) (n0 + d) w' ∧ Mk U wx w' := let ⟨_, _, _, _, _, _, _, x⟩ := hv; x
  have t := h.2.mk (U := U) (by simp) hx.2
  obtain ⟨ao, cap, B, e1, e2, e3, e4, e5, _⟩ := h.2.told t hv
  exact ⟨ao, cap, e1, e2, ⟨_, _, hG _ h1, by omega, by omega, hx.1⟩, e5⟩
/-- A list that the unit reckoned. -/
theorem KS.listU {F : Nat} {args : Array Value} {err : Int} {len : Nat} {Z : Nat → Int} {G : Bool} {d : Int} (D' : Int) (h : KS w U P D bx rows wx) (hD : D ≤ 1000000000) (hd : 0 ≤ d ∧ D + d ≤ D') (hG : ∀ c, P c → P (c || G))
    (m : ∀ c0 n0, 0 ≤ n0 ∧ n0 < 1152921504606846976 → UC U c0 n0 wx → Calls Tryz.prog F args wx fun e w' => ListP len Z err (fun w' => UC U (c0 || G) (n0 + d) w' ∧ Mk U wx w') wx e w') :
    Calls Tryz.prog F args wx fun e w' => ∃ ao cap, e = .returned (.tuple #[.slice ao len cap, .int .i64 err]) ∧ len ≤ cap ∧ KS w U P D' bx ((ao, len, Z) :: rows) w' := by
  obtain ⟨c0, n0, h1, h2, h3, h4⟩ := h.1
  refine (m c0 n0 ⟨h2, by omega⟩ h4).mono fun e w' ⟨ao, cap, B, e1, e2, e3, e4, e5, e6⟩ => ?_
  have t := h.2.mk (U := U) (by simp) e6
  refine ⟨ao, cap, e1, e4, ⟨_, _, hG _ h1, by omega, by omega, e5⟩, t.row ?_ (fun e he => ?_)⟩
  · rcases e3 with rfl | ⟨rfl, hb⟩
    · exact Or.inl rfl
    · exact hb.row
  · rcases e3 with rfl | ⟨rfl, hb⟩
    · exact fun hl => absurd hl (Nat.lt_irrefl _)
    · exact off_blk (by have := (h.2.2.1 e he).2; omega)
/-- What no unit reckoned. -/
theorem KS.toldK {r c err : Int} {len : Nat} {Z : Nat → Int} {e : Ending} (h : KS w U P D bx rows wx) (hv : MatP r c len Z err (Kp wx) wx e w') : ∃ ao cap, e = .returned (.tuple #[.agg #[.int .i64 r, .int .i64 c, .slice ao len cap], .int .i64 err]) ∧ len ≤ cap ∧ KS w U P D bx ((ao, len, Z) :: rows) w' := by
  have hx : Kp wx w' := let ⟨_, _, _, _, _, _, _, x⟩ := hv; x
  have t := h.kp hx
  obtain ⟨ao, cap, B, e1, e2, e3, e4, e5, _⟩ := h.2.told t.2 hv
  exact ⟨ao, cap, e1, e2, t.1, e5⟩
theorem KS.rowK {err : Int} {len : Nat} {Z : Nat → Int} {e : Ending} (h : KS w U P D bx rows wx) (hv : RowP len Z err wx e w') : ∃ ao cap, e = .returned (.tuple #[.slice ao len cap, .int .i64 err]) ∧ KS w U P D bx ((ao, len, Z) :: rows) w' := by
  obtain ⟨ao, cap, B, e1, e2, e3, e4⟩ := hv
  have t := h.kp e4
  refine ⟨ao, cap, e1, t.1, t.2.row ?_ (fun e he => ?_)⟩
  · rcases e3 with rfl | ⟨rfl, hb⟩
    · exact Or.inl rfl
    · exact hb.row
  · rcases e3 with rfl | ⟨rfl, hb⟩
    · exact fun hl => absurd hl (Nat.lt_irrefl _)
    · exact off_blk (by have := (h.2.2.1 e he).2; omega)
theorem KS.copy {r c : Int} {len : Nat} {Z : Nat → Int} {e : Ending} (h : KS w U P D bx rows wx) (m : CopyM r c len Z wx e w') : ∃ ao cap, e = .returned (.agg #[.int .i64 r, .int .i64 c, .slice ao len cap]) ∧ len ≤ cap ∧ KS w U P D bx ((ao, len, Z) :: rows) w' := by
  have hx : Kp wx w' := let ⟨_, _, _, _, _, _, k⟩ := m; k
  obtain ⟨ao, cap, e1, e2, e3⟩ := h.2.copy m
  exact ⟨ao, cap, e1, e2, (h.kp hx).1, e3⟩
theorem KS.start {w1 : World} (hU : w.heap.size ≤ U) (h1 : UC U false 0 w1) (g1 : Grown w w1) (hP : P false) : KS w U P 0 [] [] w1 :=
  ⟨⟨false, 0, hP, by omega, by omega, h1⟩, Kp.of g1, fun e he => (by simp at he; subst he; exact ⟨hU, Blk.lt h1⟩), fun _ h => absurd h List.not_mem_nil, fun _ h => absurd h List.not_mem_nil⟩
end

/-- The calls, over rows. -/
theorem mulR (U : Nat) (r m c : Nat) (hr : 1 ≤ r ∧ r ≤ 12) (hm : 1 ≤ m ∧ m ≤ 12) (hc : 1 ≤ c ∧ c ≤ 12) (a1 a2 : Option Addr) (p1 p2 : Nat) (A B : Nat → Int) (hp : r * m ≤ p1) (hA : ∀ j, j < r * m → I64 (A j)) (hB : ∀ j, j < m * c → I64 (B j)) (w : World) (ra : Row w a1 (r * m) A ∧ Off U (r * m) a1) (rb : Row w a2 (m * c) B ∧ Off U (m * c) a2) (c0 : Bool) (n0 : Int) (hn : 0 ≤ n0 ∧ n0 < 1152921504606846976) (h : UC U c0 n0 w) :
    Calls Tryz.prog 36 #[.pointer (some ⟨U, 0, none⟩), .agg #[.int .i64 r, .int .i64 m, .slice a1 (r * m) p1], .agg #[.int .i64 m, .int .i64 c, .slice a2 (m * c) p2]] w fun e w' => MatP r c (r * c) (mulZ A B m c) 0 (fun w' => UC U (c0 || orC (mulG A B m c) (r * c)) (n0 + 2 * m * ((r * c : Nat) : Int)) w' ∧ Mk U w w') w e w' := by
  have k1 := mul12n r m hr hm
  have k2 := mul12n m c hm hc
  obtain ⟨b, o, rfl, za⟩ := ra.1.some k1.1
  obtain ⟨b2, o2, rfl, zb⟩ := rb.1.some k2.1
  exact matMul_ok U c0 n0 hn r m c b o p1 b2 o2 p2 A B hr hm hc hp hA hB w h za zb (off_at ra.2 k1.1) (off_at rb.2 k2.1)
theorem mulBadR (U : Nat) (R1 C1 R2 C2 : Int) (a1 a2 : Option Addr) (l1 p1 l2 p2 : Nat) (Z : Nat → Int) (hb : ¬ (okM R1 C1 l1 ∧ okM R2 C2 l2 ∧ C1 = R2)) (w : World) (c0 : Bool) (n0 : Int) (hn : 0 ≤ n0 ∧ n0 < 1152921504606846976) (h : UC U c0 n0 w) :
    Calls Tryz.prog 36 #[.pointer (some ⟨U, 0, none⟩), .agg #[.int .i64 R1, .int .i64 C1, .slice a1 l1 p1], .agg #[.int .i64 R2, .int .i64 C2, .slice a2 l2 p2]] w fun e w' => MatP 0 0 0 Z 3 (fun w' => UC U (c0 || false) (n0 + 0) w' ∧ Mk U w w') w e w' := by
  rw [Bool.or_false, Int.add_zero]
  exact matMul_bad U c0 n0 hn R1 C1 R2 C2 a1 a2 l1 p1 l2 p2 Z hb w h

end Go.Proofs.YtgahdjfkmpadoaaGreat

/- Small facts: sums and products of places, an owned list's cells, a region's end. -/
namespace Go.Proofs.YtgahdjfkmpadoaaGreat
open Go.RowKit Go.Shelf Go.Proofs.Wd
set_option linter.unusedVariables false
set_option linter.unusedSimpArgs false
set_option maxRecDepth 10000

theorem noPanic_normalE {Q : Exit → Act → World → Prop} {a : Act} {w : World} (h : Q .normal a w) : NoPanic Q .normal a w := h
theorem wrapPi (a b p : Nat) (h : a * b = p) (hp : p ≤ 1000000) : IntKind.i64.wrap ((a : Int) * (b : Int)) = (p : Int) := by
  rw [IntKind.wrap_i64, ← Int.natCast_mul, h]
  omega
theorem wrapAi (a b p : Nat) (h : a + b = p) (hp : p ≤ 1000000) : IntKind.i64.wrap ((a : Int) + (b : Int)) = (p : Int) := by
  rw [IntKind.wrap_i64, ← Int.natCast_add, h]
  omega
theorem Own.congr {B len : Nat} {Z Y : Nat → Int} {w : World} (h : Own B len Z w) (e : ∀ i, i < len → Z i = Y i) : Own B len Y w := let ⟨cur, h1, h2⟩ := h; ⟨cur, h1, fun i hi => by rw [h2 i hi, e i hi]⟩
theorem Own.cellAt {B len : Nat} {Z : Nat → Int} {w : World} (h : Own B len Z w) (k : Nat) (hk : k < len) : w.cell? ⟨B, k, none⟩ = some (.int .i64 (Z k)) := let ⟨cur, h1, h2⟩ := h; by rw [Blk.cell h1, h2 k hk]
theorem Own.freeAt {B len : Nat} {Z : Nat → Int} {w : World} (h : Own B len Z w) (k : Nat) : w.frozen? ⟨B, k, none⟩ = false := let ⟨cur, h1, h2⟩ := h; Blk.free h1 k
theorem owns_ownC {w : World} {base n : Nat} {v : Value} {Z : Nat → Int} (hn : 1 ≤ n) (h : w.ownsRow base 3 1 v n ((List.range n).map fun i => Value.int .i64 (Z i))) : ∃ B cap, v = .slice (some ⟨B, 0, none⟩) n cap ∧ n ≤ cap ∧ base ≤ B ∧ Own B n Z w := by
  obtain ⟨B, cap, rfl, h1, h2⟩ := owns_own hn h
  obtain ⟨ao, cap', e, h3, _⟩ := owns_rowC h
  cases e
  exact ⟨B, cap, rfl, h3, h1, h2⟩

end Go.Proofs.YtgahdjfkmpadoaaGreat

/- Symmetric matrices of fixed numbers, in whole numbers: what Even and Rank come to, place by place, and what each pair of places adds to it. -/
namespace Go.Proofs.Wd
set_option linter.unusedVariables false

/-- What stands at the pair of places of a and b, by f of the lesser and the greater. -/
def pairV (f : Nat → Nat → Int) (a b : Nat) : Int := f (min a b) (max a b)
open Classical in
/-- Places whose pair is done hold the pair's number, the others A's. d a b: is the pair (a ≤ b) done? -/
noncomputable def pairZ2 (A : Nat → Int) (f : Nat → Nat → Int) (d : Nat → Nat → Prop) (n : Nat) : Nat → Int := fun p => if d (min (p / n) (p % n)) (max (p / n) (p % n)) then pairV f (p / n) (p % n) else A p
/-- Even: the number of a pair. -/
def evF (A : Nat → Int) (n : Nat) : Nat → Nat → Int := fun a b => halfN (A (a * n + b)) (A (b * n + a))
def evC (A : Nat → Int) (n : Nat) : Nat → Nat → Bool := fun a b => halfC (A (a * n + b)) (A (b * n + a))
/-- Rank. -/
def rkF (A K : Nat → Int) (s : Int) (n : Nat) : Nat → Nat → Int := fun a b => s2N (A (a * n + b)) (m2N s (m2N (K a) (K b)))
def rkC (A K : Nat → Int) (s : Int) (n : Nat) : Nat → Nat → Bool := fun a b => m2C (K a) (K b) || m2C s (m2N (K a) (K b)) || s2C (A (a * n + b)) (m2N s (m2N (K a) (K b)))
/-- What has been cut, place by place, of pairs that begin o behind the diagonal (Even: 1, Rank: 0). -/
def upC (g : Nat → Nat → Bool) (o n : Nat) : Nat → Bool := fun p => decide (p / n + o ≤ p % n) && g (p / n) (p % n)
noncomputable def evenZ (A : Nat → Int) (n : Nat) : Nat → Int := pairZ2 A (evF A n) (fun a b => a < b) n
noncomputable def rankZ (A K : Nat → Int) (s : Int) (n : Nat) : Nat → Int := pairZ2 A (rkF A K s n) (fun a b => a ≤ b) n
/-- Done: all pairs of rows ahead of i, and those of row i ahead of k. -/
def doneB (o i k : Nat) : Nat → Nat → Prop := fun a b => a + o ≤ b ∧ (a < i ∨ (a = i ∧ b < k))

theorem pairZ2_congr (A : Nat → Int) (f : Nat → Nat → Int) (d e : Nat → Nat → Prop) (n p : Nat) (h : d (min (p / n) (p % n)) (max (p / n) (p % n)) ↔ e (min (p / n) (p % n)) (max (p / n) (p % n))) : pairZ2 A f d n p = pairZ2 A f e n p := by
  unfold pairZ2
  by_cases hd : d (min (p / n) (p % n)) (max (p / n) (p % n))
  · rw [if_pos hd, if_pos (h.1 hd)]
  · rw [if_neg hd, if_neg (fun he => hd (h.2 he))]
/-- Nothing is done. -/
theorem done_none (A : Nat → Int) (f : Nat → Nat → Int) (o n p : Nat) : pairZ2 A f (doneB o 0 o) n p = A p := by
  unfold pairZ2
  rw [if_neg]
  generalize p / n = a
  generalize p % n = b
  rintro ⟨h1, h2 | ⟨h2, h3⟩⟩ <;> omega
/-- A row is done. -/
theorem done_row (A : Nat → Int) (f : Nat → Nat → Int) (o i n p : Nat) (hp : p < n * n) : pairZ2 A f (doneB o i n) n p = pairZ2 A f (doneB o (i + 1) (i + 1 + o)) n p := by
  have := place_lt p n n hp
  refine pairZ2_congr A f _ _ n p ?_
  generalize p / n = a at *
  generalize p % n = b at *
  refine ⟨?_, ?_⟩
  · rintro ⟨h1, h2⟩
    exact ⟨h1, by omega⟩
  · rintro ⟨h1, h2⟩
    exact ⟨h1, by omega⟩
/-- One more pair. -/
theorem done_step (A : Nat → Int) (f : Nat → Nat → Int) (o i k n p : Nat) (hik : i + o ≤ k) (hk : k < n) :
    (if p = k * n + i then f i k else if p = i * n + k then f i k else pairZ2 A f (doneB o i k) n p) = pairZ2 A f (doneB o i (k + 1)) n p := by
  have hi : i < n := by omega
  by_cases e1 : p = k * n + i
  · rw [if_pos e1, e1]
    unfold pairZ2 pairV
    rw [place_div k i n hi, place_mod k i n hi, Nat.min_eq_right (by omega), Nat.max_eq_left (by omega), if_pos ⟨hik, Or.inr ⟨rfl, by omega⟩⟩]
  · rw [if_neg e1]
    by_cases e2 : p = i * n + k
    · rw [if_pos e2, e2]
      unfold pairZ2 pairV
      rw [place_div i k n hk, place_mod i k n hk, Nat.min_eq_left (by omega), Nat.max_eq_right (by omega), if_pos ⟨hik, Or.inr ⟨rfl, by omega⟩⟩]
    · rw [if_neg e2]
      refine pairZ2_congr A f _ _ n p ⟨?_, ?_⟩
      · rintro ⟨h1, h2⟩
        exact ⟨h1, h2.imp id (fun h => ⟨h.1, Nat.lt_succ_of_lt h.2⟩)⟩
      · rintro ⟨h1, h2⟩
        refine ⟨h1, ?_⟩
        rcases h2 with h2 | ⟨h2, h3⟩
        · exact Or.inl h2
        · refine Or.inr ⟨h2, ?_⟩
          by_cases h4 : max (p / n) (p % n) = k
          · exfalso
            have pe := place_eq p n
            rcases Nat.le_total (p / n) (p % n) with h5 | h5
            · rw [Nat.min_eq_left h5] at h2
              rw [Nat.max_eq_right h5] at h4
              rw [h2, h4] at pe
              exact e2 pe.symm
            · rw [Nat.min_eq_right h5] at h2
              rw [Nat.max_eq_left h5] at h4
              rw [h2, h4] at pe
              exact e1 pe.symm
          · omega
theorem even_done (A : Nat → Int) (n p : Nat) (hp : p < n * n) : pairZ2 A (evF A n) (doneB 1 n (n + 1)) n p = evenZ A n p := by
  have := place_lt p n n hp
  refine pairZ2_congr A _ _ _ n p ?_
  generalize p / n = a at *
  generalize p % n = b at *
  refine ⟨?_, ?_⟩
  · rintro ⟨h1, _⟩
    omega
  · intro h
    exact ⟨by omega, Or.inl (by omega)⟩
theorem rank_done (A K : Nat → Int) (s : Int) (n p : Nat) (hp : p < n * n) : pairZ2 A (rkF A K s n) (doneB 0 n n) n p = rankZ A K s n p := by
  have := place_lt p n n hp
  refine pairZ2_congr A _ _ _ n p ?_
  generalize p / n = a at *
  generalize p % n = b at *
  refine ⟨?_, ?_⟩
  · rintro ⟨h1, _⟩
    omega
  · intro h
    exact ⟨by omega, Or.inl (by omega)⟩
/-- Behind the last pair of a row nothing is cut ahead of the next row's first. -/
theorem upC_skip (g : Nat → Nat → Bool) (o i n : Nat) (hi : i < n) : ∀ k, k ≤ i + o → k ≤ n → orC (upC g o n) (i * n + k) = orC (upC g o n) (i * n)
  | 0, _, _ => rfl
  | k + 1, h, hn => by
    show (orC (upC g o n) (i * n + k) || upC g o n (i * n + k)) = _
    rw [upC_skip g o i n hi k (by omega) (by omega)]
    unfold upC
    rw [place_div i k n (by omega), place_mod i k n (by omega), decide_eq_false (by omega)]
    simp
theorem upC_step (g : Nat → Nat → Bool) (o i k n : Nat) (hik : i + o ≤ k) (hk : k < n) : orC (upC g o n) (i * n + (k + 1)) = (orC (upC g o n) (i * n + k) || g i k) := by
  show (orC (upC g o n) (i * n + k) || upC g o n (i * n + k)) = _
  unfold upC
  rw [place_div i k n hk, place_mod i k n hk, decide_eq_true hik]
  rfl
/-- Symmetric: the same with rows and columns exchanged. -/
def symP (A : Nat → Int) (n : Nat) : Prop := ∀ i k, i < n → k < n → A (i * n + k) = A (k * n + i)
theorem pair_sym (A : Nat → Int) (f : Nat → Nat → Int) (n : Nat) (d : Nat → Nat → Prop) (hd : ∀ a b, a < b → d a b) : symP (pairZ2 A f d n) n := by
  intro i k hi hk
  by_cases e : i = k
  · subst e; rfl
  · unfold pairZ2 pairV
    rw [place_div i k n hk, place_mod i k n hk, place_div k i n hi, place_mod k i n hi, Nat.min_comm k i, Nat.max_comm k i]
    have : d (min i k) (max i k) := hd _ _ (by omega)
    rw [if_pos this, if_pos this]
theorem even_sym (A : Nat → Int) (n : Nat) : symP (evenZ A n) n := pair_sym _ _ _ _ (fun _ _ h => h)
theorem rank_sym (A K : Nat → Int) (s : Int) (n : Nat) : symP (rankZ A K s n) n := pair_sym _ _ _ _ (fun _ _ h => Nat.le_of_lt h)
theorem evenZ_I64 (A : Nat → Int) (n p : Nat) (h : I64 (A p)) : I64 (evenZ A n p) := by
  unfold evenZ pairZ2
  split
  · exact fitI_I64 _
  · exact h

end Go.Proofs.Wd

/- Pairs of places, whatever order they come in: what stands there, and what was cut. -/
namespace Go.Proofs.Wd
set_option linter.unusedVariables false

theorem pair_step (A : Nat → Int) (f : Nat → Nat → Int) (d : Nat → Nat → Prop) (i k n p : Nat) (hik : i ≤ k) (hk : k < n) :
    (if p = k * n + i then f i k else if p = i * n + k then f i k else pairZ2 A f d n p) = pairZ2 A f (fun a b => d a b ∨ (a = i ∧ b = k)) n p := by
  have hi : i < n := by omega
  by_cases e1 : p = k * n + i
  · rw [if_pos e1, e1]
    unfold pairZ2 pairV
    rw [place_div k i n hi, place_mod k i n hi, Nat.min_eq_right (by omega), Nat.max_eq_left (by omega), if_pos (Or.inr ⟨rfl, rfl⟩)]
  · rw [if_neg e1]
    by_cases e2 : p = i * n + k
    · rw [if_pos e2, e2]
      unfold pairZ2 pairV
      rw [place_div i k n hk, place_mod i k n hk, Nat.min_eq_left (by omega), Nat.max_eq_right (by omega), if_pos (Or.inr ⟨rfl, rfl⟩)]
    · rw [if_neg e2]
      refine pairZ2_congr A f _ _ n p ⟨Or.inl, ?_⟩
      rintro (h | ⟨h1, h2⟩)
      · exact h
      · exfalso
        have pe := place_eq p n
        rcases Nat.le_total (p / n) (p % n) with h5 | h5
        · rw [Nat.min_eq_left h5] at h1
          rw [Nat.max_eq_right h5] at h2
          rw [h1, h2] at pe
          exact e2 pe.symm
        · rw [Nat.min_eq_right h5] at h1
          rw [Nat.max_eq_left h5] at h2
          rw [h1, h2] at pe
          exact e1 pe.symm
theorem orC_iff (g : Nat → Bool) : ∀ n, orC g n = true ↔ ∃ i, i < n ∧ g i = true
  | 0 => ⟨fun h => (by cases h), fun ⟨i, h, _⟩ => absurd h (Nat.not_lt_zero _)⟩
  | n + 1 => by
    show (orC g n || g n) = true ↔ _
    rw [Bool.or_eq_true, orC_iff g n]
    refine ⟨?_, ?_⟩
    · rintro (⟨i, h1, h2⟩ | h)
      · exact ⟨i, by omega, h2⟩
      · exact ⟨n, by omega, h⟩
    · rintro ⟨i, h1, h2⟩
      by_cases e : i = n
      · exact Or.inr (e ▸ h2)
      · exact Or.inl ⟨i, by omega, h2⟩

/-- A pair of places, o behind the diagonal at least. -/
def PR (n f : Nat) : Type := { p : Nat × Nat // p.1 + f ≤ p.2 ∧ p.2 < n }
/-- Has the pair come? -/
def cameP {n o : Nat} (pre : List (PR n o)) : Nat → Nat → Prop := fun a b => ∃ x ∈ pre, x.1 = (a, b)
noncomputable def pairsZ {n o : Nat} (A : Nat → Int) (f : Nat → Nat → Int) (pre : List (PR n o)) : Nat → Int := pairZ2 A f (cameP pre) n
def pairsC {n o : Nat} (G : Nat → Nat → Bool) (pre : List (PR n o)) : Bool := pre.any fun x => G x.1.1 x.1.2
theorem pairsZ_nil {n o : Nat} (A : Nat → Int) (f : Nat → Nat → Int) (p : Nat) : pairsZ A f ([] : List (PR n o)) p = A p := by
  unfold pairsZ pairZ2
  rw [if_neg]
  rintro ⟨x, hx, _⟩
  exact absurd hx List.not_mem_nil
theorem pairsZ_snoc {n o : Nat} (A : Nat → Int) (f : Nat → Nat → Int) (pre : List (PR n o)) (x : PR n o) (p : Nat) :
    (if p = x.1.2 * n + x.1.1 then f x.1.1 x.1.2 else if p = x.1.1 * n + x.1.2 then f x.1.1 x.1.2 else pairsZ A f pre p) = pairsZ A f (pre ++ [x]) p := by
  unfold pairsZ
  rw [pair_step A f (cameP pre) x.1.1 x.1.2 n p (by have := x.2; omega) x.2.2]
  refine pairZ2_congr A f _ _ n p ⟨?_, ?_⟩
  · rintro (⟨y, hy, e⟩ | ⟨h1, h2⟩)
    · exact ⟨y, List.mem_append_left _ hy, e⟩
    · exact ⟨x, List.mem_append_right _ (List.mem_singleton.2 rfl), Prod.ext h1.symm h2.symm⟩
  · rintro ⟨y, hy, e⟩
    rcases List.mem_append.1 hy with hy | hy
    · exact Or.inl ⟨y, hy, e⟩
    · rw [List.mem_singleton.1 hy] at e
      exact Or.inr ⟨(congrArg Prod.fst e).symm, (congrArg Prod.snd e).symm⟩
theorem pairsZ_all {n o : Nat} (A : Nat → Int) (f : Nat → Nat → Int) (ys : List (PR n o)) (h : ∀ x, x ∈ ys) (p : Nat) (hp : p < n * n) : pairsZ A f ys p = pairZ2 A f (fun a b => a + o ≤ b) n p := by
  have hb := place_lt p n n hp
  have hm : p % n < n := Nat.mod_lt _ (by omega)
  refine pairZ2_congr A f _ _ n p ⟨?_, fun hab => ?_⟩
  · rintro ⟨x, _, e⟩
    have h1 := x.2.1
    rw [e] at h1
    exact h1
  · exact ⟨⟨(min (p / n) (p % n), max (p / n) (p % n)), hab, by show max _ _ < n; omega⟩, h _, rfl⟩
theorem pairsC_nil {n o : Nat} (G : Nat → Nat → Bool) : pairsC G ([] : List (PR n o)) = false := rfl
theorem pairsC_snoc {n o : Nat} (G : Nat → Nat → Bool) (pre : List (PR n o)) (x : PR n o) : pairsC G (pre ++ [x]) = (pairsC G pre || G x.1.1 x.1.2) := by
  unfold pairsC
  rw [List.any_append]
  simp
theorem pairsC_all {n o : Nat} (G : Nat → Nat → Bool) (ys : List (PR n o)) (h : ∀ x, x ∈ ys) : pairsC G ys = orC (upC G o n) (n * n) := by
  rw [Bool.eq_iff_iff]
  unfold pairsC
  rw [List.any_eq_true, orC_iff]
  refine ⟨?_, ?_⟩
  · rintro ⟨x, _, hg⟩
    refine ⟨x.1.1 * n + x.1.2, place_in _ _ _ _ (by have := x.2; omega) x.2.2, ?_⟩
    unfold upC
    rw [place_div _ _ _ x.2.2, place_mod _ _ _ x.2.2, decide_eq_true x.2.1, hg]
    rfl
  · rintro ⟨p, hp, hg⟩
    unfold upC at hg
    rw [Bool.and_eq_true] at hg
    have hm : p % n < n := (place_lt p n n hp).2
    exact ⟨⟨(p / n, p % n), of_decide_eq_true hg.1, hm⟩, h _, hg.2⟩
theorem evenZ_of (A : Nat → Int) (n p : Nat) : pairZ2 A (evF A n) (fun a b => a + 1 ≤ b) n p = evenZ A n p := pairZ2_congr A _ _ _ n p Iff.rfl
theorem rankZ_of (A K : Nat → Int) (s : Int) (n p : Nat) : pairZ2 A (rkF A K s n) (fun a b => a + 0 ≤ b) n p = rankZ A K s n p := pairZ2_congr A _ _ _ n p Iff.rfl
/-- The diagonal. -/
def dgL (A : Nat → Int) (n : Nat) : Nat → Int := fun i => A (i * n + i)

end Go.Proofs.Wd

/- Package sym: square, refuse, at, pairs. -/
namespace Go.Proofs.YtgahdjfkmpadoaaGreat
open Go.RowKit Go.Shelf Go.Proofs.Wd
set_option linter.unusedVariables false
set_option linter.unusedSimpArgs false
set_option maxRecDepth 10000

/-- A matrix of n rows and columns. -/
def sqM (R C : Int) (len : Nat) (n : Int) : Prop := okM R C len ∧ R = n ∧ C = n
open Classical in
set_option maxHeartbeats 2000000 in
theorem symSquare (R1 C1 n : Int) (a1 : Option Addr) (l1 p1 : Nat) (w : World) : Calls Tryz.prog 46 #[.agg #[.int .i64 R1, .int .i64 C1, .slice a1 l1 p1], .int .i64 n] w fun e w' => e = .returned (.bool (decide (sqM R1 C1 l1 n))) ∧ Grown w w' := by
  have K1 := hide (fun w => matCheck R1 C1 a1 l1 p1 w)
  have G1 : Hid (Grown w (w.alloc (.cells #[.int .i64 R1, .int .i64 C1, .slice a1 l1 p1] 24)) ∧ Blk w.heap.size #[.int .i64 R1, .int .i64 C1, .slice a1 l1 p1] 24 (w.alloc (.cells #[.int .i64 R1, .int .i64 C1, .slice a1 l1 p1] 24))) := ⟨(Grown.refl _).alloc _ _, Blk.new w _ _⟩
  by_cases h1 : okM R1 C1 l1
  · rw [chk_ok h1] at K1
    by_cases h2 : R1 = n
    · by_cases h3 : C1 = n
      · rw [decide_eq_true (show sqM R1 C1 l1 n from ⟨h1, h2, h3⟩)]
        clear h1
        subst h2
        subst h3
        go_enter Tryz.func46, Tryz.ntmps46
        go_wp2_with fail
        generalize w.alloc (.cells #[.int .i64 C1, .int .i64 C1, .slice a1 l1 p1] 24) = w1 at *
        refine (unhide K1 _).mono ?_
        rintro e w2 ⟨rfl, g2⟩
        have y0 : w2.cell? ⟨w.heap.size, 0, none⟩ = some (.int .i64 C1) := Blk.cell (Blk.grown (unhide G1).2 g2) 0
        have y1 : w2.cell? ⟨w.heap.size, 1, none⟩ = some (.int .i64 C1) := Blk.cell (Blk.grown (unhide G1).2 g2) 1
        have GG := hide (gtrans (unhide G1).1 g2)
        clear G1 g2 K1
        go_wp2
        go_ret
        exact ⟨rfl, unhide GG⟩
      · rw [decide_eq_false (show ¬ sqM R1 C1 l1 n from fun h => h3 h.2.2)]
        have b3 : (C1 == n) = false := by simpa using h3
        clear h1
        subst h2
        clear h3
        go_enter Tryz.func46, Tryz.ntmps46
        go_wp2_with fail
        generalize w.alloc (.cells #[.int .i64 R1, .int .i64 C1, .slice a1 l1 p1] 24) = w1 at *
        refine (unhide K1 _).mono ?_
        rintro e w2 ⟨rfl, g2⟩
        have y0 : w2.cell? ⟨w.heap.size, 0, none⟩ = some (.int .i64 R1) := Blk.cell (Blk.grown (unhide G1).2 g2) 0
        have y1 : w2.cell? ⟨w.heap.size, 1, none⟩ = some (.int .i64 C1) := Blk.cell (Blk.grown (unhide G1).2 g2) 1
        have GG := hide (gtrans (unhide G1).1 g2)
        clear G1 g2 K1
        go_wp2
        go_ret
        exact ⟨rfl, unhide GG⟩
    · rw [decide_eq_false (show ¬ sqM R1 C1 l1 n from fun h => h2 h.2.1)]
      have b3 : (R1 == n) = false := by simpa using h2
      clear h1 h2
      go_enter Tryz.func46, Tryz.ntmps46
      go_wp2_with fail
      generalize w.alloc (.cells #[.int .i64 R1, .int .i64 C1, .slice a1 l1 p1] 24) = w1 at *
      refine (unhide K1 _).mono ?_
      rintro e w2 ⟨rfl, g2⟩
      have y0 : w2.cell? ⟨w.heap.size, 0, none⟩ = some (.int .i64 R1) := Blk.cell (Blk.grown (unhide G1).2 g2) 0
      have y1 : w2.cell? ⟨w.heap.size, 1, none⟩ = some (.int .i64 C1) := Blk.cell (Blk.grown (unhide G1).2 g2) 1
      have GG := hide (gtrans (unhide G1).1 g2)
      clear G1 g2 K1
      go_wp2
      go_ret
      exact ⟨rfl, unhide GG⟩
  · rw [chk_bad h1] at K1
    rw [decide_eq_false (show ¬ sqM R1 C1 l1 n from fun h => h1 h.1)]
    clear h1
    go_enter Tryz.func46, Tryz.ntmps46
    go_wp2_with fail
    generalize w.alloc (.cells #[.int .i64 R1, .int .i64 C1, .slice a1 l1 p1] 24) = w1 at *
    refine (unhide K1 _).mono ?_
    rintro e w2 ⟨rfl, g2⟩
    have y0 : w2.cell? ⟨w.heap.size, 0, none⟩ = some (.int .i64 R1) := Blk.cell (Blk.grown (unhide G1).2 g2) 0
    have y1 : w2.cell? ⟨w.heap.size, 1, none⟩ = some (.int .i64 C1) := Blk.cell (Blk.grown (unhide G1).2 g2) 1
    have GG := hide (gtrans (unhide G1).1 g2)
    clear G1 g2 K1
    go_wp2
    go_ret
    exact ⟨rfl, unhide GG⟩

open Classical in
/-- refuse, of a unit that New made. -/
noncomputable def refE (R C : Int) (len : Nat) (n : Int) : Int := if sqM R C len n then 0 else 3
open Classical in
set_option maxHeartbeats 2000000 in
theorem symRefuse (U : Nat) (c : Bool) (m : Int) (hm : 0 ≤ m ∧ m < 2305843009213693952) (R1 C1 n : Int) (a1 : Option Addr) (l1 p1 : Nat) (w : World) (h : UC U c m w) : Calls Tryz.prog 26 #[.pointer (some ⟨U, 0, none⟩), .agg #[.int .i64 R1, .int .i64 C1, .slice a1 l1 p1], .int .i64 n] w fun e w' => e = .returned (.int .i64 (refE R1 C1 l1 n)) ∧ UC U c m w' ∧ Mod U w w' := by
  have lU := Blk.lt h
  have K1 := hide (fun w => symSquare R1 C1 n a1 l1 p1 w)
  have G1 : Hid (Grown w (w.alloc (.cells #[.int .i64 R1, .int .i64 C1, .slice a1 l1 p1] 24)) ∧ Blk w.heap.size #[.int .i64 R1, .int .i64 C1, .slice a1 l1 p1] 24 (w.alloc (.cells #[.int .i64 R1, .int .i64 C1, .slice a1 l1 p1] 24)) ∧ w.heap.size ≠ U) := ⟨(Grown.refl _).alloc _ _, Blk.new w _ _, by omega⟩
  have D := hide (refuseDot U c m hm _ (Blk.grown h (unhide G1).1))
  have E1 : Hid (refE R1 C1 l1 n = if sqM R1 C1 l1 n then 0 else 3) := by unfold refE; congr
  generalize refE R1 C1 l1 n = err at *
  by_cases hs : sqM R1 C1 l1 n
  · rw [decide_eq_true hs] at K1
    rw [if_pos hs] at E1
    clear hs h lU
    go_enter Tryz.func26, Tryz.ntmps26
    go_wp2_with fail
    generalize w.alloc (.cells #[.int .i64 R1, .int .i64 C1, .slice a1 l1 p1] 24) = w1 at *
    refine (unhide D).mono ?_
    rintro e w2 ⟨rfl, u2, m2⟩
    have b2 := Blk.keep (unhide G1).2.1 m2 (unhide G1).2.2
    have y0 : w2.cell? ⟨w.heap.size, 0, none⟩ = some (.int .i64 R1) := Blk.cell b2 0
    have y1 : w2.cell? ⟨w.heap.size, 1, none⟩ = some (.int .i64 C1) := Blk.cell b2 1
    have y2 : w2.cell? ⟨w.heap.size, 2, none⟩ = some (.slice a1 l1 p1) := Blk.cell b2 2
    have GG := hide (And.intro u2 ((Mod.of (unhide G1).1).trans m2))
    clear G1 m2 u2 D b2
    go_wp2_with fail
    refine (unhide K1 _).mono ?_
    rintro e w3 ⟨rfl, g3⟩
    have G3 := hide g3
    clear g3 K1
    go_wp2
    go_ret
    exact ⟨by rw [unhide E1]; rfl, Blk.grown (unhide GG).1 (unhide G3), (unhide GG).2.trans (Mod.of (unhide G3))⟩
  · rw [decide_eq_false hs] at K1
    rw [if_neg hs] at E1
    clear hs h lU
    go_enter Tryz.func26, Tryz.ntmps26
    go_wp2_with fail
    generalize w.alloc (.cells #[.int .i64 R1, .int .i64 C1, .slice a1 l1 p1] 24) = w1 at *
    refine (unhide D).mono ?_
    rintro e w2 ⟨rfl, u2, m2⟩
    have b2 := Blk.keep (unhide G1).2.1 m2 (unhide G1).2.2
    have y0 : w2.cell? ⟨w.heap.size, 0, none⟩ = some (.int .i64 R1) := Blk.cell b2 0
    have y1 : w2.cell? ⟨w.heap.size, 1, none⟩ = some (.int .i64 C1) := Blk.cell b2 1
    have y2 : w2.cell? ⟨w.heap.size, 2, none⟩ = some (.slice a1 l1 p1) := Blk.cell b2 2
    have GG := hide (And.intro u2 ((Mod.of (unhide G1).1).trans m2))
    clear G1 m2 u2 D b2
    go_wp2_with fail
    refine (unhide K1 _).mono ?_
    rintro e w3 ⟨rfl, g3⟩
    have G3 := hide g3
    clear g3 K1
    go_wp2
    go_ret
    exact ⟨by rw [unhide E1]; rfl, Blk.grown (unhide GG).1 (unhide G3), (unhide GG).2.trans (Mod.of (unhide G3))⟩

set_option maxHeartbeats 2000000 in
theorem symRefuse_none (p : Option Addr) (R1 C1 n : Int) (a1 : Option Addr) (l1 p1 : Nat) (w : World) (h : NU p w) : Calls Tryz.prog 26 #[.pointer p, .agg #[.int .i64 R1, .int .i64 C1, .slice a1 l1 p1], .int .i64 n] w fun e w' => e = .returned (.int .i64 1) ∧ Grown w w' := by
  have G1 : Hid (Grown w (w.alloc (.cells #[.int .i64 R1, .int .i64 C1, .slice a1 l1 p1] 24))) := (Grown.refl _).alloc _ _
  have D := hide (noneDot p none none 0 0 0 0 _ (h.grown (unhide G1)))
  clear h
  go_enter Tryz.func26, Tryz.ntmps26
  go_wp2_with fail
  generalize w.alloc (.cells #[.int .i64 R1, .int .i64 C1, .slice a1 l1 p1] 24) = w1 at *
  refine (unhide D).mono ?_
  rintro e w2 ⟨rfl, rfl⟩
  clear D
  go_wp2
  go_ret
  exact ⟨rfl, unhide G1⟩

set_option maxHeartbeats 1000000 in
/-- The k-th of row i. -/
theorem symAt (r c i k b o cap : Nat) (Z : Nat → Int) (hr : 1 ≤ r ∧ r ≤ 12) (hc : 1 ≤ c ∧ c ≤ 12) (hi : i < r) (hk : k < c) (w : World) (hz : w.cell? ⟨b, o + (i * c + k), none⟩ = some (.int .i64 (Z (i * c + k)))) :
    Calls Tryz.prog 30 #[.agg #[.int .i64 r, .int .i64 c, .slice (some ⟨b, o, none⟩) (r * c) cap], .int .i64 i, .int .i64 k] w fun e w' =>
      e = .returned (.int .i64 (Z (i * c + k))) ∧ w' = w.alloc (.cells #[.int .i64 r, .int .i64 c, .slice (some ⟨b, o, none⟩) (r * c) cap] 24) := by
  have h1 := mul12n r c hr hc
  have h2 := place_in i k r c hi hk
  obtain ⟨p, hp⟩ : ∃ p, i * c = p := ⟨_, rfl⟩
  obtain ⟨len, hlen⟩ : ∃ len, r * c = len := ⟨_, rfl⟩
  rw [hlen] at h1 h2
  rw [hp] at h2 hz
  rw [hlen, hp]
  obtain ⟨q, hq⟩ : ∃ q, p + k = q := ⟨_, rfl⟩
  rw [hq] at hz h2
  rw [hq]
  have pb : p ≤ 1000000 := by omega
  have qb : q ≤ 1000000 := by omega
  have i0 : (0 : Int) ≤ (q : Int) := by omega
  have i1 : (q : Int) < (len : Int) := by omega
  clear h1 h2 hlen hr hc hi hk
  have w1 : wrap64 ((i : Int) * (c : Int)) = (p : Int) := wrapP i c p hp pb
  have w2 : wrap64 ((p : Int) + (k : Int)) = (q : Int) := wrapA p k q hq qb
  clear hp hq pb qb
  obtain ⟨z, hzz⟩ : ∃ z, Z q = z := ⟨_, rfl⟩
  rw [hzz] at hz
  rw [hzz]
  have hb := heap_gt hz
  have hb2 : b ≠ w.heap.size := Nat.ne_of_lt hb
  have hz2 : (w.alloc (.cells #[.int .i64 r, .int .i64 c, .slice (some ⟨b, o, none⟩) len cap] 24)).cell? ⟨b, o + q, none⟩ = some (.int .i64 z) := gat ((Grown.refl _).alloc _ _) hz
  clear hzz
  go_enter Tryz.func30, Tryz.ntmps30
  go_wp2
  go_ret
  exact ⟨rfl, rfl⟩


set_option maxHeartbeats 400000 in
theorem symPairs (n f : Int) (w : World) :
    Calls Tryz.prog 47 #[.int .i64 n, .int .i64 f] w fun e w' => e = .returned (.func (.func 70) #[] #[.pointer (some ⟨w.heap.size, 0, none⟩), .pointer (some ⟨w.heap.size + 1, 0, none⟩)]) ∧ w' = (w.alloc (.cells #[.int .i64 n] 3)).alloc (.cells #[.int .i64 f] 3) := by
  go_enter Tryz.func47, Tryz.ntmps47
  go_wp2
  go_ret
  exact ⟨rfl, rfl⟩

end Go.Proofs.YtgahdjfkmpadoaaGreat

/- Package sym: the iterator over pairs. -/
namespace Go.Proofs.YtgahdjfkmpadoaaGreat
open Go.RowKit Go.Shelf Go.Proofs.Wd
set_option linter.unusedVariables false
set_option linter.unusedSimpArgs false
set_option maxRecDepth 10000

def encP {n f : Nat} (x : PR n f) : Array Value := #[.int .i64 (x.1.1 : Int), .int .i64 (x.1.2 : Int)]
/-- A round keeps blocks B and B + 1. -/
def KpP (B : Nat) (W W' : World) : Prop := W'.heap[B]? = W.heap[B]? ∧ W'.heap[B + 1]? = W.heap[B + 1]?
/-- What has come: all of the rows ahead of i, and of row i all ahead of k. -/
def Come (n f i k : Nat) (pre : List (PR n f)) : Prop := (∀ x : PR n f, (x.1.1 < i ∨ (x.1.1 = i ∧ x.1.2 < k)) → x ∈ pre) ∧ pre.length ≤ i * n + k
theorem Come.none (n f : Nat) : Come n f 0 0 [] := ⟨fun x h => absurd h (by omega), by simp⟩
theorem Come.first {n f i : Nat} {pre : List (PR n f)} (h : Come n f i 0 pre) : Come n f i (i + f) pre :=
  ⟨fun x hx => h.1 x (by have := x.2; omega), Nat.le_trans h.2 (by omega)⟩
theorem Come.step {n f i k : Nat} {pre : List (PR n f)} (h : Come n f i k pre) (h1 : i + f ≤ k) (h2 : k < n) : Come n f i (k + 1) (pre ++ [⟨(i, k), h1, h2⟩]) := by
  refine ⟨fun x hx => ?_, by rw [List.length_append]; have := h.2; show pre.length + 1 ≤ _; omega⟩
  by_cases e : x = ⟨(i, k), h1, h2⟩
  · rw [e]; exact List.mem_append_right _ (List.mem_singleton.2 rfl)
  · refine List.mem_append_left _ (h.1 x ?_)
    rcases hx with hx | ⟨hx, hy⟩
    · exact Or.inl hx
    · refine Or.inr ⟨hx, ?_⟩
      rcases Nat.lt_or_ge x.1.2 k with h3 | h3
      · exact h3
      · exact absurd (Subtype.ext (Prod.ext hx (by show x.1.2 = k; omega))) e
theorem Come.row {n f i k : Nat} {pre : List (PR n f)} (h : Come n f i k pre) (hk : k = n ∨ (k = i + f ∧ n ≤ k ∧ pre.length ≤ i * n + n)) : Come n f (i + 1) 0 pre := by
  refine ⟨fun x hx => h.1 x (by have := x.2; omega), ?_⟩
  rw [Nat.add_mul, Nat.one_mul]
  have := h.2
  omega
theorem Come.all {n f : Nat} {pre : List (PR n f)} (h : Come n f n 0 pre) : ∀ x : PR n f, x ∈ pre := fun x => h.1 x (by have := x.2; omega)
theorem Come.lt {n f i k : Nat} {pre : List (PR n f)} (h : Come n f i k pre) (hi : i < n) (hk : k < n) : pre.length < n * n := Nat.lt_of_le_of_lt h.2 (place_in i k n n hi hk)

section
attribute [local go_sem] Oper.semAt_some

set_option maxRecDepth 100000 in
set_option maxHeartbeats 4000000 in
theorem pairs1_in (m l Bs B : Nat) (hm : 1 ≤ m) (n f : Nat) (hn : 1 ≤ n ∧ n ≤ 12) (hf : f ≤ 1) (J Jx : List (PR n f) → World → Prop)
    (hY : ∀ pre x W, J pre W → pre.length < n * n → YieldAt Fence.wide (m - 1) Tryz.prog l (encP x) W fun e W' => (e = .returned (.bool true) ∧ J (pre ++ [x]) W' ∧ KpP Bs W W') ∨ (e = .returned (.bool false) ∧ Jx (pre ++ [x]) W'))
    (W : World) (hB0 : Blk Bs #[.int .i64 n] 3 W) (hB1 : Blk (Bs + 1) #[.int .i64 f] 3 W) (h0 : J [] W) :
    CallsIn Fence.wide m Tryz.prog 70 #[.func (.yield l) #[] #[], .pointer (some ⟨Bs, 0, none⟩), .pointer (some ⟨Bs + 1, 0, none⟩)] W fun e W' => (∃ v, e = .returned v) ∧
      ((∃ ys : List (PR n f), (∀ x, x ∈ ys) ∧ J ys W') ∨ (∃ pre : List (PR n f), True ∧ Jx pre W')) := by
  refine callsIn_of_wp Tryz.func70 rfl trivial ?_ rfl
  simp only [Tryz.ntmps70, List.size_toArray, List.length_cons, List.length_nil, Nat.reduceAdd, Nat.reduceSub, Array.replicate_succ, Array.replicate_zero, List.push_toArray, List.append_toArray, List.nil_append, List.cons_append]
  have d0 : W.cell? ⟨Bs, 0, none⟩ = some (.int .i64 n) := Blk.cell hB0 0
  have HY := hide hY
  have H0 := hide (And.intro h0 (And.intro hB0 hB1))
  have HN := hide (And.intro hn hf)
  clear hY h0 hB0 hB1 hn hf
  gi_wp2
  gi_loopw [7] (fun i wr => ∃ k : Nat, k ≤ n ∧ i = .int .i64 k ∧ Hid ((∃ pre, Come n f k 0 pre ∧ J pre wr) ∧ Blk Bs #[.int .i64 n] 3 wr ∧ Blk (Bs + 1) #[.int .i64 f] 3 wr)) (fun i _ => n - (intOf i).toNat)
  case atStart => exact ⟨0, Nat.zero_le _, rfl, ⟨[], Come.none n f, (unhide H0).1⟩, (unhide H0).2⟩
  case round =>
    obtain ⟨i, hi, rfl, HI⟩ := hrel
    clear H0 d0
    have nb : n ≤ 12 := (unhide HN).1.2
    have fb : f ≤ 1 := (unhide HN).2
    by_cases hlt : i < n
    · have e1 : wr.cell? ⟨Bs + 1, 0, none⟩ = some (.int .i64 f) := Blk.cell (unhide HI).2.2 0
      have wa : wrap64 ((i : Int) + (f : Int)) = ((i + f : Nat) : Int) := wrapA i f _ rfl (by omega)
      gi_wp2
      gi_loopw [5] (fun j ws => ∃ k : Nat, i + f ≤ k ∧ (k ≤ n ∨ k = i + f) ∧ j = .int .i64 k ∧ Hid ((∃ pre, Come n f i k pre ∧ (k = i + f → pre.length ≤ i * n) ∧ J pre ws) ∧ Blk Bs #[.int .i64 n] 3 ws ∧ Blk (Bs + 1) #[.int .i64 f] 3 ws)) (fun j _ => n - (intOf j).toNat)
      case atStart =>
        obtain ⟨⟨pre, hp, hJ⟩, hb⟩ := unhide HI
        exact ⟨i + f, Nat.le_refl _, Or.inr rfl, rfl, ⟨pre, hp.first, fun _ => hp.2, hJ⟩, hb⟩
      case round =>
        obtain ⟨k, hk1, hk2, rfl, HK⟩ := hrel
        clear HI e1 wa
        have e0 : wr.cell? ⟨Bs, 0, none⟩ = some (.int .i64 n) := Blk.cell (unhide HK).2.1 0
        by_cases hkn : k < n
        · obtain ⟨⟨pre, hp, _, hJ⟩, b0, b1⟩ := unhide HK
          obtain ⟨fn, tmps, assign, body, hy, hR⟩ := unhide HY pre ⟨(i, k), hk1, hkn⟩ wr hJ (hp.lt hlt hkn)
          dsimp only [encP] at hy
          have HP := hide (And.intro hp (And.intro b0 b1))
          clear hp hJ b0 b1 HK
          gi_wp2
          refine hR.mono ?_
          rintro e W3 (⟨rfl, hJ3, hk3⟩ | ⟨rfl, hJx3⟩)
          · have R3 : Hid ((∃ pre, Come n f i (k + 1) pre ∧ (k + 1 = i + f → pre.length ≤ i * n) ∧ J pre W3) ∧ Blk Bs #[.int .i64 n] 3 W3 ∧ Blk (Bs + 1) #[.int .i64 f] 3 W3) :=
              ⟨⟨_, (unhide HP).1.step hk1 hkn, fun e => by omega, hJ3⟩, hk3.1.trans (unhide HP).2.1, hk3.2.trans (unhide HP).2.2⟩
            clear hJ3 hk3 hR hy HP e0
            gi_wp2
            go_roundw
            case rel => exact ⟨k + 1, by omega, by omega, by go_num, R3⟩
            case measure => simp [intOf]; omega
          · have R3 : Hid (Jx (pre ++ [⟨(i, k), hk1, hkn⟩]) W3) := hJx3
            clear hJx3 hR hy HP e0
            gi_wp2
            refine bodyPost_ret (results_none rfl _ _ _) rfl ?_
            exact ⟨⟨_, rfl⟩, .inr ⟨_, trivial, unhide R3⟩⟩
        · have R : Hid ((∃ pre, Come n f (i + 1) 0 pre ∧ J pre wr) ∧ Blk Bs #[.int .i64 n] 3 wr ∧ Blk (Bs + 1) #[.int .i64 f] 3 wr) := by
            obtain ⟨⟨pre, hp, hl, hJ⟩, hb⟩ := unhide HK
            refine ⟨⟨pre, hp.row ?_, hJ⟩, hb⟩
            rcases hk2 with h | h
            · exact Or.inl (by omega)
            · exact Or.inr ⟨h, by omega, by have := hl h; omega⟩
          clear HK
          gi_wp2
          go_roundw
          case rel => exact ⟨i + 1, by omega, by go_num, R⟩
          case measure => simp [intOf]; omega
    · obtain rfl : i = n := by omega
      have HF : Hid (∃ ys : List (PR i f), (∀ x, x ∈ ys) ∧ J ys wr) := by
        obtain ⟨⟨pre, hp, hJ⟩, hb⟩ := unhide HI
        exact ⟨pre, hp.all, hJ⟩
      clear HI
      gi_wp2
      go_end0
      exact ⟨⟨_, rfl⟩, .inl (unhide HF)⟩
end

theorem pairs_stops (m : Nat) (hm : 1 ≤ m) (Bs n f : Nat) (hn : 1 ≤ n ∧ n ≤ 12) (hf : f ≤ 1) (w : World) (hB0 : Blk Bs #[.int .i64 n] 3 w) (hB1 : Blk (Bs + 1) #[.int .i64 f] 3 w) :
    SeqStopsK Fence.wide m Tryz.prog 70 #[.pointer (some ⟨Bs, 0, none⟩), .pointer (some ⟨Bs + 1, 0, none⟩)] (encP (n := n) (f := f)) (KpP Bs) (fun ys => ∀ x, x ∈ ys) (fun _ => True) (n * n) w := fun l J Jx W hW hJ _ hY h0 =>
  pairs1_in m l Bs W.heap.size hm n f hn hf J Jx hY W ((hW.block Bs (Blk.lt hB0)).trans hB0) ((hW.block (Bs + 1) (Blk.lt hB1)).trans hB1) h0
theorem kpP_t {Bs : Nat} {A B C : World} (h : KpP Bs A B) (k : KpP Bs B C) : KpP Bs A C := ⟨k.1.trans h.1, k.2.trans h.2⟩
theorem kpP_b {Bs n : Nat} (hB : Bs + 1 < n) (W : World) (l : Nat) (o o' : Obj) (hl : n ≤ l) (_ : W.heap[l]? = some o) (_ : o.isCells = false) (_ : o.isWalk = false) : KpP Bs W (W.putObj l o') :=
  ⟨World.putObj_heap_other (by omega), World.putObj_heap_other (by omega)⟩

end Go.Proofs.YtgahdjfkmpadoaaGreat

/- Package sym: the func literals: set (of mirrored), Even's. -/
namespace Go.Proofs.YtgahdjfkmpadoaaGreat
open Go.RowKit Go.Shelf Go.Proofs.Wd
set_option linter.unusedVariables false
set_option linter.unusedSimpArgs false
set_option maxRecDepth 10000


set_option maxRecDepth 20000 in
set_option maxHeartbeats 4000000 in
theorem symSet (B L r c len cap i k p q : Nat) (x : Int) (Z : Nat → Int) (hc : c ≤ 12) (hi : i ≤ 12) (hk : k ≤ 12) (hp : i * c + k = p) (hq : k * c + i = q) (hpl : p < len) (hql : q < len) (hl : len ≤ 144) (w : World) (hb : Blk B #[.int .i64 r, .int .i64 c, .slice (some ⟨L, 0, none⟩) len cap] 24 w) (ho : Own L len Z w) (hne : L ≠ B) :
    Calls Tryz.prog 50 #[.int .i64 (i : Int), .int .i64 (k : Int), .int .i64 x, .pointer (some ⟨B, 0, none⟩)] w fun e w' => e = .returned (.tuple #[]) ∧ Own L len (fun j => if j = q then x else if j = p then x else Z j) w' ∧ Mod L w w' := by
  obtain ⟨mi, hmi⟩ : ∃ m, i * c = m := ⟨_, rfl⟩
  obtain ⟨mk, hmk⟩ : ∃ m, k * c = m := ⟨_, rfl⟩
  rw [hmi] at hp
  rw [hmk] at hq
  have y1 : w.cell? ⟨B, 1, none⟩ = some (.int .i64 c) := Blk.cell hb 1
  have y2 : w.cell? ⟨B, 2, none⟩ = some (.slice (some ⟨L, 0, none⟩) len cap) := Blk.cell hb 2
  have j0 : (0 : Int) ≤ (p : Int) := by omega
  have j1 : (p : Int) < (len : Int) := by omega
  have j2 : (0 : Int) ≤ (q : Int) := by omega
  have j3 : (q : Int) < (len : Int) := by omega
  have mi6 : mi ≤ 1000000 := by omega
  have mk6 : mk ≤ 1000000 := by omega
  have p6 : p ≤ 1000000 := by omega
  have q6 : q ≤ 1000000 := by omega
  have wa : IntKind.i64.wrap ((i : Int) * (c : Int)) = (mi : Int) := wrapPi i c mi hmi mi6
  have wb : IntKind.i64.wrap ((mi : Int) + (k : Int)) = (p : Int) := wrapAi mi k p hp p6
  have wc : IntKind.i64.wrap ((k : Int) * (c : Int)) = (mk : Int) := wrapPi k c mk hmk mk6
  have wd : IntKind.i64.wrap ((mk : Int) + (i : Int)) = (q : Int) := wrapAi mk i q hq q6
  have wa' : wrap64 ((i : Int) * (c : Int)) = (mi : Int) := wrapP i c mi hmi mi6
  have wb' : wrap64 ((mi : Int) + (k : Int)) = (p : Int) := wrapA mi k p hp p6
  have wc' : wrap64 ((k : Int) * (c : Int)) = (mk : Int) := wrapP k c mk hmk mk6
  have wd' : wrap64 ((mk : Int) + (i : Int)) = (q : Int) := wrapA mk i q hq q6
  have HO : Hid (Own L len Z w.drew ∧ Mod L w w.drew) := ⟨let ⟨cur, h1, h2⟩ := ho; ⟨cur, h1, h2⟩, mod_drew L w⟩
  obtain ⟨v1, f1⟩ : ∃ v, w.drew.cell? ⟨L, p, none⟩ = some (.int .i64 v) := ⟨_, (unhide HO).1.cellAt p hpl⟩
  have f2 : w.drew.frozen? ⟨L, p, none⟩ = false := (unhide HO).1.freeAt p
  have HO1 := hide ((unhide HO).1.set p x)
  obtain ⟨v2, f3⟩ : ∃ v, (w.drew.setCell ⟨L, p, none⟩ (.int .i64 x)).cell? ⟨L, q, none⟩ = some (.int .i64 v) := ⟨_, (unhide HO1).cellAt q hql⟩
  have f4 : (w.drew.setCell ⟨L, p, none⟩ (.int .i64 x)).frozen? ⟨L, q, none⟩ = false := (unhide HO1).freeAt q
  have HO2 := hide ((unhide HO1).set q x)
  have HM : Hid (Mod L w ((w.drew.setCell ⟨L, p, none⟩ (.int .i64 x)).setCell ⟨L, q, none⟩ (.int .i64 x))) := ((unhide HO).2.setCell _ _).setCell _ _
  have x1 : (w.drew.setCell ⟨L, p, none⟩ (.int .i64 x)).cell? ⟨B, 1, none⟩ = some (.int .i64 c) := Blk.cell (Blk.keep hb ((unhide HO).2.setCell _ _) (Ne.symm hne)) 1
  have x2 : (w.drew.setCell ⟨L, p, none⟩ (.int .i64 x)).cell? ⟨B, 2, none⟩ = some (.slice (some ⟨L, 0, none⟩) len cap) := Blk.cell (Blk.keep hb ((unhide HO).2.setCell _ _) (Ne.symm hne)) 2
  have y1d : w.drew.cell? ⟨B, 1, none⟩ = some (.int .i64 c) := y1
  have y2d : w.drew.cell? ⟨B, 2, none⟩ = some (.slice (some ⟨L, 0, none⟩) len cap) := y2
  clear hmi hmk hp hq hpl hql hl hb ho hc hi hk HO HO1 hne
  go_enter Tryz.func50, Tryz.ntmps50
  go_wp2
  refine region_G (fun w' => w'.cell? ⟨B, 1, none⟩ = some (.int .i64 c) ∧ w'.cell? ⟨B, 2, none⟩ = some (.slice (some ⟨L, 0, none⟩) len cap)) 21 (by kernel_rfl) ⟨y1d, y2d⟩ (fun hHeld => ?_)
  refine take_G (i := 0) (d := 7) (v := .pointer (some ⟨B, 2, none⟩)) rfl rfl (by kernel_rfl) (by kernel_rfl) (by kernel_rfl) (by kernel_rfl) (by kernel_rfl) (Or.inl ⟨by rfl, ?_⟩) hHeld ?_
  · intro wS hSw
    obtain ⟨z0, z1⟩ := hSw
    clear hHeld
    go_simp
  (try simp only [Act.put, List.setIfInBounds_toArray, List.set_cons_zero, List.set_cons_succ])
  refine take_G (i := 1) (d := 8) (v := .slice (some ⟨L, 0, none⟩) len cap) rfl rfl (by kernel_rfl) (by kernel_rfl) (by kernel_rfl) (by kernel_rfl) (by kernel_rfl) (Or.inl ⟨by rfl, ?_⟩) hHeld ?_
  · intro wS hSw
    obtain ⟨z0, z1⟩ := hSw
    clear hHeld
    go_simp
  (try simp only [Act.put, List.setIfInBounds_toArray, List.set_cons_zero, List.set_cons_succ])
  refine take_G (i := 2) (d := 9) (v := .int .i64 (i : Int)) rfl rfl (by kernel_rfl) (by kernel_rfl) (by kernel_rfl) (by kernel_rfl) (by kernel_rfl) (Or.inl ⟨by rfl, ?_⟩) hHeld ?_
  · intro wS hSw
    obtain ⟨z0, z1⟩ := hSw
    clear hHeld
    go_simp
  (try simp only [Act.put, List.setIfInBounds_toArray, List.set_cons_zero, List.set_cons_succ])
  refine take_G (i := 3) (d := 10) (v := .pointer (some ⟨B, 1, none⟩)) rfl rfl (by kernel_rfl) (by kernel_rfl) (by kernel_rfl) (by kernel_rfl) (by kernel_rfl) (Or.inl ⟨by rfl, ?_⟩) hHeld ?_
  · intro wS hSw
    obtain ⟨z0, z1⟩ := hSw
    clear hHeld
    go_simp
  (try simp only [Act.put, List.setIfInBounds_toArray, List.set_cons_zero, List.set_cons_succ])
  refine take_G (i := 4) (d := 11) (v := .int .i64 (c : Int)) rfl rfl (by kernel_rfl) (by kernel_rfl) (by kernel_rfl) (by kernel_rfl) (by kernel_rfl) (Or.inl ⟨by rfl, ?_⟩) hHeld ?_
  · intro wS hSw
    obtain ⟨z0, z1⟩ := hSw
    clear hHeld
    go_simp
  (try simp only [Act.put, List.setIfInBounds_toArray, List.set_cons_zero, List.set_cons_succ])
  refine take_G (i := 5) (d := 12) (v := .int .i64 (mi : Int)) rfl rfl (by kernel_rfl) (by kernel_rfl) (by kernel_rfl) (by kernel_rfl) (by kernel_rfl) (Or.inl ⟨by rfl, ?_⟩) hHeld ?_
  · intro wS hSw
    obtain ⟨z0, z1⟩ := hSw
    clear hHeld
    go_simp
  (try simp only [Act.put, List.setIfInBounds_toArray, List.set_cons_zero, List.set_cons_succ])
  refine take_G (i := 6) (d := 13) (v := .int .i64 (k : Int)) rfl rfl (by kernel_rfl) (by kernel_rfl) (by kernel_rfl) (by kernel_rfl) (by kernel_rfl) (Or.inl ⟨by rfl, ?_⟩) hHeld ?_
  · intro wS hSw
    obtain ⟨z0, z1⟩ := hSw
    clear hHeld
    go_simp
  (try simp only [Act.put, List.setIfInBounds_toArray, List.set_cons_zero, List.set_cons_succ])
  refine take_G (i := 7) (d := 14) (v := .int .i64 (p : Int)) rfl rfl (by kernel_rfl) (by kernel_rfl) (by kernel_rfl) (by kernel_rfl) (by kernel_rfl) (Or.inl ⟨by rfl, ?_⟩) hHeld ?_
  · intro wS hSw
    obtain ⟨z0, z1⟩ := hSw
    clear hHeld
    go_simp
  (try simp only [Act.put, List.setIfInBounds_toArray, List.set_cons_zero, List.set_cons_succ])
  refine take_G (i := 8) (d := 15) (v := .pointer (some ⟨B, 2, none⟩)) rfl rfl (by kernel_rfl) (by kernel_rfl) (by kernel_rfl) (by kernel_rfl) (by kernel_rfl) (Or.inl ⟨by rfl, ?_⟩) hHeld ?_
  · intro wS hSw
    obtain ⟨z0, z1⟩ := hSw
    clear hHeld
    go_simp
  (try simp only [Act.put, List.setIfInBounds_toArray, List.set_cons_zero, List.set_cons_succ])
  refine take_G (i := 9) (d := 16) (v := .slice (some ⟨L, 0, none⟩) len cap) rfl rfl (by kernel_rfl) (by kernel_rfl) (by kernel_rfl) (by kernel_rfl) (by kernel_rfl) (Or.inl ⟨by rfl, ?_⟩) hHeld ?_
  · intro wS hSw
    obtain ⟨z0, z1⟩ := hSw
    clear hHeld
    go_simp
  (try simp only [Act.put, List.setIfInBounds_toArray, List.set_cons_zero, List.set_cons_succ])
  refine take_G (i := 10) (d := 17) (v := .int .i64 (k : Int)) rfl rfl (by kernel_rfl) (by kernel_rfl) (by kernel_rfl) (by kernel_rfl) (by kernel_rfl) (Or.inl ⟨by rfl, ?_⟩) hHeld ?_
  · intro wS hSw
    obtain ⟨z0, z1⟩ := hSw
    clear hHeld
    go_simp
  (try simp only [Act.put, List.setIfInBounds_toArray, List.set_cons_zero, List.set_cons_succ])
  refine take_G (i := 11) (d := 18) (v := .pointer (some ⟨B, 1, none⟩)) rfl rfl (by kernel_rfl) (by kernel_rfl) (by kernel_rfl) (by kernel_rfl) (by kernel_rfl) (Or.inl ⟨by rfl, ?_⟩) hHeld ?_
  · intro wS hSw
    obtain ⟨z0, z1⟩ := hSw
    clear hHeld
    go_simp
  (try simp only [Act.put, List.setIfInBounds_toArray, List.set_cons_zero, List.set_cons_succ])
  refine take_G (i := 12) (d := 19) (v := .int .i64 (c : Int)) rfl rfl (by kernel_rfl) (by kernel_rfl) (by kernel_rfl) (by kernel_rfl) (by kernel_rfl) (Or.inl ⟨by rfl, ?_⟩) hHeld ?_
  · intro wS hSw
    obtain ⟨z0, z1⟩ := hSw
    clear hHeld
    go_simp
  (try simp only [Act.put, List.setIfInBounds_toArray, List.set_cons_zero, List.set_cons_succ])
  refine take_G (i := 13) (d := 20) (v := .int .i64 (mk : Int)) rfl rfl (by kernel_rfl) (by kernel_rfl) (by kernel_rfl) (by kernel_rfl) (by kernel_rfl) (Or.inl ⟨by rfl, ?_⟩) hHeld ?_
  · intro wS hSw
    obtain ⟨z0, z1⟩ := hSw
    clear hHeld
    go_simp
  (try simp only [Act.put, List.setIfInBounds_toArray, List.set_cons_zero, List.set_cons_succ])
  refine take_G (i := 14) (d := 21) (v := .int .i64 (i : Int)) rfl rfl (by kernel_rfl) (by kernel_rfl) (by kernel_rfl) (by kernel_rfl) (by kernel_rfl) (Or.inl ⟨by rfl, ?_⟩) hHeld ?_
  · intro wS hSw
    obtain ⟨z0, z1⟩ := hSw
    clear hHeld
    go_simp
  (try simp only [Act.put, List.setIfInBounds_toArray, List.set_cons_zero, List.set_cons_succ])
  refine take_G (i := 15) (d := 22) (v := .int .i64 (q : Int)) rfl rfl (by kernel_rfl) (by kernel_rfl) (by kernel_rfl) (by kernel_rfl) (by kernel_rfl) (Or.inl ⟨by rfl, ?_⟩) hHeld ?_
  · intro wS hSw
    obtain ⟨z0, z1⟩ := hSw
    clear hHeld
    go_simp
  (try simp only [Act.put, List.setIfInBounds_toArray, List.set_cons_zero, List.set_cons_succ])
  refine take_G (i := 16) (d := 23) (v := .int .i64 x) rfl rfl (by kernel_rfl) (by kernel_rfl) (by kernel_rfl) (by kernel_rfl) (by kernel_rfl) (Or.inl ⟨by rfl, ?_⟩) hHeld ?_
  · intro wS hSw
    obtain ⟨z0, z1⟩ := hSw
    clear hHeld
    go_simp
  (try simp only [Act.put, List.setIfInBounds_toArray, List.set_cons_zero, List.set_cons_succ])
  refine take_G (i := 17) (d := 24) (v := .int .i64 x) rfl rfl (by kernel_rfl) (by kernel_rfl) (by kernel_rfl) (by kernel_rfl) (by kernel_rfl) (Or.inl ⟨by rfl, ?_⟩) hHeld ?_
  · intro wS hSw
    obtain ⟨z0, z1⟩ := hSw
    clear hHeld
    go_simp
  (try simp only [Act.put, List.setIfInBounds_toArray, List.set_cons_zero, List.set_cons_succ])
  refine take_G (i := 18) (d := 25) (v := .pointer (some ⟨L, p, none⟩)) rfl rfl (by kernel_rfl) (by kernel_rfl) (by kernel_rfl) (by kernel_rfl) (by kernel_rfl) (Or.inl ⟨by rfl, ?_⟩) hHeld ?_
  · intro wS hSw
    obtain ⟨z0, z1⟩ := hSw
    clear hHeld
    go_simp
  (try simp only [Act.put, List.setIfInBounds_toArray, List.set_cons_zero, List.set_cons_succ])
  generalize w.drew = wx at *
  refine step_G (i := 19) (by kernel_rfl) (fun K hK => ?_)
  refine wpOp_of rfl rfl ?_
  unfold Oper.wp
  go_simp
  refine hK _ _ (fun _ => ⟨x1, x2⟩) ?_
  clear hK K
  (try simp only [Act.put, List.setIfInBounds_toArray, List.set_cons_zero, List.set_cons_succ])
  have hHeld := And.intro x1 x2
  refine take_G (i := 20) (d := 26) (v := .pointer (some ⟨L, q, none⟩)) rfl rfl (by kernel_rfl) (by kernel_rfl) (by kernel_rfl) (by kernel_rfl) (by kernel_rfl) (Or.inl ⟨by rfl, ?_⟩) hHeld ?_
  · intro wS hSw
    obtain ⟨z0, z1⟩ := hSw
    clear hHeld
    go_simp
  (try simp only [Act.put, List.setIfInBounds_toArray, List.set_cons_zero, List.set_cons_succ])
  generalize hwy : wx.setCell ⟨L, p, none⟩ (.int .i64 x) = wy at *
  refine step_G (i := 21) (by kernel_rfl) (fun K hK => ?_)
  refine wpOp_of rfl rfl ?_
  unfold Oper.wp
  go_simp
  refine hK _ _ (fun h => absurd rfl h) ?_
  clear hK K
  (try simp only [Act.put, List.setIfInBounds_toArray, List.set_cons_zero, List.set_cons_succ])
  refine done_G (by kernel_rfl) ?_
  refine noPanic_normalE ?_
  exact bodyPost_end (v := .tuple #[]) (by simp [results, Tryz.results50, go_sem]) rfl ⟨rfl, unhide HO2, unhide HM⟩


set_option maxRecDepth 20000 in
set_option maxHeartbeats 4000000 in
theorem symEven1 (U Bu Bm n len cap b o i k : Nat) (cc : Bool) (nn : Int) (hnn : 0 ≤ nn ∧ nn < 2305843009213693952) (A : Nat → Int) (hn : 1 ≤ n ∧ n ≤ 12) (hl : len = n * n) (hi : i < n) (hk : k < n) (hA : ∀ j, j < len → I64 (A j)) (w : World) (hu : UC U cc nn w) (hbu : Blk Bu #[.pointer (some ⟨U, 0, none⟩)] 25 w) (hbm : Blk Bm #[.int .i64 n, .int .i64 n, .slice (some ⟨b, o, none⟩) len cap] 24 w) (za : ∀ j, j < len → w.cell? ⟨b, o + j, none⟩ = some (.int .i64 (A j))) (n1 : Bu ≠ U) (n2 : Bm ≠ U) :
    Calls Tryz.prog 28 #[.int .i64 (i : Int), .int .i64 (k : Int), .pointer (some ⟨Bu, 0, none⟩), .pointer (some ⟨Bm, 0, none⟩)] w fun e w' => e = .returned (.int .i64 (evF A n i k)) ∧ UC U (cc || evC A n i k) (nn + 1) w' ∧ Mk U w w' := by
  subst hl
  have p1 := place_in i k n n hi hk
  have p2 := place_in k i n n hk hi
  have y0 : w.drew.cell? ⟨Bu, 0, none⟩ = some (.pointer (some ⟨U, 0, none⟩)) := Blk.cell hbu 0
  have y1 : w.drew.cell? ⟨Bm, 0, none⟩ = some (.int .i64 n) := Blk.cell hbm 0
  have y2 : w.drew.cell? ⟨Bm, 1, none⟩ = some (.int .i64 n) := Blk.cell hbm 1
  have y3 : w.drew.cell? ⟨Bm, 2, none⟩ = some (.slice (some ⟨b, o, none⟩) (n * n) cap) := Blk.cell hbm 2
  have A1 := hide (symAt n n i k b o cap A hn hn hi hk w.drew (za _ p1))
  have G1 : Grown w.drew (w.drew.alloc (.cells #[.int .i64 n, .int .i64 n, .slice (some ⟨b, o, none⟩) (n * n) cap] 24)) := (Grown.refl _).alloc _ _
  have A2 := hide (symAt n n k i b o cap A hn hn hk hi (w.drew.alloc (.cells #[.int .i64 n, .int .i64 n, .slice (some ⟨b, o, none⟩) (n * n) cap] 24)) (gat G1 (za _ p2)))
  have G2 : Grown w.drew ((w.drew.alloc (.cells #[.int .i64 n, .int .i64 n, .slice (some ⟨b, o, none⟩) (n * n) cap] 24)).alloc (.cells #[.int .i64 n, .int .i64 n, .slice (some ⟨b, o, none⟩) (n * n) cap] 24)) := G1.alloc _ _
  have HF := hide (unitHalf U cc nn _ _ (hA _ p1) (hA _ p2) hnn ((w.drew.alloc (.cells #[.int .i64 n, .int .i64 n, .slice (some ⟨b, o, none⟩) (n * n) cap] 24)).alloc (.cells #[.int .i64 n, .int .i64 n, .slice (some ⟨b, o, none⟩) (n * n) cap] 24)) (Blk.grown (show UC U cc nn w.drew from hu) G2))
  have EF : Hid (evF A n i k = halfN (A (i * n + k)) (A (k * n + i)) ∧ evC A n i k = halfC (A (i * n + k)) (A (k * n + i))) := ⟨rfl, rfl⟩
  have KW : Hid (Mk U w ((w.drew.alloc (.cells #[.int .i64 n, .int .i64 n, .slice (some ⟨b, o, none⟩) (n * n) cap] 24)).alloc (.cells #[.int .i64 n, .int .i64 n, .slice (some ⟨b, o, none⟩) (n * n) cap] 24))) := Mk.of ((mod_drew U w).trans (Mod.of G2))
  have z0 := gat G1 y0
  have z1 := gat G1 y1
  have z2 := gat G1 y2
  have z3 := gat G1 y3
  have s0 := gat G2 y0
  have s1 := gat G2 y1
  have s2 := gat G2 y2
  have s3 := gat G2 y3
  generalize evF A n i k = zr at *
  generalize evC A n i k = gr at *
  generalize A (i * n + k) = x at *
  generalize A (k * n + i) = y at *
  obtain ⟨len, hlen⟩ : ∃ len, n * n = len := ⟨_, rfl⟩
  rw [hlen] at y3 A1 A2 HF KW z0 z1 z2 z3 s0 s1 s2 s3
  clear hlen hbu hbm za hA hu p1 p2 G1 G2 hn hi hk
  go_enter Tryz.func28, Tryz.ntmps28
  go_wp2
  refine region_G (fun w' => w'.cell? ⟨Bu, 0, none⟩ = some (.pointer (some ⟨U, 0, none⟩)) ∧ w'.cell? ⟨Bm, 0, none⟩ = some (.int .i64 n) ∧ w'.cell? ⟨Bm, 1, none⟩ = some (.int .i64 n) ∧ w'.cell? ⟨Bm, 2, none⟩ = some (.slice (some ⟨b, o, none⟩) len cap)) 10 (by kernel_rfl) ⟨y0, y1, y2, y3⟩ (fun hHeld => ?_)
  refine take_G (i := 0) (d := 7) (v := .pointer (some ⟨U, 0, none⟩)) rfl rfl (by kernel_rfl) (by kernel_rfl) (by kernel_rfl) (by kernel_rfl) (by kernel_rfl) (Or.inl ⟨by rfl, ?_⟩) hHeld ?_
  · intro wS hSw
    obtain ⟨z0, z1, z2, z3⟩ := hSw
    clear hHeld
    go_simp
  (try simp only [Act.put, List.setIfInBounds_toArray, List.set_cons_zero, List.set_cons_succ])
  refine take_G (i := 1) (d := 8) (v := .agg #[.int .i64 n, .int .i64 n, .slice (some ⟨b, o, none⟩) len cap]) rfl rfl (by kernel_rfl) (by kernel_rfl) (by kernel_rfl) (by kernel_rfl) (by kernel_rfl) (Or.inl ⟨by rfl, ?_⟩) hHeld ?_
  · intro wS hSw
    obtain ⟨z0, z1, z2, z3⟩ := hSw
    clear hHeld
    go_simp
  (try simp only [Act.put, List.setIfInBounds_toArray, List.set_cons_zero, List.set_cons_succ])
  refine take_G (i := 2) (d := 9) (v := .int .i64 (i : Int)) rfl rfl (by kernel_rfl) (by kernel_rfl) (by kernel_rfl) (by kernel_rfl) (by kernel_rfl) (Or.inl ⟨by rfl, ?_⟩) hHeld ?_
  · intro wS hSw
    obtain ⟨z0, z1, z2, z3⟩ := hSw
    clear hHeld
    go_simp
  (try simp only [Act.put, List.setIfInBounds_toArray, List.set_cons_zero, List.set_cons_succ])
  refine take_G (i := 3) (d := 10) (v := .int .i64 (k : Int)) rfl rfl (by kernel_rfl) (by kernel_rfl) (by kernel_rfl) (by kernel_rfl) (by kernel_rfl) (Or.inl ⟨by rfl, ?_⟩) hHeld ?_
  · intro wS hSw
    obtain ⟨z0, z1, z2, z3⟩ := hSw
    clear hHeld
    go_simp
  (try simp only [Act.put, List.setIfInBounds_toArray, List.set_cons_zero, List.set_cons_succ])
  refine take_G (i := 5) (d := 12) (v := .agg #[.int .i64 n, .int .i64 n, .slice (some ⟨b, o, none⟩) len cap]) rfl rfl (by kernel_rfl) (by kernel_rfl) (by kernel_rfl) (by kernel_rfl) (by kernel_rfl) (Or.inl ⟨by rfl, ?_⟩) hHeld ?_
  · intro wS hSw
    obtain ⟨z0, z1, z2, z3⟩ := hSw
    clear hHeld
    go_simp
  (try simp only [Act.put, List.setIfInBounds_toArray, List.set_cons_zero, List.set_cons_succ])
  refine take_G (i := 6) (d := 13) (v := .int .i64 (k : Int)) rfl rfl (by kernel_rfl) (by kernel_rfl) (by kernel_rfl) (by kernel_rfl) (by kernel_rfl) (Or.inl ⟨by rfl, ?_⟩) hHeld ?_
  · intro wS hSw
    obtain ⟨z0, z1, z2, z3⟩ := hSw
    clear hHeld
    go_simp
  (try simp only [Act.put, List.setIfInBounds_toArray, List.set_cons_zero, List.set_cons_succ])
  refine take_G (i := 7) (d := 14) (v := .int .i64 (i : Int)) rfl rfl (by kernel_rfl) (by kernel_rfl) (by kernel_rfl) (by kernel_rfl) (by kernel_rfl) (Or.inl ⟨by rfl, ?_⟩) hHeld ?_
  · intro wS hSw
    obtain ⟨z0, z1, z2, z3⟩ := hSw
    clear hHeld
    go_simp
  (try simp only [Act.put, List.setIfInBounds_toArray, List.set_cons_zero, List.set_cons_succ])
  generalize hwd : w.drew = wd at *
  generalize hwa : wd.alloc (.cells #[.int .i64 n, .int .i64 n, .slice (some ⟨b, o, none⟩) len cap] 24) = wa at *
  generalize hwb : wa.alloc (.cells #[.int .i64 n, .int .i64 n, .slice (some ⟨b, o, none⟩) len cap] 24) = wb at *
  refine step_G (i := 4) (by kernel_rfl) (fun K hK => ?_)
  refine wpOp_of rfl rfl ?_
  unfold Oper.wp
  go_simp
  refine (unhide A1).mono ?_
  rintro e w1 ⟨rfl, rfl⟩
  refine hK _ _ (fun _ => ⟨z0, z1, z2, z3⟩) ?_
  clear hK K
  (try simp only [Act.put, List.setIfInBounds_toArray, List.set_cons_zero, List.set_cons_succ])
  refine step_G (i := 8) (by kernel_rfl) (fun K hK => ?_)
  refine wpOp_of rfl rfl ?_
  unfold Oper.wp
  go_simp
  refine (unhide A2).mono ?_
  rintro e w2 ⟨rfl, rfl⟩
  refine hK _ _ (fun _ => ⟨s0, s1, s2, s3⟩) ?_
  clear hK K
  (try simp only [Act.put, List.setIfInBounds_toArray, List.set_cons_zero, List.set_cons_succ])
  refine step_G (i := 9) (by kernel_rfl) (fun K hK => ?_)
  refine wpOp_of rfl rfl ?_
  unfold Oper.wp
  go_simp
  refine (unhide HF).mono ?_
  rintro e w3 ⟨rfl, u3, m3⟩
  have t0 := m3.cell s0 n1
  have t1 := m3.cell s1 n2
  have t2 := m3.cell s2 n2
  have t3 := m3.cell s3 n2
  have R : Hid (UC U (cc || gr) (nn + 1) w3 ∧ Mk U w w3) := ⟨by rw [(unhide EF).2]; exact u3, (unhide KW).trans (Mk.of m3)⟩
  refine hK _ _ (fun _ => ⟨t0, t1, t2, t3⟩) ?_
  clear hK K u3 m3
  (try simp only [Act.put, List.setIfInBounds_toArray, List.set_cons_zero, List.set_cons_succ])
  refine step_G (i := 10) (by kernel_rfl) (fun K hK => ?_)
  refine wpOp_of rfl rfl ?_
  unfold Oper.wp
  go_simp
  refine hK _ _ (fun h => absurd rfl h) ?_
  clear hK K
  (try simp only [Act.put, List.setIfInBounds_toArray, List.set_cons_zero, List.set_cons_succ])
  refine done_G (by kernel_rfl) ?_
  refine noPanic_normalE ?_
  go_wp2
  go_ret
  exact ⟨by rw [(unhide EF).1]; rfl, unhide R⟩


end Go.Proofs.YtgahdjfkmpadoaaGreat

/- Package sym: Rank's func literal. -/
namespace Go.Proofs.YtgahdjfkmpadoaaGreat
open Go.RowKit Go.Shelf Go.Proofs.Wd
set_option linter.unusedVariables false
set_option linter.unusedSimpArgs false
set_option maxRecDepth 10000

section
variable {P : Program} {ops : Array Oper} {Q : Exit → Act → World → Prop} {md : Region.Mode} {S : World → Prop} {g : Nat}
/-- Two operations can come up, in either order: a call whose answer is known, and new memory. -/
theorem two_G {i j di dj fuel : Nat} {listed : Array Bool} {a : Act} {w : World} (vi : Value) (vj : Nat → Value) (R : Nat → World → Prop) (hd : di ≠ dj) (hr : Region.ready md ops listed = [i, j]) (hri : Region.ready md ops (listed.setIfInBounds i true) = [j]) (hrj : Region.ready md ops (listed.setIfInBounds j true) = [i]) (hij : i ≠ j)
    (hS : ∀ B w', R B w' → S w')
    (h1 : ∀ K : Act → World → Prop, (∀ B w', R B w' → K ((a.put (some di) vi).put (some dj) (vj B)) w') → wpOp P ops (NoPanic Q) i (fun a1 w1 => S w1 ∧ wpOp P ops (NoPanic Q) j K a1 w1) a w)
    (h2 : ∀ K : Act → World → Prop, (∀ B w', R B w' → K ((a.put (some dj) (vj B)).put (some di) vi) w') → wpOp P ops (NoPanic Q) j (fun a1 w1 => S w1 ∧ wpOp P ops (NoPanic Q) i K a1 w1) a w)
    (rest : ∀ B w', R B w' → wpAnyG P md ops (NoPanic Q) S g fuel ((listed.setIfInBounds i true).setIfInBounds j true) ((a.put (some di) vi).put (some dj) (vj B)) w') :
    wpAnyG P md ops (NoPanic Q) S g (fuel + 2) listed a w := by
  refine ⟨fun h0 => by (rw [hr] at h0; cases h0), fun q hq => ?_⟩
  rw [hr] at hq
  simp only [List.mem_cons, List.not_mem_nil, or_false] at hq
  rcases hq with rfl | rfl
  · refine wpOp_mono (fun a1 w1 h => ?_) (h1 (fun a' w' => (j ≠ g → S w') ∧ wpAnyG P md ops (NoPanic Q) S g fuel ((listed.setIfInBounds q true).setIfInBounds j true) a' w') (fun B w' hR => ⟨fun _ => hS B w' hR, rest B w' hR⟩))
    exact ⟨fun _ => h.1, one_G hri h.2⟩
  · refine wpOp_mono (fun a1 w1 h => ?_) (h2 (fun a' w' => (i ≠ g → S w') ∧ wpAnyG P md ops (NoPanic Q) S g fuel ((listed.setIfInBounds q true).setIfInBounds i true) a' w') (fun B w' hR => ⟨fun _ => hS B w' hR, ?_⟩))
    · exact ⟨fun _ => h.1, one_G hrj h.2⟩
    · have e := rest B w' hR
      rw [Array.setIfInBounds_comm _ _ hij] at e
      have ep : ((a.put (some dj) (vj B)).put (some di) vi) = ((a.put (some di) vi).put (some dj) (vj B)) := by
        simp only [Act.put]
        rw [Array.setIfInBounds_comm _ _ hd]
      rw [ep]
      exact e
end


set_option maxRecDepth 20000 in
set_option maxHeartbeats 8000000 in
theorem symRank1 (U Bu Bm Bs Bk n len cap b o kb ko kc i k : Nat) (cc : Bool) (nn s : Int) (hs : I64 s) (hnn : 0 ≤ nn ∧ nn < 1152921504606876976) (A K0 : Nat → Int) (hn : 1 ≤ n ∧ n ≤ 12) (hl : len = n * n) (hi : i < n) (hk : k < n) (hA : ∀ j, j < len → I64 (A j)) (hK0 : ∀ j, j < n → I64 (K0 j)) (w : World) (hu : UC U cc nn w) (hbu : Blk Bu #[.pointer (some ⟨U, 0, none⟩)] 25 w) (hbm : Blk Bm #[.int .i64 n, .int .i64 n, .slice (some ⟨b, o, none⟩) len cap] 24 w) (hbs : Blk Bs #[.int .i64 s] 3 w) (hbk : Blk Bk #[.slice (some ⟨kb, ko, none⟩) n kc] 22 w) (za : ∀ j, j < len → w.cell? ⟨b, o + j, none⟩ = some (.int .i64 (A j))) (zk : ∀ j, j < n → w.cell? ⟨kb, ko + j, none⟩ = some (.int .i64 (K0 j))) (n1 : Bu ≠ U) (n2 : Bm ≠ U) (n3 : Bs ≠ U) (n4 : Bk ≠ U) (n5 : b ≠ U) (n6 : kb ≠ U) :
    Calls Tryz.prog 41 #[.int .i64 (i : Int), .int .i64 (k : Int), .pointer (some ⟨Bu, 0, none⟩), .pointer (some ⟨Bm, 0, none⟩), .pointer (some ⟨Bs, 0, none⟩), .pointer (some ⟨Bk, 0, none⟩)] w fun e w' => e = .returned (.int .i64 (rkF A K0 s n i k)) ∧ UC U (cc || rkC A K0 s n i k) (nn + 6) w' ∧ Mk U w w' := by
  subst hl
  have p1 := place_in i k n n hi hk
  have EF : Hid (rkF A K0 s n i k = s2N (A (i * n + k)) (m2N s (m2N (K0 i) (K0 k))) ∧ rkC A K0 s n i k = (m2C (K0 i) (K0 k) || m2C s (m2N (K0 i) (K0 k)) || s2C (A (i * n + k)) (m2N s (m2N (K0 i) (K0 k))))) := ⟨rfl, rfl⟩
  generalize rkF A K0 s n i k = zr at *
  generalize rkC A K0 s n i k = gr at *
  have AT : Hid (∀ wx, Mod U w wx → Calls Tryz.prog 30 #[.agg #[.int .i64 n, .int .i64 n, .slice (some ⟨b, o, none⟩) (n * n) cap], .int .i64 i, .int .i64 k] wx fun e w' => e = .returned (.int .i64 (A (i * n + k))) ∧ w' = wx.alloc (.cells #[.int .i64 n, .int .i64 n, .slice (some ⟨b, o, none⟩) (n * n) cap] 24)) := fun wx mu => symAt n n i k b o cap A hn hn hi hk wx (mu.cell (za _ p1) n5)
  have CW : Hid (∀ wx, Mod U w wx → wx.cell? ⟨Bu, 0, none⟩ = some (.pointer (some ⟨U, 0, none⟩)) ∧ wx.cell? ⟨Bm, 0, none⟩ = some (.int .i64 n) ∧ wx.cell? ⟨Bm, 1, none⟩ = some (.int .i64 n) ∧ wx.cell? ⟨Bm, 2, none⟩ = some (.slice (some ⟨b, o, none⟩) (n * n) cap) ∧ wx.cell? ⟨Bs, 0, none⟩ = some (.int .i64 s) ∧ wx.cell? ⟨Bk, 0, none⟩ = some (.slice (some ⟨kb, ko, none⟩) n kc) ∧ wx.cell? ⟨kb, ko + i, none⟩ = some (.int .i64 (K0 i)) ∧ wx.cell? ⟨kb, ko + k, none⟩ = some (.int .i64 (K0 k))) := fun wx mu => ⟨Blk.cell (Blk.keep hbu mu n1) 0, Blk.cell (Blk.keep hbm mu n2) 0, Blk.cell (Blk.keep hbm mu n2) 1, Blk.cell (Blk.keep hbm mu n2) 2, Blk.cell (Blk.keep hbs mu n3) 0, Blk.cell (Blk.keep hbk mu n4) 0, mu.cell (zk i hi) n6, mu.cell (zk k hk) n6⟩
  have ia := hA _ p1
  have ik1 := hK0 i hi
  have ik2 := hK0 k hk
  generalize A (i * n + k) = x at *
  generalize K0 i = ki at *
  generalize K0 k = kk at *
  have HF1 : Hid (∀ wx bo, bo ≠ U → UC U cc nn wx → Row wx (some ⟨bo, 0, none⟩) 2 (pairZ ki kk) → Calls Tryz.prog 43 #[.pointer (some ⟨U, 0, none⟩), .slice (some ⟨bo, 0, none⟩) 2 2] wx fun e w' => e = .returned (.int .i64 (m2N ki kk)) ∧ UC U (cc || m2C ki kk) (nn + 2) w' ∧ Mod U wx w') := fun wx bo hb hu hr => mulTwoM U ki kk cc nn bo 2 wx ik1 ik2 (by omega) hu hr hb
  have iv1 : I64 (m2N ki kk) := m2N_I64 _ _
  obtain ⟨v1, ev1⟩ : ∃ z, m2N ki kk = z := ⟨_, rfl⟩
  rw [ev1] at HF1 EF iv1
  have HF2 : Hid (∀ wx bo, bo ≠ U → UC U (cc || m2C ki kk) (nn + 2) wx → Row wx (some ⟨bo, 0, none⟩) 2 (pairZ s v1) → Calls Tryz.prog 43 #[.pointer (some ⟨U, 0, none⟩), .slice (some ⟨bo, 0, none⟩) 2 2] wx fun e w' => e = .returned (.int .i64 (m2N s v1)) ∧ UC U (cc || m2C ki kk || m2C s v1) (nn + 2 + 2) w' ∧ Mod U wx w') := fun wx bo hb hu hr => mulTwoM U s v1 _ _ bo 2 wx hs iv1 (by omega) hu hr hb
  have iv2 : I64 (m2N s v1) := m2N_I64 _ _
  obtain ⟨v2, ev2⟩ : ∃ z, m2N s v1 = z := ⟨_, rfl⟩
  rw [ev2] at HF2 EF iv2
  have HF3 : Hid (∀ wx bo, bo ≠ U → UC U (cc || m2C ki kk || m2C s v1) (nn + 2 + 2) wx → Row wx (some ⟨bo, 0, none⟩) 2 (pairZ x v2) → Calls Tryz.prog 42 #[.pointer (some ⟨U, 0, none⟩), .slice (some ⟨bo, 0, none⟩) 2 2] wx fun e w' => e = .returned (.int .i64 (s2N x v2)) ∧ UC U (cc || m2C ki kk || m2C s v1 || s2C x v2) (nn + 2 + 2 + 2) w' ∧ Mod U wx w') := fun wx bo hb hu hr => addTwoM U x v2 _ _ bo 2 wx ia iv2 (by omega) hu hr hb
  obtain ⟨z, ez⟩ : ∃ z, s2N x v2 = z := ⟨_, rfl⟩
  rw [ez] at HF3 EF
  have ER : Hid (zr = z ∧ (cc || m2C ki kk || m2C s v1 || s2C x v2) = (cc || gr)) := ⟨(unhide EF).1, by rw [(unhide EF).2]; simp only [Bool.or_assoc]⟩
  obtain ⟨c1, hc1⟩ : ∃ z, (cc || m2C ki kk) = z := ⟨_, rfl⟩
  rw [hc1] at HF1 HF2 HF3 ER
  obtain ⟨c2, hc2⟩ : ∃ z, (c1 || m2C s v1) = z := ⟨_, rfl⟩
  rw [hc2] at HF2 HF3 ER
  obtain ⟨c3, hc3⟩ : ∃ z, (c2 || s2C x v2) = z := ⟨_, rfl⟩
  rw [hc3] at HF3 ER
  obtain ⟨len, hlen⟩ : ∃ len, n * n = len := ⟨_, rfl⟩
  rw [hlen] at AT CW
  have H : Hid (UC U cc nn w.drew ∧ Mod U w w.drew ∧ U < w.heap.size) := ⟨hu, mod_drew U w, Blk.lt hu⟩
  have l0 : (0 : Int) ≤ (i : Int) := by omega
  have l1 : (i : Int) < (n : Int) := by omega
  have l2 : (0 : Int) ≤ (k : Int) := by omega
  have l3 : (k : Int) < (n : Int) := by omega
  have HS0 := unhide CW w.drew (unhide H).2.1
  clear hlen hc1 hc2 hc3 ev1 ev2 ez EF hbu hbm hbs hbk za zk hA hK0 hu p1 hn hi hk ia ik1 ik2 iv1 iv2 hs hnn n1 n2 n3 n4 n5 n6 A K0
  go_enter Tryz.func41, Tryz.ntmps41
  go_wp2
  refine region_G (fun w' => w'.cell? ⟨Bu, 0, none⟩ = some (.pointer (some ⟨U, 0, none⟩)) ∧ w'.cell? ⟨Bm, 0, none⟩ = some (.int .i64 n) ∧ w'.cell? ⟨Bm, 1, none⟩ = some (.int .i64 n) ∧ w'.cell? ⟨Bm, 2, none⟩ = some (.slice (some ⟨b, o, none⟩) len cap) ∧ w'.cell? ⟨Bs, 0, none⟩ = some (.int .i64 s) ∧ w'.cell? ⟨Bk, 0, none⟩ = some (.slice (some ⟨kb, ko, none⟩) n kc) ∧ w'.cell? ⟨kb, ko + i, none⟩ = some (.int .i64 ki) ∧ w'.cell? ⟨kb, ko + k, none⟩ = some (.int .i64 kk)) 22 (by kernel_rfl) HS0 (fun hHeld => ?_)
  refine take_G (i := 0) (d := 9) (v := .pointer (some ⟨U, 0, none⟩)) rfl rfl (by kernel_rfl) (by kernel_rfl) (by kernel_rfl) (by kernel_rfl) (by kernel_rfl) (Or.inl ⟨by rfl, ?_⟩) hHeld ?_
  · intro wS hSw
    obtain ⟨z0, z1, z2, z3, z4, z5, z6, z7⟩ := hSw
    clear hHeld
    go_simp
  (try simp only [Act.put, List.setIfInBounds_toArray, List.set_cons_zero, List.set_cons_succ])
  refine take_G (i := 1) (d := 10) (v := .agg #[.int .i64 n, .int .i64 n, .slice (some ⟨b, o, none⟩) len cap]) rfl rfl (by kernel_rfl) (by kernel_rfl) (by kernel_rfl) (by kernel_rfl) (by kernel_rfl) (Or.inl ⟨by rfl, ?_⟩) hHeld ?_
  · intro wS hSw
    obtain ⟨z0, z1, z2, z3, z4, z5, z6, z7⟩ := hSw
    clear hHeld
    go_simp
  (try simp only [Act.put, List.setIfInBounds_toArray, List.set_cons_zero, List.set_cons_succ])
  refine take_G (i := 2) (d := 11) (v := .int .i64 (i : Int)) rfl rfl (by kernel_rfl) (by kernel_rfl) (by kernel_rfl) (by kernel_rfl) (by kernel_rfl) (Or.inl ⟨by rfl, ?_⟩) hHeld ?_
  · intro wS hSw
    obtain ⟨z0, z1, z2, z3, z4, z5, z6, z7⟩ := hSw
    clear hHeld
    go_simp
  (try simp only [Act.put, List.setIfInBounds_toArray, List.set_cons_zero, List.set_cons_succ])
  refine take_G (i := 3) (d := 12) (v := .int .i64 (k : Int)) rfl rfl (by kernel_rfl) (by kernel_rfl) (by kernel_rfl) (by kernel_rfl) (by kernel_rfl) (Or.inl ⟨by rfl, ?_⟩) hHeld ?_
  · intro wS hSw
    obtain ⟨z0, z1, z2, z3, z4, z5, z6, z7⟩ := hSw
    clear hHeld
    go_simp
  (try simp only [Act.put, List.setIfInBounds_toArray, List.set_cons_zero, List.set_cons_succ])
  refine take_G (i := 5) (d := 14) (v := .pointer (some ⟨U, 0, none⟩)) rfl rfl (by kernel_rfl) (by kernel_rfl) (by kernel_rfl) (by kernel_rfl) (by kernel_rfl) (Or.inl ⟨by rfl, ?_⟩) hHeld ?_
  · intro wS hSw
    obtain ⟨z0, z1, z2, z3, z4, z5, z6, z7⟩ := hSw
    clear hHeld
    go_simp
  (try simp only [Act.put, List.setIfInBounds_toArray, List.set_cons_zero, List.set_cons_succ])
  refine take_G (i := 6) (d := 15) (v := .int .i64 s) rfl rfl (by kernel_rfl) (by kernel_rfl) (by kernel_rfl) (by kernel_rfl) (by kernel_rfl) (Or.inl ⟨by rfl, ?_⟩) hHeld ?_
  · intro wS hSw
    obtain ⟨z0, z1, z2, z3, z4, z5, z6, z7⟩ := hSw
    clear hHeld
    go_simp
  (try simp only [Act.put, List.setIfInBounds_toArray, List.set_cons_zero, List.set_cons_succ])
  refine take_G (i := 7) (d := 16) (v := .pointer (some ⟨U, 0, none⟩)) rfl rfl (by kernel_rfl) (by kernel_rfl) (by kernel_rfl) (by kernel_rfl) (by kernel_rfl) (Or.inl ⟨by rfl, ?_⟩) hHeld ?_
  · intro wS hSw
    obtain ⟨z0, z1, z2, z3, z4, z5, z6, z7⟩ := hSw
    clear hHeld
    go_simp
  (try simp only [Act.put, List.setIfInBounds_toArray, List.set_cons_zero, List.set_cons_succ])
  refine take_G (i := 8) (d := 17) (v := .slice (some ⟨kb, ko, none⟩) n kc) rfl rfl (by kernel_rfl) (by kernel_rfl) (by kernel_rfl) (by kernel_rfl) (by kernel_rfl) (Or.inl ⟨by rfl, ?_⟩) hHeld ?_
  · intro wS hSw
    obtain ⟨z0, z1, z2, z3, z4, z5, z6, z7⟩ := hSw
    clear hHeld
    go_simp
  (try simp only [Act.put, List.setIfInBounds_toArray, List.set_cons_zero, List.set_cons_succ])
  refine take_G (i := 9) (d := 18) (v := .int .i64 (i : Int)) rfl rfl (by kernel_rfl) (by kernel_rfl) (by kernel_rfl) (by kernel_rfl) (by kernel_rfl) (Or.inl ⟨by rfl, ?_⟩) hHeld ?_
  · intro wS hSw
    obtain ⟨z0, z1, z2, z3, z4, z5, z6, z7⟩ := hSw
    clear hHeld
    go_simp
  (try simp only [Act.put, List.setIfInBounds_toArray, List.set_cons_zero, List.set_cons_succ])
  refine take_G (i := 10) (d := 19) (v := .pointer (some ⟨kb, ko + i, none⟩)) rfl rfl (by kernel_rfl) (by kernel_rfl) (by kernel_rfl) (by kernel_rfl) (by kernel_rfl) (Or.inl ⟨by rfl, ?_⟩) hHeld ?_
  · intro wS hSw
    obtain ⟨z0, z1, z2, z3, z4, z5, z6, z7⟩ := hSw
    clear hHeld
    go_simp
  (try simp only [Act.put, List.setIfInBounds_toArray, List.set_cons_zero, List.set_cons_succ])
  refine take_G (i := 11) (d := 20) (v := .int .i64 ki) rfl rfl (by kernel_rfl) (by kernel_rfl) (by kernel_rfl) (by kernel_rfl) (by kernel_rfl) (Or.inl ⟨by rfl, ?_⟩) hHeld ?_
  · intro wS hSw
    obtain ⟨z0, z1, z2, z3, z4, z5, z6, z7⟩ := hSw
    clear hHeld
    go_simp
  (try simp only [Act.put, List.setIfInBounds_toArray, List.set_cons_zero, List.set_cons_succ])
  refine take_G (i := 12) (d := 21) (v := .slice (some ⟨kb, ko, none⟩) n kc) rfl rfl (by kernel_rfl) (by kernel_rfl) (by kernel_rfl) (by kernel_rfl) (by kernel_rfl) (Or.inl ⟨by rfl, ?_⟩) hHeld ?_
  · intro wS hSw
    obtain ⟨z0, z1, z2, z3, z4, z5, z6, z7⟩ := hSw
    clear hHeld
    go_simp
  (try simp only [Act.put, List.setIfInBounds_toArray, List.set_cons_zero, List.set_cons_succ])
  refine take_G (i := 13) (d := 22) (v := .int .i64 (k : Int)) rfl rfl (by kernel_rfl) (by kernel_rfl) (by kernel_rfl) (by kernel_rfl) (by kernel_rfl) (Or.inl ⟨by rfl, ?_⟩) hHeld ?_
  · intro wS hSw
    obtain ⟨z0, z1, z2, z3, z4, z5, z6, z7⟩ := hSw
    clear hHeld
    go_simp
  (try simp only [Act.put, List.setIfInBounds_toArray, List.set_cons_zero, List.set_cons_succ])
  refine take_G (i := 14) (d := 23) (v := .pointer (some ⟨kb, ko + k, none⟩)) rfl rfl (by kernel_rfl) (by kernel_rfl) (by kernel_rfl) (by kernel_rfl) (by kernel_rfl) (Or.inl ⟨by rfl, ?_⟩) hHeld ?_
  · intro wS hSw
    obtain ⟨z0, z1, z2, z3, z4, z5, z6, z7⟩ := hSw
    clear hHeld
    go_simp
  (try simp only [Act.put, List.setIfInBounds_toArray, List.set_cons_zero, List.set_cons_succ])
  refine take_G (i := 15) (d := 24) (v := .int .i64 kk) rfl rfl (by kernel_rfl) (by kernel_rfl) (by kernel_rfl) (by kernel_rfl) (by kernel_rfl) (Or.inl ⟨by rfl, ?_⟩) hHeld ?_
  · intro wS hSw
    obtain ⟨z0, z1, z2, z3, z4, z5, z6, z7⟩ := hSw
    clear hHeld
    go_simp
  (try simp only [Act.put, List.setIfInBounds_toArray, List.set_cons_zero, List.set_cons_succ])
  refine two_G (i := 4) (j := 16) (di := 13) (dj := 25) (.int .i64 x) (fun B => .slice (some ⟨B, 0, none⟩) 2 2) (fun B w' => Mod U w w' ∧ UC U cc nn w' ∧ B ≠ U ∧ Row w' (some ⟨B, 0, none⟩) 2 (pairZ ki kk)) (by decide) (by kernel_rfl) (by kernel_rfl) (by kernel_rfl) (by decide) (fun B w' h => unhide CW w' h.1) ?_ ?_ ?_
  · intro K hK
    refine wpOp_of rfl rfl ?_
    unfold Oper.wp
    go_simp
    refine (unhide AT _ (unhide H).2.1).mono ?_
    rintro e w1 ⟨rfl, rfl⟩
    have m1 : Mod U w (w.drew.alloc (.cells #[.int .i64 n, .int .i64 n, .slice (some ⟨b, o, none⟩) len cap] 24)) := (unhide H).2.1.trans (Mod.of ((Grown.refl _).alloc _ _))
    have u1 : UC U cc nn (w.drew.alloc (.cells #[.int .i64 n, .int .i64 n, .slice (some ⟨b, o, none⟩) len cap] 24)) := Blk.grown (unhide H).1 ((Grown.refl _).alloc _ _)
    refine ⟨unhide CW _ m1, ?_⟩
    generalize w.drew.alloc (.cells #[.int .i64 n, .int .i64 n, .slice (some ⟨b, o, none⟩) len cap] 24) = w1 at *
    (try simp only [Act.put, List.setIfInBounds_toArray, List.set_cons_zero, List.set_cons_succ])
    refine wpOp_of rfl rfl ?_
    unfold Oper.wp
    go_simp
    exact hK w1.heap.size _ ⟨m1.trans (Mod.of ((Grown.refl _).alloc _ _)), Blk.grown u1 ((Grown.refl _).alloc _ _), Nat.ne_of_gt (Blk.lt u1), pair_rowM w1 ki kk⟩
  · intro K hK
    refine wpOp_of rfl rfl ?_
    unfold Oper.wp
    go_simp
    have m1 : Mod U w (w.alloc (.cells #[.int .i64 ki, .int .i64 kk] 3)).drew := (show Mod U w (w.drew.alloc (.cells #[.int .i64 ki, .int .i64 kk] 3)) from (unhide H).2.1.trans (Mod.of ((Grown.refl _).alloc _ _)))
    have u1 : UC U cc nn (w.alloc (.cells #[.int .i64 ki, .int .i64 kk] 3)).drew := (show UC U cc nn (w.drew.alloc (.cells #[.int .i64 ki, .int .i64 kk] 3)) from Blk.grown (unhide H).1 ((Grown.refl _).alloc _ _))
    have r1 : Row (w.alloc (.cells #[.int .i64 ki, .int .i64 kk] 3)).drew (some ⟨w.heap.size, 0, none⟩) 2 (pairZ ki kk) := (show Row (w.drew.alloc (.cells #[.int .i64 ki, .int .i64 kk] 3)) (some ⟨w.heap.size, 0, none⟩) 2 (pairZ ki kk) from pair_rowM w.drew ki kk)
    refine ⟨unhide CW _ m1, ?_⟩
    generalize (w.alloc (.cells #[.int .i64 ki, .int .i64 kk] 3)).drew = w1 at *
    (try simp only [Act.put, List.setIfInBounds_toArray, List.set_cons_zero, List.set_cons_succ])
    refine wpOp_of rfl rfl ?_
    unfold Oper.wp
    go_simp
    refine (unhide AT _ m1).mono ?_
    rintro e w2 ⟨rfl, rfl⟩
    exact hK w.heap.size _ ⟨m1.trans (Mod.of ((Grown.refl _).alloc _ _)), Blk.grown u1 ((Grown.refl _).alloc _ _), Nat.ne_of_gt (unhide H).2.2, r1.grown ((Grown.refl _).alloc _ _)⟩
  rintro B w1 ⟨m1, u1, nB, r1⟩
  have HS1 := unhide CW w1 m1
  have G1 := hide (And.intro m1 (And.intro u1 (And.intro nB r1)))
  clear m1 u1 nB r1 hHeld HS0 AT H
  (try simp only [Act.put, List.setIfInBounds_toArray, List.set_cons_zero, List.set_cons_succ])
  refine step_G (i := 17) (by kernel_rfl) (fun K hK => ?_)
  refine wpOp_of rfl rfl ?_
  unfold Oper.wp
  go_simp
  refine (unhide HF1 _ _ (unhide G1).2.2.1 (unhide G1).2.1 (unhide G1).2.2.2).mono ?_
  rintro e w2 ⟨rfl, u2, m2⟩
  have G2 := hide (And.intro ((unhide G1).1.trans m2) u2)
  refine hK _ _ (fun _ => unhide CW _ (unhide G2).1) ?_
  clear hK K u2 m2 G1 HF1 HS1
  (try simp only [Act.put, List.setIfInBounds_toArray, List.set_cons_zero, List.set_cons_succ])
  refine step_G (i := 18) (by kernel_rfl) (fun K hK => ?_)
  refine wpOp_of rfl rfl ?_
  unfold Oper.wp
  go_simp
  have G3 : Hid (Mod U w (w2.alloc (.cells #[.int .i64 s, .int .i64 v1] 3)) ∧ UC U c1 (nn + 2) (w2.alloc (.cells #[.int .i64 s, .int .i64 v1] 3)) ∧ w2.heap.size ≠ U ∧ Row (w2.alloc (.cells #[.int .i64 s, .int .i64 v1] 3)) (some ⟨w2.heap.size, 0, none⟩) 2 (pairZ s v1)) := ⟨(unhide G2).1.trans (Mod.of ((Grown.refl _).alloc _ _)), Blk.grown (unhide G2).2 ((Grown.refl _).alloc _ _), Nat.ne_of_gt (Blk.lt (unhide G2).2), pair_rowM w2 s v1⟩
  refine hK _ _ (fun _ => unhide CW _ (unhide G3).1) ?_
  clear hK K
  (try simp only [Act.put, List.setIfInBounds_toArray, List.set_cons_zero, List.set_cons_succ])
  generalize w2.alloc (.cells #[.int .i64 s, .int .i64 v1] 3) = w3 at *
  refine step_G (i := 19) (by kernel_rfl) (fun K hK => ?_)
  refine wpOp_of rfl rfl ?_
  unfold Oper.wp
  go_simp
  refine (unhide HF2 _ _ (unhide G3).2.2.1 (unhide G3).2.1 (unhide G3).2.2.2).mono ?_
  rintro e w4 ⟨rfl, u4, m4⟩
  have G4 := hide (And.intro ((unhide G3).1.trans m4) u4)
  refine hK _ _ (fun _ => unhide CW _ (unhide G4).1) ?_
  clear hK K u4 m4 G3 HF2
  (try simp only [Act.put, List.setIfInBounds_toArray, List.set_cons_zero, List.set_cons_succ])
  refine step_G (i := 20) (by kernel_rfl) (fun K hK => ?_)
  refine wpOp_of rfl rfl ?_
  unfold Oper.wp
  go_simp
  have G5 : Hid (Mod U w (w4.alloc (.cells #[.int .i64 x, .int .i64 v2] 3)) ∧ UC U c2 (nn + 2 + 2) (w4.alloc (.cells #[.int .i64 x, .int .i64 v2] 3)) ∧ w4.heap.size ≠ U ∧ Row (w4.alloc (.cells #[.int .i64 x, .int .i64 v2] 3)) (some ⟨w4.heap.size, 0, none⟩) 2 (pairZ x v2)) := ⟨(unhide G4).1.trans (Mod.of ((Grown.refl _).alloc _ _)), Blk.grown (unhide G4).2 ((Grown.refl _).alloc _ _), Nat.ne_of_gt (Blk.lt (unhide G4).2), pair_rowM w4 x v2⟩
  refine hK _ _ (fun _ => unhide CW _ (unhide G5).1) ?_
  clear hK K
  (try simp only [Act.put, List.setIfInBounds_toArray, List.set_cons_zero, List.set_cons_succ])
  generalize w4.alloc (.cells #[.int .i64 x, .int .i64 v2] 3) = w5 at *
  refine step_G (i := 21) (by kernel_rfl) (fun K hK => ?_)
  refine wpOp_of rfl rfl ?_
  unfold Oper.wp
  go_simp
  refine (unhide HF3 _ _ (unhide G5).2.2.1 (unhide G5).2.1 (unhide G5).2.2.2).mono ?_
  rintro e w6 ⟨rfl, u6, m6⟩
  have R : Hid (UC U (cc || gr) (nn + 6) w6 ∧ Mk U w w6) := ⟨by rw [← (unhide ER).2, show nn + 6 = nn + 2 + 2 + 2 by omega]; exact u6, Mk.of ((unhide G5).1.trans m6)⟩
  refine hK _ _ (fun _ => unhide CW _ ((unhide G5).1.trans m6)) ?_
  clear hK K u6 m6 G5 HF3
  (try simp only [Act.put, List.setIfInBounds_toArray, List.set_cons_zero, List.set_cons_succ])
  refine step_G (i := 22) (by kernel_rfl) (fun K hK => ?_)
  refine wpOp_of rfl rfl ?_
  unfold Oper.wp
  go_simp
  refine hK _ _ (fun h => absurd rfl h) ?_
  clear hK K
  (try simp only [Act.put, List.setIfInBounds_toArray, List.set_cons_zero, List.set_cons_succ])
  refine done_G (by kernel_rfl) ?_
  refine noPanic_normalE ?_
  go_wp2
  go_ret
  exact ⟨by rw [(unhide ER).1]; rfl, unhide R⟩


end Go.Proofs.YtgahdjfkmpadoaaGreat

/- Package sym: mirrored, over any func that tells a pair's number. -/
namespace Go.Proofs.YtgahdjfkmpadoaaGreat
open Go.RowKit Go.Shelf Go.Proofs.Wd
set_option linter.unusedVariables false
set_option linter.unusedSimpArgs false
set_option maxRecDepth 10000

section
variable {P : Program} {ops : Array Oper} {Q : Exit → Act → World → Prop} {md : Region.Mode} {S : World → Prop} {g : Nat}
/-- A region of which only these ends are left. -/
theorem region_cut {T : Type} {id : Nat} {dr : Bool} {a : Act} {w : World} (acts : Act → T → Act) (R : T → World → Prop) (h : (Code.region id ops dr).wp P (fun e a' w' => e = .normal ∧ ∃ t, R t w' ∧ a' = acts a t) a w) (fin : ∀ t w', R t w' → Q .normal (acts a t) w') : (Code.region id ops dr).wp P Q a w :=
  Code.wp_mono (fun e a' w' h => by obtain ⟨rfl, t, hR, rfl⟩ := h; exact fin t w' hR) h
/-- Two operations can come up. -/
theorem pick2_G {i j fuel : Nat} {listed : Array Bool} {a : Act} {w : World} (hr : Region.ready md ops listed = [i, j])
    (h1 : ∀ K : Act → World → Prop, (∀ a' w', (i ≠ g → S w') → wpAnyG P md ops (NoPanic Q) S g fuel (listed.setIfInBounds i true) a' w' → K a' w') → wpOp P ops (NoPanic Q) i K a w)
    (h2 : ∀ K : Act → World → Prop, (∀ a' w', (j ≠ g → S w') → wpAnyG P md ops (NoPanic Q) S g fuel (listed.setIfInBounds j true) a' w' → K a' w') → wpOp P ops (NoPanic Q) j K a w) : wpAnyG P md ops (NoPanic Q) S g (fuel + 1) listed a w :=
  ⟨fun h0 => by (rw [hr] at h0; cases h0), fun q hq => by
    rw [hr] at hq
    simp only [List.mem_cons, List.not_mem_nil, or_false] at hq
    rcases hq with rfl | rfl
    · exact h1 _ (fun a' w' x y => ⟨x, y⟩)
    · exact h2 _ (fun a' w' x y => ⟨x, y⟩)⟩
end

set_option maxRecDepth 50000 in
set_option maxHeartbeats 1000000 in
theorem sliceCloneC (b o n cap : Nat) (Z : Nat → Int) (h1 : 1 ≤ n) (hn : n ≤ 1000000) (w : World) (hr : Row w (some ⟨b, o, none⟩) n Z) :
    Calls Tryz.prog 49 #[.slice (some ⟨b, o, none⟩) n cap] w fun e w' => ∃ B cap', e = .returned (.slice (some ⟨B, 0, none⟩) n cap') ∧ n ≤ cap' ∧ w.heap.size ≤ B ∧ Own B n Z w' ∧ Kp w w' := by
  obtain ⟨i0, hi, hz0, hz1, hz2⟩ := info_parts Tryz.infoInt
  have OM := hide (World.ownsRow_made (base := w.heap.size) (e := 3) (size := 1) w #[] 0 (Nat.le_refl _) (by unfold maxLen; omega) (by simp))
  have NEWH : Hid (∀ j u, ((List.range n).map fun i => Value.int .i64 (Z i))[j]? = some u → (w.alloc (.cells #[] 3)).cell? ((⟨b, o, none⟩ : Addr).add j) = some u) := by
    intro j u hu
    rw [List.getElem?_map] at hu
    by_cases hj : j < n
    · rw [List.getElem?_range hj] at hu
      simp at hu
      subst hu
      obtain ⟨b', o', e, hc⟩ := hr.at hj
      cases e
      rw [Go.WideShapes.add_plain]
      exact gat ((Grown.refl _).alloc _ _) hc
    · rw [List.getElem?_eq_none (by simpa using hj)] at hu
      simp at hu
  have H1 := hide h1
  have q22 : ∀ w : World, (binOp .eql 22 (.slice (some ⟨b, o, none⟩) n cap) (.slice none 0 0)).run Tryz.prog w = .ok (.bool false) w := fun w => Lib.run_eql_slice_nil w _ _ _ n cap 0 0 Tryz.underlying22
  clear hr h1
  go_enter Tryz.func49, Tryz.ntmps49
  go_wp2_with (at_builtin; refine wpList_append_own _ rfl _ _ 22 rfl w.heap.size 3 i0 (.int .i64 0) 1 8 Tryz.underlying22 hi hz0 hz1 hz2 rfl (by decide) _ _ _ rfl (unhide OM) ⟨b, o, none⟩ n cap ((List.range n).map fun i => Value.int .i64 (Z i)) rfl (by simp) (unhide NEWH) (cells_one _ _) (by unfold maxLen; omega) (by omega) (by simp) ?_; intro v' w1 hown' hgrow _)
  rw [Nat.zero_add, List.nil_append] at hown'
  obtain ⟨B, cap2, rfl, hC, hB, own2⟩ := owns_ownC (unhide H1) hown'
  have K1 : Hid (Kp w w1) := Kp.by ((Kp.refl _).alloc _ _) hgrow (fun k e => by have := ((unhide OM).lt k e).1; omega)
  have R1 := hide (And.intro hC (And.intro hB own2))
  clear hown' hgrow hB own2 hC
  go_wp2
  go_ret
  exact ⟨_, _, rfl, (unhide R1).1, (unhide R1).2.1, (unhide R1).2.2, unhide K1⟩


/-- mirrored under way: H the heap's size at the beginning, H2 behind the copy; the copy's numbers lie in Bl, its matrix in Bm. -/
def MiS (H H2 Bl Bm : Nat) (box : Array Value) (Fv : Value) (n f len cap2 : Nat) (A : Nat → Int) (g : Nat → Nat → Int) (J : List (PR n f) → World → Prop) (pre : List (PR n f)) (W : World) : Prop :=
  Blk H box 24 W ∧ Blk (H + 1) #[Fv] 58 W ∧ Blk (H + 1 + 1) #[.int .i64 0, .int .i64 0, .slice none 0 0] 24 W ∧ Blk Bm #[.int .i64 n, .int .i64 n, .slice (some ⟨Bl, 0, none⟩) len cap2] 24 W ∧ Own Bl len (pairsZ A g pre) W ∧
    Blk H2 #[.func (.func 50) #[] #[.pointer (some ⟨Bm, 0, none⟩)]] 71 W ∧ Blk (H2 + 1) #[.int .i64 n] 3 W ∧ Blk (H2 + 1 + 1) #[.int .i64 f] 3 W ∧ J pre W ∧ H2 + 3 ≤ W.heap.size ∧ pre.length ≤ n * n
theorem miS_own (H H2 Bl Bm : Nat) (box : Array Value) (Fv : Value) (n f len cap2 : Nat) (A : Nat → Int) (g : Nat → Nat → Int) (J : List (PR n f) → World → Prop) (hJ : ∀ ps a b, J ps a → SB H a b → J ps b) (B : Nat) (hB : H ≤ B) (hH : H ≤ H2) : OwnFrom B (fun pre : List (PR n f) => MiS H H2 Bl Bm box Fv n f len cap2 A g J pre) := by
  rintro pre W W' row ⟨h1, h2, h3, h4, h5, h6, h7, h8, h9, h10, h11⟩ hg hr
  have hr' : ∀ r, row = some r → ∃ o : Obj, W.heap[r]? = some o ∧ o.isCells = false := fun r e => (hr r e).2
  exact ⟨blk_own h1 hg hr', blk_own h2 hg hr', blk_own h3 hg hr', blk_own h4 hg hr', own_own h5 hg hr', blk_own h6 hg hr', blk_own h7 hg hr', blk_own h8 hg hr', hJ _ _ _ h9 (SB.by hg (by omega) (fun k e => Nat.le_trans hB (hr k e).1)), Nat.le_trans h10 hg.size, h11⟩
theorem SF.own {n B len : Nat} {Z : Nat → Int} {a b : World} (h : SF n a b) (ho : Own B len Z a) (hn : n ≤ B) : Own B len Z b := let ⟨cur, h1, h2⟩ := ho; ⟨cur, h.blk h1 hn, h2⟩
theorem SB.mod {n L : Nat} {a b : World} (m : Mod L a b) (h : n ≤ L) (hs : n ≤ a.heap.size) : SB n a b := ⟨m.1, m.2.1, fun k hk => m.2.2.1 k (by omega) (by omega), m.2.2.2.2⟩
theorem SF.drew (n : Nat) (a : World) : SF n a a.drew := ⟨fun _ _ _ => rfl, Nat.le_refl _⟩
theorem SB.drew (n : Nat) (a : World) : SB n a a.drew := ⟨rfl, rfl, fun _ _ => rfl, Nat.le_refl _⟩
/-- A pair has been told, and is set. -/
theorem MiS.set {H H2 Bl Bm : Nat} {box : Array Value} {Fv : Value} {n f len cap2 : Nat} {A : Nat → Int} {g : Nat → Nat → Int} {J : List (PR n f) → World → Prop} (hJ : ∀ ps a b, J ps a → SB H a b → J ps b) (hb : H + 3 ≤ Bl ∧ H + 3 ≤ Bm ∧ Bl ≠ Bm ∧ Bl < H2 ∧ Bm < H2) {pre : List (PR n f)} {x : PR n f} {W W1 W2 : World} (h : MiS H H2 Bl Bm box Fv n f len cap2 A g J pre W) (hl : pre.length < n * n) (s : SF H W W1) (j : J (pre ++ [x]) W1) (ho : Own Bl len (pairsZ A g (pre ++ [x])) W2) (m : Mod Bl W1 W2) :
    MiS H H2 Bl Bm box Fv n f len cap2 A g J (pre ++ [x]) W2 ∧ KeepsFrom (H2 + 3) W W2 ∧ KpP (H2 + 1) W W2 := by
  obtain ⟨h1, h2, h3, h4, h5, h6, h7, h8, h9, h10, h11⟩ := h
  have hs : H2 + 3 ≤ W1.heap.size := Nat.le_trans h10 s.2
  refine ⟨⟨Blk.keep (s.blk h1 (Nat.le_refl _)) m (by omega), Blk.keep (s.blk h2 (by omega)) m (by omega), Blk.keep (s.blk h3 (by omega)) m (by omega), Blk.keep (s.blk h4 (by omega)) m (by omega), ho, Blk.keep (s.blk h6 (by omega)) m (by omega), Blk.keep (s.blk h7 (by omega)) m (by omega), Blk.keep (s.blk h8 (by omega)) m (by omega), hJ _ _ _ j (SB.mod m (by omega) (by omega)), Nat.le_trans hs m.2.2.2.2, by rw [List.length_append]; exact hl⟩, ?_, ?_, ?_⟩
  · refine ⟨Nat.le_trans s.2 m.2.2.2.2, fun k o hk e _ => ?_⟩
    have hk2 := (Array.getElem?_eq_some_iff.1 e).1
    exact (m.2.2.1 k (Nat.lt_of_lt_of_le hk2 s.2) (by omega)).trans ((s.1 k (by omega) hk2).trans e)
  · exact (m.2.2.1 _ (by omega) (by omega)).trans (s.1 _ (by omega) (by omega))
  · exact (m.2.2.1 _ (by omega) (by omega)).trans (s.1 _ (by omega) (by omega))
/-- What mirrored tells. -/
def MiP (n len : Nat) (Z : Nat → Int) (X : World → Prop) (w : World) (e : Ending) (w' : World) : Prop :=
  ∃ L cap2, w.heap.size ≤ L ∧ len ≤ cap2 ∧ e = .returned (.agg #[.int .i64 n, .int .i64 n, .slice (some ⟨L, 0, none⟩) len cap2]) ∧ Own L len Z w' ∧ X w'

theorem run_store_funcL (P : Program) (w : World) (a : Addr) (f : Fn) (x y : Array Value) (m : Mode) : (store a (.func f x y) m).run P w = stored P w a (.func f x y) m := run_store P w a _ m rfl
section
attribute [local go_sem] Oper.semAt_some run_store_funcL

set_option maxRecDepth 100000 in
set_option maxHeartbeats 8000000 in
theorem symMirrored (F : Nat) (eF : ∀ args w, (callFunc F args).run Tryz.prog w = .ok (.enter F args) w) (caps : Array Value) (n f len b o cap : Nat) (hn : 1 ≤ n ∧ n ≤ 12) (hf : f ≤ 1) (hl : len = n * n) (A : Nat → Int) (g : Nat → Nat → Int) (J : List (PR n f) → World → Prop) (w : World) (hz : ∀ i, i < len → w.cell? ⟨b, o + i, none⟩ = some (.int .i64 (A i)))
    (hJ : ∀ ps a b, J ps a → SB w.heap.size a b → J ps b)
    (C : Hid (∀ ps (x : PR n f) a, ps.length < n * n → J ps a → Calls Tryz.prog F (#[.int .i64 (x.1.1 : Int), .int .i64 (x.1.2 : Int)] ++ caps) a fun e b => e = .returned (.int .i64 (g x.1.1 x.1.2)) ∧ J (ps ++ [x]) b ∧ SF w.heap.size a b))
    (h0 : J [] w) :
    Calls Tryz.prog 27 #[.agg #[.int .i64 n, .int .i64 n, .slice (some ⟨b, o, none⟩) len cap], .int .i64 (f : Int), .func (.func F) #[] caps] w fun e w' => MiP n len (pairZ2 A g (fun a b => a + f ≤ b) n) (fun w' => ∃ ys, (∀ x, x ∈ ys) ∧ ys.length ≤ n * n ∧ J ys w') w e w' := by
  have hll : 1 ≤ len ∧ len ≤ 144 := by have := mul12n n n hn hn; omega
  have HL := hide (And.intro hl hll)
  have HR := hide (And.intro hn hf)
  have HJ := hide hJ
  obtain ⟨G, s3, x0, x1, x2⟩ := alloc3 w #[.int .i64 n, .int .i64 n, .slice (some ⟨b, o, none⟩) len cap] 24 #[.func (.func F) #[] caps] 58 #[.int .i64 0, .int .i64 0, .slice none 0 0] 24
  have CL := hide (fun (wx : World) (k : Kp w wx) => sliceCloneC b o len cap A hll.1 (by omega) wx (Or.inr ⟨b, o, rfl, fun i hi => k.cell (hz i hi)⟩))
  have K0 := hide (Kp.of G)
  have J0 := hide (hJ _ _ _ h0 ⟨(Kp.of G).1, (Kp.of G).2.1, (Kp.of G).2.2.1, G.2.2⟩)
  have HX := hide (And.intro s3 (And.intro x0 (And.intro x1 x2)))
  clear hl hll hn hf hJ h0 hz G s3 x0 x1 x2
  refine (callsIn_wide (n := 6)).1 ?_
  refine callsIn_of_wp_marks Tryz.func27 rfl trivial ?_ rfl
  simp only [Tryz.ntmps27, List.size_toArray, List.length_cons, List.length_nil, Nat.reduceAdd, Nat.reduceSub, Array.replicate_succ, Array.replicate_zero, List.push_toArray, List.append_toArray, List.nil_append, List.cons_append]
  gi_wp2_with fail
  generalize (((w.alloc (.cells #[.int .i64 n, .int .i64 n, .slice (some ⟨b, o, none⟩) len cap] 24)).alloc (.cells #[.func (.func F) #[] caps] 58)).alloc (.cells #[.int .i64 0, .int .i64 0, .slice none 0 0] 24)) = w1 at *
  have y0 : w1.cell? ⟨w.heap.size, 0, none⟩ = some (.int .i64 n) := Blk.cell (unhide HX).2.1 0
  have y1 : w1.cell? ⟨w.heap.size, 1, none⟩ = some (.int .i64 n) := Blk.cell (unhide HX).2.1 1
  have y2 : w1.cell? ⟨w.heap.size, 2, none⟩ = some (.slice (some ⟨b, o, none⟩) len cap) := Blk.cell (unhide HX).2.1 2
  refine wpIn_wide.2 ?_
  refine region_cut (T := Nat × Nat × Nat) (fun _ t => { tmps := #[.agg #[.int .i64 n, .int .i64 n, .slice (some ⟨b, o, none⟩) len cap], .int .i64 (f : Int), .func (.func F) #[] caps, .pointer (some ⟨w.heap.size, 0, none⟩), undef, .pointer (some ⟨w.heap.size + 1, 0, none⟩), .pointer (some ⟨w.heap.size + 1 + 1, 0, none⟩), .pointer (some ⟨t.2.2, 0, none⟩), undef, undef, undef, .pointer (some ⟨w.heap.size, 0, none⟩), .int .i64 n, .pointer (some ⟨w.heap.size, 1, none⟩), .int .i64 n, .pointer (some ⟨w.heap.size, 2, none⟩), .slice (some ⟨b, o, none⟩) len cap, .slice (some ⟨t.1, 0, none⟩) len t.2.1, .agg #[.int .i64 n, .int .i64 n, .slice (some ⟨t.1, 0, none⟩) len t.2.1], undef, undef, undef, undef, undef, undef, undef, undef, undef, undef, undef, undef, undef, undef, undef, undef], defers := [] }) (fun t w2 => Kp w1 w2 ∧ len ≤ t.2.1 ∧ w.heap.size + 3 ≤ t.1 ∧ w.heap.size + 3 ≤ t.2.2 ∧ t.1 ≠ t.2.2 ∧ Own t.1 len A w2 ∧ Blk t.2.2 #[.int .i64 n, .int .i64 n, .slice (some ⟨t.1, 0, none⟩) len t.2.1] 24 w2) ?_ ?_
  · have K1 : Hid (Kp w w1.drew) := unhide K0
    refine region_G (fun w' => w'.cell? ⟨w.heap.size, 0, none⟩ = some (.int .i64 n) ∧ w'.cell? ⟨w.heap.size, 1, none⟩ = some (.int .i64 n) ∧ w'.cell? ⟨w.heap.size, 2, none⟩ = some (.slice (some ⟨b, o, none⟩) len cap)) 9 (by kernel_rfl) ⟨y0, y1, y2⟩ (fun hHeld => ?_)
    refine take_G (i := 0) (d := 11) (v := .pointer (some ⟨w.heap.size, 0, none⟩)) rfl rfl (by kernel_rfl) (by kernel_rfl) (by kernel_rfl) (by kernel_rfl) (by kernel_rfl) (Or.inl ⟨by rfl, ?_⟩) hHeld ?_
    · intro wS hSw
      obtain ⟨z0, z1, z2⟩ := hSw
      clear hHeld
      go_simp
    (try simp only [Act.put, List.setIfInBounds_toArray, List.set_cons_zero, List.set_cons_succ])
    refine take_G (i := 1) (d := 12) (v := .int .i64 n) rfl rfl (by kernel_rfl) (by kernel_rfl) (by kernel_rfl) (by kernel_rfl) (by kernel_rfl) (Or.inl ⟨by rfl, ?_⟩) hHeld ?_
    · intro wS hSw
      obtain ⟨z0, z1, z2⟩ := hSw
      clear hHeld
      go_simp
    (try simp only [Act.put, List.setIfInBounds_toArray, List.set_cons_zero, List.set_cons_succ])
    refine take_G (i := 2) (d := 13) (v := .pointer (some ⟨w.heap.size, 1, none⟩)) rfl rfl (by kernel_rfl) (by kernel_rfl) (by kernel_rfl) (by kernel_rfl) (by kernel_rfl) (Or.inl ⟨by rfl, ?_⟩) hHeld ?_
    · intro wS hSw
      obtain ⟨z0, z1, z2⟩ := hSw
      clear hHeld
      go_simp
    (try simp only [Act.put, List.setIfInBounds_toArray, List.set_cons_zero, List.set_cons_succ])
    refine take_G (i := 3) (d := 14) (v := .int .i64 n) rfl rfl (by kernel_rfl) (by kernel_rfl) (by kernel_rfl) (by kernel_rfl) (by kernel_rfl) (Or.inl ⟨by rfl, ?_⟩) hHeld ?_
    · intro wS hSw
      obtain ⟨z0, z1, z2⟩ := hSw
      clear hHeld
      go_simp
    (try simp only [Act.put, List.setIfInBounds_toArray, List.set_cons_zero, List.set_cons_succ])
    refine take_G (i := 4) (d := 15) (v := .pointer (some ⟨w.heap.size, 2, none⟩)) rfl rfl (by kernel_rfl) (by kernel_rfl) (by kernel_rfl) (by kernel_rfl) (by kernel_rfl) (Or.inl ⟨by rfl, ?_⟩) hHeld ?_
    · intro wS hSw
      obtain ⟨z0, z1, z2⟩ := hSw
      clear hHeld
      go_simp
    (try simp only [Act.put, List.setIfInBounds_toArray, List.set_cons_zero, List.set_cons_succ])
    refine take_G (i := 5) (d := 16) (v := .slice (some ⟨b, o, none⟩) len cap) rfl rfl (by kernel_rfl) (by kernel_rfl) (by kernel_rfl) (by kernel_rfl) (by kernel_rfl) (Or.inl ⟨by rfl, ?_⟩) hHeld ?_
    · intro wS hSw
      obtain ⟨z0, z1, z2⟩ := hSw
      clear hHeld
      go_simp
    (try simp only [Act.put, List.setIfInBounds_toArray, List.set_cons_zero, List.set_cons_succ])
    refine pick2_G (i := 6) (j := 8) (by kernel_rfl) (fun K hK => ?_) (fun K hK => ?_)
    · refine wpOp_of rfl rfl ?_
      unfold Oper.wp
      go_simp
      refine (unhide CL _ (unhide K1)).mono ?_
      rintro e w3 ⟨Bl, cap2, rfl, hc, hB, own, k3⟩
      have k13 : Kp w1 w3 := k3
      have hb0 := Blk.kp (unhide HX).2.1 k13
      have d0 : w3.cell? ⟨w.heap.size, 0, none⟩ = some (.int .i64 n) := Blk.cell hb0 0
      have d1 : w3.cell? ⟨w.heap.size, 1, none⟩ = some (.int .i64 n) := Blk.cell hb0 1
      have d2 : w3.cell? ⟨w.heap.size, 2, none⟩ = some (.slice (some ⟨b, o, none⟩) len cap) := Blk.cell hb0 2
      have R3 : Hid (len ≤ cap2 ∧ w1.heap.size ≤ Bl ∧ Own Bl len A w3 ∧ Kp w1 w3) := ⟨hc, hB, own, k13⟩
      clear hc hB own k3 hb0 k13 hHeld y0 y1 y2
      refine hK _ _ (fun _ => ⟨d0, d1, d2⟩) ?_
      clear hK K
      (try simp only [Act.put, List.setIfInBounds_toArray, List.set_cons_zero, List.set_cons_succ])
      have hHeld := And.intro d0 (And.intro d1 d2)
      refine take_G (i := 7) (d := 18) (v := .agg #[.int .i64 n, .int .i64 n, .slice (some ⟨Bl, 0, none⟩) len cap2]) rfl rfl (by kernel_rfl) (by kernel_rfl) (by kernel_rfl) (by kernel_rfl) (by kernel_rfl) (Or.inl ⟨by rfl, ?_⟩) hHeld ?_
      · intro wS hSw
        obtain ⟨z0, z1, z2⟩ := hSw
        clear hHeld
        go_simp
      (try simp only [Act.put, List.setIfInBounds_toArray, List.set_cons_zero, List.set_cons_succ])
      refine step_G (i := 8) (by kernel_rfl) (fun K hK => ?_)
      refine wpOp_of rfl rfl ?_
      unfold Oper.wp
      go_simp
      have gz : Grown w3 (w3.alloc (.cells #[.int .i64 0, .int .i64 0, .slice none 0 0] 24)) := (Grown.refl _).alloc _ _
      refine hK _ _ (fun _ => ⟨gat gz d0, gat gz d1, gat gz d2⟩) ?_
      clear hK K
      (try simp only [Act.put, List.setIfInBounds_toArray, List.set_cons_zero, List.set_cons_succ])
      refine step_G (i := 9) (by kernel_rfl) (fun K hK => ?_)
      refine wpOp_of rfl rfl ?_
      unfold Oper.wp
      go_simp
      refine hK _ _ (fun h => absurd rfl h) ?_
      clear hK K
      (try simp only [Act.put, List.setIfInBounds_toArray, List.set_cons_zero, List.set_cons_succ])
      refine done_G (by kernel_rfl) ?_
      refine noPanic_normalE ?_
      obtain ⟨hc, hB, own, k13⟩ := unhide R3
      have s1 := (unhide HX).1
      have s3 := k13.2.2.2
      have lB : Bl < w3.heap.size := by obtain ⟨cur, h1, _⟩ := own; exact Blk.lt h1
      exact ⟨rfl, (Bl, cap2, w3.heap.size), ⟨k13.alloc _ _, hc, by show _ ≤ Bl; omega, by show _ ≤ w3.heap.size; omega, by show Bl ≠ w3.heap.size; omega, own.kp ((Kp.refl w3).alloc _ _), Blk.new w3 _ _⟩, rfl⟩
    · refine wpOp_of rfl rfl ?_
      unfold Oper.wp
      go_simp
      have gz : Grown w1 (w1.alloc (.cells #[.int .i64 0, .int .i64 0, .slice none 0 0] 24)).drew := (show Grown w1 (w1.drew.alloc (.cells #[.int .i64 0, .int .i64 0, .slice none 0 0] 24)) from ((Grown.refl w1).drew).alloc _ _)
      have bz : Blk w1.heap.size #[.int .i64 0, .int .i64 0, .slice none 0 0] 24 (w1.alloc (.cells #[.int .i64 0, .int .i64 0, .slice none 0 0] 24)).drew := (show Blk w1.heap.size #[.int .i64 0, .int .i64 0, .slice none 0 0] 24 (w1.alloc (.cells #[.int .i64 0, .int .i64 0, .slice none 0 0] 24)) from Blk.new w1 _ _)
      generalize (w1.alloc (.cells #[.int .i64 0, .int .i64 0, .slice none 0 0] 24)).drew = w2 at *
      have d0 := gat gz y0
      have d1 := gat gz y1
      have d2 := gat gz y2
      have K2 : Hid (Kp w w2 ∧ Kp w1 w2 ∧ Blk w1.heap.size #[.int .i64 0, .int .i64 0, .slice none 0 0] 24 w2) := ⟨(unhide K0).grown gz, Kp.of gz, bz⟩
      refine hK _ _ (fun _ => ⟨d0, d1, d2⟩) ?_
      clear hK K gz bz hHeld y0 y1 y2
      (try simp only [Act.put, List.setIfInBounds_toArray, List.set_cons_zero, List.set_cons_succ])
      refine step_G (i := 6) (by kernel_rfl) (fun K hK => ?_)
      refine wpOp_of rfl rfl ?_
      unfold Oper.wp
      go_simp
      refine (unhide CL _ (unhide K2).1).mono ?_
      rintro e w3 ⟨Bl, cap2, rfl, hc, hB, own, k3⟩
      have k13 : Kp w1 w3 := (unhide K2).2.1.trans k3
      have bz := Blk.kp (unhide K2).2.2 k3
      have hb0 := Blk.kp (unhide HX).2.1 k13
      have d0 : w3.cell? ⟨w.heap.size, 0, none⟩ = some (.int .i64 n) := Blk.cell hb0 0
      have d1 : w3.cell? ⟨w.heap.size, 1, none⟩ = some (.int .i64 n) := Blk.cell hb0 1
      have d2 : w3.cell? ⟨w.heap.size, 2, none⟩ = some (.slice (some ⟨b, o, none⟩) len cap) := Blk.cell hb0 2
      have l2 : w1.heap.size < w2.heap.size := Blk.lt (unhide K2).2.2
      have e0 : w3.cell? ⟨w1.heap.size, 0, none⟩ = some (.int .i64 0) := Blk.cell bz 0
      have e1 : w3.cell? ⟨w1.heap.size, 1, none⟩ = some (.int .i64 0) := Blk.cell bz 1
      have e2 : w3.cell? ⟨w1.heap.size, 2, none⟩ = some (.slice none 0 0) := Blk.cell bz 2
      have ff := Blk.free bz
      have R3 : Hid (len ≤ cap2 ∧ w2.heap.size ≤ Bl ∧ Own Bl len A w3 ∧ Kp w1 w3 ∧ Blk w1.heap.size #[.int .i64 0, .int .i64 0, .slice none 0 0] 24 w3 ∧ w1.heap.size < w2.heap.size) := ⟨hc, hB, own, k13, bz, l2⟩
      clear hc hB own k3 hb0 k13 bz l2
      refine hK _ _ (fun _ => ⟨d0, d1, d2⟩) ?_
      clear hK K
      (try simp only [Act.put, List.setIfInBounds_toArray, List.set_cons_zero, List.set_cons_succ])
      have hHeld := And.intro d0 (And.intro d1 d2)
      refine take_G (i := 7) (d := 18) (v := .agg #[.int .i64 n, .int .i64 n, .slice (some ⟨Bl, 0, none⟩) len cap2]) rfl rfl (by kernel_rfl) (by kernel_rfl) (by kernel_rfl) (by kernel_rfl) (by kernel_rfl) (Or.inl ⟨by rfl, ?_⟩) hHeld ?_
      · intro wS hSw
        obtain ⟨z0, z1, z2⟩ := hSw
        clear hHeld
        go_simp
      (try simp only [Act.put, List.setIfInBounds_toArray, List.set_cons_zero, List.set_cons_succ])
      refine step_G (i := 9) (by kernel_rfl) (fun K hK => ?_)
      refine wpOp_of rfl rfl ?_
      unfold Oper.wp
      go_simp
      refine hK _ _ (fun h => absurd rfl h) ?_
      clear hK K
      (try simp only [Act.put, List.setIfInBounds_toArray, List.set_cons_zero, List.set_cons_succ])
      refine done_G (by kernel_rfl) ?_
      refine noPanic_normalE ?_
      obtain ⟨hc, hB, own, k13, bz, l2⟩ := unhide R3
      have s1 := (unhide HX).1
      have P := putM bz (.int .i64 n) (.int .i64 n) (.slice (some ⟨Bl, 0, none⟩) len cap2)
      have lB : Bl < w3.heap.size := by obtain ⟨cur, h1, _⟩ := own; exact Blk.lt h1
      refine ⟨rfl, (Bl, cap2, w1.heap.size), ⟨k13.mod P.2 (Nat.le_refl _), hc, by show _ ≤ Bl; omega, by show _ ≤ w1.heap.size; omega, by show Bl ≠ w1.heap.size; omega, own.mk (Mk.of P.2) (by show Bl ≠ w1.heap.size; omega), P.1⟩, rfl⟩
  · rintro ⟨Bl, cap2, Bm⟩ w2 ⟨k12, hc, hB, hm, hne, own, bm⟩
    dsimp only at hc hB hm hne own bm ⊢
    have K2 := hide (And.intro k12 (And.intro hc (And.intro hB (And.intro hm (And.intro hne (And.intro own bm))))))
    have b0 := Blk.kp (unhide HX).2.1 k12
    have y0 : w2.cell? ⟨w.heap.size, 0, none⟩ = some (.int .i64 n) := Blk.cell b0 0
    have g2 : w.heap.size < w2.heap.size := heap_gt y0
    clear k12 hc hB hm hne own bm b0 y1 y2
    gi_wp2_with (refine ⟨trivial, ?_⟩; gi_at_call 47; refine (callsIn_wide.2 (symPairs _ _ _)).mono ?_; rintro e w' ⟨rfl, rfl⟩)
    obtain ⟨hn, hf⟩ := unhide HR
    obtain ⟨G5, s5, b5, b6, b7⟩ := alloc3 w2 #[.func (.func 50) #[] #[.pointer (some ⟨Bm, 0, none⟩)]] 71 #[.int .i64 n] 3 #[.int .i64 f] 3
    generalize (((w2.alloc (.cells #[.func (.func 50) #[] #[.pointer (some ⟨Bm, 0, none⟩)]] 71)).alloc (.cells #[.int .i64 n] 3)).alloc (.cells #[.int .i64 f] 3)) = W0 at *
    have HB : Hid ((w.heap.size + 3 ≤ Bl ∧ w.heap.size + 3 ≤ Bm ∧ Bl ≠ Bm ∧ Bl < w2.heap.size ∧ Bm < w2.heap.size) ∧ w.heap.size ≤ w2.heap.size) := by
      obtain ⟨k12, hc, hB, hm, hne, own, bm⟩ := unhide K2
      exact ⟨⟨hB, hm, hne, (by obtain ⟨cur, h1, _⟩ := own; exact Blk.lt h1), Blk.lt bm⟩, Nat.le_of_lt g2⟩
    have st0 : MiS w.heap.size w2.heap.size Bl Bm #[.int .i64 n, .int .i64 n, .slice (some ⟨b, o, none⟩) len cap] (.func (.func F) #[] caps) n f len cap2 A g J [] W0 := by
      obtain ⟨k12, hc, hB, hm, hne, own, bm⟩ := unhide K2
      have k10 := k12.trans (Kp.of G5)
      refine ⟨Blk.kp (unhide HX).2.1 k10, Blk.kp (unhide HX).2.2.1 k10, Blk.kp (unhide HX).2.2.2 k10, Blk.grown bm G5, (own.kp (Kp.of G5)).congr (fun p _ => (pairsZ_nil A g p).symm), b5, b6, b7, unhide HJ _ _ _ (unhide J0) ⟨k10.1, k10.2.1, fun k hk => k10.2.2.1 k (by have := (unhide HX).1; omega), k10.2.2.2⟩, by omega, Nat.zero_le _⟩
    have CC := hide C
    clear G5 b5 y0 g2 C
    refine wpIn_rangeFunc_ownG rfl (by omega) (gf := 70) (lb := #[.pointer (some ⟨w2.heap.size + 1, 0, none⟩), .pointer (some ⟨w2.heap.size + 1 + 1, 0, none⟩)]) rfl trivial (enters_of Tryz.func70 (by kernel_rfl) rfl)
      (pairs_stops _ (by omega) (w2.heap.size + 1) n f hn hf W0 b6 b7) kpP_t (kpP_b (by omega)) (Below.refl _ _) (fun _ => rfl)
      (fun pre => MiS w.heap.size w2.heap.size Bl Bm #[.int .i64 n, .int .i64 n, .slice (some ⟨b, o, none⟩) len cap] (.func (.func F) #[] caps) n f len cap2 A g J pre) (fun _ _ _ => False) (miS_own _ _ _ _ _ _ _ _ _ _ _ _ J (unhide HJ) _ (by have := (unhide HB).2; omega) (unhide HB).2) (fun _ _ _ _ _ hs _ _ => hs)
      st0
      (fun x => { tmps := #[.agg #[.int .i64 n, .int .i64 n, .slice (some ⟨b, o, none⟩) len cap], .int .i64 (f : Int), .func (.func F) #[] caps, .pointer (some ⟨w.heap.size, 0, none⟩), undef, .pointer (some ⟨w.heap.size + 1, 0, none⟩), .pointer (some ⟨w.heap.size + 1 + 1, 0, none⟩), .pointer (some ⟨Bm, 0, none⟩), .pointer (some ⟨w2.heap.size, 0, none⟩), .int .i64 (x.1.1 : Int), .int .i64 (x.1.2 : Int), .pointer (some ⟨w.heap.size, 0, none⟩), .int .i64 n, .pointer (some ⟨w.heap.size, 1, none⟩), .int .i64 n, .pointer (some ⟨w.heap.size, 2, none⟩), .slice (some ⟨b, o, none⟩) len cap, .slice (some ⟨Bl, 0, none⟩) len cap2, .agg #[.int .i64 n, .int .i64 n, .slice (some ⟨Bl, 0, none⟩) len cap2], .func (.func 50) #[] #[.pointer (some ⟨Bm, 0, none⟩)], .pointer (some ⟨w.heap.size, 0, none⟩), .int .i64 n, .int .i64 (f : Int), .func (.func 70) #[] #[.pointer (some ⟨w2.heap.size + 1, 0, none⟩), .pointer (some ⟨w2.heap.size + 1 + 1, 0, none⟩)], .int .i64 (x.1.1 : Int), .int .i64 (x.1.2 : Int), undef, undef, undef, undef, undef, undef, undef, undef, undef], defers := [] }) ?assign ?body ?done ?stop
    case assign =>
      intro l x W K hK
      dsimp only [encP]
      gi_wp2
      exact hK
    case body =>
      rintro l pre x W hS hlt
      obtain ⟨⟨⟨i, k⟩, hik, hkn⟩, hx⟩ : ∃ y : PR n f, x = y := ⟨x, rfl⟩
      have CX : Hid (∀ W, pre.length < n * n → J pre W → Calls Tryz.prog F (#[.int .i64 (i : Int), .int .i64 (k : Int)] ++ caps) W fun e b => e = .returned (.int .i64 (g i k)) ∧ J (pre ++ [x]) b ∧ SF w.heap.size W b) := by
        intro W h1 h2
        have := unhide CC pre x W h1 h2
        rw [hx] at this ⊢
        exact this
      have ZS : Hid (∀ p, (if p = k * n + i then g i k else if p = i * n + k then g i k else pairsZ A g pre p) = pairsZ A g (pre ++ [x]) p) := by
        intro p
        have := pairsZ_snoc A g pre x p
        rw [hx] at this ⊢
        exact this
      have e1 : x.1.1 = i := by rw [hx]
      have e2 : x.1.2 = k := by rw [hx]
      dsimp only
      rw [e1, e2]
      dsimp only at hik hkn
      have d0 : W.cell? ⟨w2.heap.size, 0, none⟩ = some (.func (.func 50) #[] #[.pointer (some ⟨Bm, 0, none⟩)]) := Blk.cell hS.2.2.2.2.2.1 0
      have d1 : W.cell? ⟨w.heap.size + 1, 0, none⟩ = some (.func (.func F) #[] caps) := Blk.cell hS.2.1 0
      have CD := hide (unhide CX W.drew hlt (unhide HJ _ _ _ hS.2.2.2.2.2.2.2.2.1 (SB.drew _ _)))
      have HS := hide (And.intro hS hlt)
      have HI : Hid (i + f ≤ k ∧ k < n) := ⟨hik, hkn⟩
      have HW : Hid (W0.heap.size = w2.heap.size + 3) := by show _ = _; omega
      have hmx : Tryz.prog.follows .mixedOrders = true := by kernel_rfl
      obtain ⟨z, hz⟩ : ∃ z, g i k = z := ⟨_, rfl⟩
      rw [hz] at CD
      have EZ := hide hz
      have HN := hide hn
      clear hz hx e1 e2 hS hlt hik hkn CX CC st0 s5 b6 b7 hn hf HR J0 K0 CL
      gi_wp2
      refine region_in (fun w' => w'.cell? ⟨w2.heap.size, 0, none⟩ = some (.func (.func 50) #[] #[.pointer (some ⟨Bm, 0, none⟩)]) ∧ w'.cell? ⟨w.heap.size + 1, 0, none⟩ = some (.func (.func F) #[] caps)) hmx (by kernel_rfl) ⟨d0, d1⟩ (fun hHeld => ?_)
      refine take_slotN (i := 0) (d := 26) (v := .func (.func 50) #[] #[.pointer (some ⟨Bm, 0, none⟩)]) rfl rfl (by kernel_rfl) (by kernel_rfl) (by kernel_rfl) (Or.inl ⟨by rfl, ?_⟩) (by assumption) ?_
      · intro w hSw
        (try dsimp only at hSw)
        go_simp
      (try simp only [Act.put, List.setIfInBounds_toArray, List.set_cons_zero, List.set_cons_succ])
      refine take_slotN (i := 1) (d := 27) (v := .int .i64 (i : Int)) rfl rfl (by kernel_rfl) (by kernel_rfl) (by kernel_rfl) (Or.inl ⟨by rfl, ?_⟩) (by assumption) ?_
      · intro w hSw
        (try dsimp only at hSw)
        go_simp
      (try simp only [Act.put, List.setIfInBounds_toArray, List.set_cons_zero, List.set_cons_succ])
      refine take_slotN (i := 2) (d := 28) (v := .int .i64 (k : Int)) rfl rfl (by kernel_rfl) (by kernel_rfl) (by kernel_rfl) (Or.inl ⟨by rfl, ?_⟩) (by assumption) ?_
      · intro w hSw
        (try dsimp only at hSw)
        go_simp
      (try simp only [Act.put, List.setIfInBounds_toArray, List.set_cons_zero, List.set_cons_succ])
      refine take_slotN (i := 3) (d := 29) (v := .func (.func F) #[] caps) rfl rfl (by kernel_rfl) (by kernel_rfl) (by kernel_rfl) (Or.inl ⟨by rfl, ?_⟩) (by assumption) ?_
      · intro w hSw
        (try dsimp only at hSw)
        go_simp
      (try simp only [Act.put, List.setIfInBounds_toArray, List.set_cons_zero, List.set_cons_succ])
      refine take_slotN (i := 4) (d := 30) (v := .int .i64 (i : Int)) rfl rfl (by kernel_rfl) (by kernel_rfl) (by kernel_rfl) (Or.inl ⟨by rfl, ?_⟩) (by assumption) ?_
      · intro w hSw
        (try dsimp only at hSw)
        go_simp
      (try simp only [Act.put, List.setIfInBounds_toArray, List.set_cons_zero, List.set_cons_succ])
      refine take_slotN (i := 5) (d := 31) (v := .int .i64 (k : Int)) rfl rfl (by kernel_rfl) (by kernel_rfl) (by kernel_rfl) (Or.inl ⟨by rfl, ?_⟩) (by assumption) ?_
      · intro w hSw
        (try dsimp only at hSw)
        go_simp
      (try simp only [Act.put, List.setIfInBounds_toArray, List.set_cons_zero, List.set_cons_succ])
      refine wpAnyH_ready (rs := [6]) (by kernel_rfl) (by simp) ?_
      refine AllReadyH.cons rfl (fun K hK => ?_) AllReadyH.nil
      go_simp
      refine (unhide CD).mono ?_
      rintro e w3 ⟨rfl, j3, s3⟩
      have s3' : SF w.heap.size W w3 := s3
      have hS := (unhide HS).1
      obtain ⟨hl, hll⟩ := unhide HL
      have hb := (unhide HB).1
      have hw := (unhide HB).2
      have k0 : w3.cell? ⟨w2.heap.size, 0, none⟩ = some (.func (.func 50) #[] #[.pointer (some ⟨Bm, 0, none⟩)]) := Blk.cell (s3'.blk hS.2.2.2.2.2.1 hw) 0
      have k1 : w3.cell? ⟨w.heap.size + 1, 0, none⟩ = some (.func (.func F) #[] caps) := Blk.cell (s3'.blk hS.2.1 (by omega)) 0
      have bm3 := s3'.blk hS.2.2.2.1 (by omega)
      have own3 := s3'.own hS.2.2.2.2.1 (by omega)
      have hik := (unhide HI).1
      have hkn := (unhide HI).2
      have n12 := (unhide HN).2
      have ST := hide (symSet Bm Bl n n len cap2 i k (i * n + k) (k * n + i) z (pairsZ A g pre) n12 (by omega) (by omega) rfl rfl (by rw [hl]; exact place_in i k n n (by omega) hkn) (by rw [hl]; exact place_in k i n n hkn (by omega)) hll.2 w3 bm3 own3 hb.2.2.1)
      have JJ := hide (And.intro s3' j3)
      clear s3 s3' j3 hS hl hll hb hw bm3 own3 hik hkn n12 CD
      refine hK.out _ _ ⟨k0, k1⟩ (fun hHeld => ?_)
      clear hK K
      (try simp only [Act.put, List.setIfInBounds_toArray, List.set_cons_zero, List.set_cons_succ])
      refine wpAnyH_ready (rs := [7]) (by kernel_rfl) (by simp) ?_
      refine AllReadyH.cons rfl (fun K hK => ?_) AllReadyH.nil
      go_simp
      refine (unhide ST).mono ?_
      rintro e w4 ⟨rfl, ho, m4⟩
      have R : Hid (KeepsFrom W0.heap.size W w4 ∧ KpP (w2.heap.size + 1) W w4 ∧ MiS w.heap.size w2.heap.size Bl Bm #[.int .i64 n, .int .i64 n, .slice (some ⟨b, o, none⟩) len cap] (.func (.func F) #[] caps) n f len cap2 A g J (pre ++ [x]) w4) := by
        have P := MiS.set (unhide HJ) (unhide HB).1 (unhide HS).1 (unhide HS).2 (unhide JJ).1 (unhide JJ).2 (ho.congr (fun p _ => by have := unhide ZS p; rw [unhide EZ] at this; exact this)) m4
        show KeepsFrom _ _ _ ∧ _ ∧ _
        rw [unhide HW]
        exact ⟨P.2.1, P.2.2, P.1⟩
      have t0 : w4.cell? ⟨w2.heap.size, 0, none⟩ = some (.func (.func 50) #[] #[.pointer (some ⟨Bm, 0, none⟩)]) := Blk.cell (unhide R).2.2.2.2.2.2.2.1 0
      have t1 : w4.cell? ⟨w.heap.size + 1, 0, none⟩ = some (.func (.func F) #[] caps) := Blk.cell (unhide R).2.2.2.1 0
      refine hK.out _ _ ⟨t0, t1⟩ (fun hHeld => ?_)
      clear hK K
      (try simp only [Act.put, List.setIfInBounds_toArray, List.set_cons_zero, List.set_cons_succ])
      refine wpAnyH_done (by kernel_rfl) ?_ _
      exact unhide R
    case done =>
      rintro D ys W hD hall hS hDf
      obtain ⟨hl, hll⟩ := unhide HL
      obtain ⟨hb, hw⟩ := unhide HB
      obtain ⟨h1, h2, h3, h4, h5, h6, h7, h8, h9, h10, h11⟩ := hS
      have h5' : Own Bl len (pairZ2 A g (fun a b => a + f ≤ b) n) W := h5.congr (fun p hp => pairsZ_all A g ys hall p (by rw [← hl]; exact hp))
      have c0 : W.cell? ⟨Bm, 0, none⟩ = some (.int .i64 n) := Blk.cell h4 0
      have c1 : W.cell? ⟨Bm, 1, none⟩ = some (.int .i64 n) := Blk.cell h4 1
      have c2 : W.cell? ⟨Bm, 2, none⟩ = some (.slice (some ⟨Bl, 0, none⟩) len cap2) := Blk.cell h4 2
      have e0 : W.cell? ⟨w.heap.size + 1 + 1, 0, none⟩ = some (.int .i64 0) := Blk.cell h3 0
      have e1 : W.cell? ⟨w.heap.size + 1 + 1, 1, none⟩ = some (.int .i64 0) := Blk.cell h3 1
      have e2 : W.cell? ⟨w.heap.size + 1 + 1, 2, none⟩ = some (.slice none 0 0) := Blk.cell h3 2
      have ff := Blk.free h3
      have nm : w.heap.size + 1 + 1 ≠ Bm := by omega
      have HP := hide (And.intro h3 (And.intro h5' (And.intro h9 (And.intro h10 (And.intro hall h11)))))
      have HBB := hide (And.intro hb (And.intro hw (And.intro hD s5)))
      clear h1 h2 h3 h4 h5 h5' h6 h7 h8 h9 h10 h11 st0 hl hll hb hw hall hn hf b6 b7 s5 CC hD
      gi_wp2
      obtain ⟨h3, h5, h9, h10, hall, h11⟩ := unhide HP
      obtain ⟨hb, hw, hD, s5⟩ := unhide HBB
      have P := putM h3 (.int .i64 n) (.int .i64 n) (.slice (some ⟨Bl, 0, none⟩) len cap2)
      have own2 := h5.mk (Mk.of P.2) (by omega)
      have J2 := unhide HJ _ _ _ h9 (SB.mod (n := w.heap.size) P.2 (by omega) (by omega))
      have kD : (((W.setCell ⟨w.heap.size + 1 + 1, 0, none⟩ (.int .i64 n)).setCell ⟨w.heap.size + 1 + 1, 1, none⟩ (.int .i64 n)).setCell ⟨w.heap.size + 1 + 1, 2, none⟩ (.slice (some ⟨Bl, 0, none⟩) len cap2)).heap[D]? = some (.deferred (some [])) := (((KeepsOthers.setCell _ _ _).trans (KeepsOthers.setCell _ _ _)).trans (KeepsOthers.setCell _ _ _)).same D _ hDf rfl
      have hz := P.2.2.2.2.2
      generalize (((W.setCell ⟨w.heap.size + 1 + 1, 0, none⟩ (.int .i64 n)).setCell ⟨w.heap.size + 1 + 1, 1, none⟩ (.int .i64 n)).setCell ⟨w.heap.size + 1 + 1, 2, none⟩ (.slice (some ⟨Bl, 0, none⟩) len cap2)) = WW at *
      have gD := grownBy_putObj' WW D (.deferred none)
      have B2' := Blk.by P.1 gD (fun e => by cases e; omega)
      have own3 := own2.by gD (fun e => by cases e; omega)
      have J3 := unhide HJ _ _ _ J2 (SB.by gD (by omega) (fun k e => by cases e; omega))
      refine ⟨by simp, .inl ⟨_, _, rfl, run_takeDeferred kD, ?_⟩⟩
      have c0 : (WW.putObj D (.deferred none)).cell? ⟨w.heap.size + 1 + 1, 0, none⟩ = some (.int .i64 n) := Blk.cell B2' 0
      have c1 : (WW.putObj D (.deferred none)).cell? ⟨w.heap.size + 1 + 1, 1, none⟩ = some (.int .i64 n) := Blk.cell B2' 1
      have c2 : (WW.putObj D (.deferred none)).cell? ⟨w.heap.size + 1 + 1, 2, none⟩ = some (.slice (some ⟨Bl, 0, none⟩) len cap2) := Blk.cell B2' 2
      generalize WW.putObj D (.deferred none) = WP at *
      refine ⟨.agg #[.int .i64 n, .int .i64 n, .slice (some ⟨Bl, 0, none⟩) len cap2], by simp [results, Tryz.results27, go_sem, c0, c1, c2], ?_⟩
      exact ⟨Bl, cap2, by omega, (unhide K2).2.1, rfl, own3, ys, hall, h11, J3⟩
    case stop =>
      rintro D1 c pre W hD hpre h
      exact h.elim
end


end Go.Proofs.YtgahdjfkmpadoaaGreat

/- Package sym: mirrored by which a unit reckons; Even, Rank. -/
namespace Go.Proofs.YtgahdjfkmpadoaaGreat
open Go.RowKit Go.Shelf Go.Proofs.Wd
set_option linter.unusedVariables false
set_option linter.unusedSimpArgs false
set_option maxRecDepth 10000

/-- A matrix and an error that a call tells: new memory; its room may be more. -/
def SymP (r c : Int) (len : Nat) (Z : Nat → Int) (err : Int) (X : World → Prop) (w : World) (e : Ending) (w' : World) : Prop :=
  ∃ ao cap B, e = .returned (.tuple #[.agg #[.int .i64 r, .int .i64 c, .slice ao len cap], .int .i64 err]) ∧ len ≤ cap ∧ w.heap.size ≤ B ∧ (len = 0 ∨ (ao = some ⟨B, 0, none⟩ ∧ Own B len Z w')) ∧ X w'
/-- What becomes of a unit: between none and D operations more, its flag. -/
def UX (U : Nat) (c : Bool) (n0 D : Int) (w : World) (w' : World) : Prop := (∃ m, n0 ≤ m ∧ m ≤ n0 + D ∧ UC U c m w') ∧ Mk U w w'

theorem mirU (U : Nat) (c0 : Bool) (n0 : Int) (d : Int) (hd : 0 ≤ d ∧ d ≤ 10) (hn0 : 0 ≤ n0 ∧ n0 < 1152921504606846976) (G : Nat → Nat → Bool) (F : Nat) (eF : ∀ args w, (callFunc F args).run Tryz.prog w = .ok (.enter F args) w) (caps : Array Value) (n f len b o cap : Nat) (hn : 1 ≤ n ∧ n ≤ 12) (hf : f ≤ 1) (hl : len = n * n) (A : Nat → Int) (g : Nat → Nat → Int) (w : World) (hU : UC U c0 n0 w) (hz : ∀ i, i < len → w.cell? ⟨b, o + i, none⟩ = some (.int .i64 (A i)))
    (C : ∀ cc nn i k a, i < n → k < n → 0 ≤ nn ∧ nn < 1152921504606876976 → UC U cc nn a → Mk U w a → Calls Tryz.prog F (#[.int .i64 (i : Int), .int .i64 (k : Int)] ++ caps) a fun e b => e = .returned (.int .i64 (g i k)) ∧ UC U (cc || G i k) (nn + d) b ∧ Mk U a b) :
    Calls Tryz.prog 27 #[.agg #[.int .i64 n, .int .i64 n, .slice (some ⟨b, o, none⟩) len cap], .int .i64 (f : Int), .func (.func F) #[] caps] w fun e w' => MiP n len (pairZ2 A g (fun a b => a + f ≤ b) n) (UX U (c0 || orC (upC G f n) len) n0 (d * 144) w) w e w' := by
  have hlt := Blk.lt hU
  have h144 := mul12n n n hn hn
  have J0 : UC U (c0 || pairsC G ([] : List (PR n f))) (n0 + d * (([] : List (PR n f)).length : Int)) w ∧ Mk U w w := by
    refine ⟨?_, Mk.refl _ _⟩
    show UC U (c0 || false) (n0 + d * 0) w
    rw [Bool.or_false, Int.mul_zero, Int.add_zero]
    exact hU
  refine (symMirrored F eF caps n f len b o cap hn hf hl A g (fun ps a => UC U (c0 || pairsC G ps) (n0 + d * (ps.length : Int)) a ∧ Mk U w a) w hz (fun ps a b h s => ?_) (fun ps x a hp h => ?_) J0).mono ?_
  · exact ⟨(s.2.2.1 U hlt).trans h.1, s.1.trans h.2.1, s.2.1.trans h.2.2.1, fun i hi hu => (s.2.2.1 i hi).trans (h.2.2.2.1 i hi hu), Nat.le_trans h.2.2.2.2 s.2.2.2⟩
  · have hb : 0 ≤ d * (ps.length : Int) ∧ d * (ps.length : Int) ≤ 10 * 144 := ⟨Int.mul_nonneg hd.1 (by omega), Int.mul_le_mul hd.2 (by omega) (by omega) (by omega)⟩
    refine (C _ _ x.1.1 x.1.2 a (by have := x.2; omega) x.2.2 (by omega) h.1 h.2).mono ?_
    rintro e b ⟨he, hb, hm⟩
    refine ⟨he, ⟨?_, h.2.trans hm⟩, fun j hj1 hj2 => hm.2.2.1 j hj2 (by omega), hm.2.2.2⟩
    rw [pairsC_snoc, List.length_append, ← Bool.or_assoc, show n0 + d * ((ps.length + [x].length : Nat) : Int) = n0 + d * (ps.length : Int) + d by show n0 + d * ((ps.length + 1 : Nat) : Int) = _; rw [Int.natCast_add, Int.mul_add]; omega]
    exact hb
  · rintro e w' ⟨L, cap2, h1, h2, h3, h4, ys, hall, h11, h5, h6⟩
    rw [pairsC_all G ys hall, ← hl] at h5
    have hb : 0 ≤ d * (ys.length : Int) ∧ d * (ys.length : Int) ≤ d * 144 := ⟨Int.mul_nonneg hd.1 (by omega), Int.mul_le_mul_of_nonneg_left (by omega) hd.1⟩
    exact ⟨L, cap2, h1, h2, h3, h4, ⟨_, by omega, by omega, h5⟩, h6⟩


theorem sqM_of {n len : Nat} (hn : 1 ≤ n ∧ n ≤ 12) (hl : len = n * n) : sqM n n len n := ⟨⟨by omega, by omega, by rw [hl, Int.natCast_mul]⟩, rfl, rfl⟩
theorem refE_ok {R C n : Int} {len : Nat} (h : sqM R C len n) : refE R C len n = 0 := if_pos h
theorem refE_bad {R C n : Int} {len : Nat} (h : ¬ sqM R C len n) : refE R C len n = 3 := if_neg h

set_option maxRecDepth 20000 in
set_option maxHeartbeats 4000000 in
theorem symEven_ok (U : Nat) (c0 : Bool) (n0 : Int) (hn0 : 0 ≤ n0 ∧ n0 < 1152921504606846976) (n len cap b o : Nat) (A : Nat → Int) (hn : 1 ≤ n ∧ n ≤ 12) (hl : len = n * n) (hA : ∀ j, j < len → I64 (A j)) (w : World) (h : UC U c0 n0 w)
    (za : ∀ i, i < len → w.cell? ⟨b, o + i, none⟩ = some (.int .i64 (A i))) (ob : b ≠ U) :
    Calls Tryz.prog 10 #[.pointer (some ⟨U, 0, none⟩), .agg #[.int .i64 n, .int .i64 n, .slice (some ⟨b, o, none⟩) len cap]] w fun e w' => SymP n n len (evenZ A n) 0 (UX U (c0 || orC (upC (evC A n) 1 n) len) n0 144 w) w e w' := by
  have lU := Blk.lt h
  obtain ⟨G, s3, bu, bm, br⟩ := alloc3 w #[.pointer (some ⟨U, 0, none⟩)] 25 #[.int .i64 n, .int .i64 n, .slice (some ⟨b, o, none⟩) len cap] 24 #[.int .i64 0, .int .i64 0, .slice none 0 0] 24
  have RF := hide (symRefuse U c0 n0 ⟨hn0.1, by omega⟩ n n n (some ⟨b, o, none⟩) len cap _ (Blk.grown h G))
  rw [refE_ok (sqM_of hn hl)] at RF
  have MI : Hid (∀ w1, Mod U (((w.alloc (.cells #[.pointer (some ⟨U, 0, none⟩)] 25)).alloc (.cells #[.int .i64 n, .int .i64 n, .slice (some ⟨b, o, none⟩) len cap] 24)).alloc (.cells #[.int .i64 0, .int .i64 0, .slice none 0 0] 24)) w1 → UC U c0 n0 w1 → Calls Tryz.prog 27 #[.agg #[.int .i64 n, .int .i64 n, .slice (some ⟨b, o, none⟩) len cap], .int .i64 1, .func (.func 28) #[] #[.pointer (some ⟨w.heap.size, 0, none⟩), .pointer (some ⟨w.heap.size + 1, 0, none⟩)]] w1 fun e w' => MiP n len (pairZ2 A (evF A n) (fun a b => a + 1 ≤ b) n) (UX U (c0 || orC (upC (evC A n) 1 n) len) n0 144 w1) w1 e w') := by
    intro w1 m1 u1
    have cz : ∀ i, i < len → w1.cell? ⟨b, o + i, none⟩ = some (.int .i64 (A i)) := fun i hi => m1.cell (gat G (za i hi)) ob
    refine mirU U c0 n0 1 (by omega) hn0 (evC A n) 28 (enters_of Tryz.func28 (by kernel_rfl) rfl) #[.pointer (some ⟨w.heap.size, 0, none⟩), .pointer (some ⟨w.heap.size + 1, 0, none⟩)] n 1 len b o cap hn (by omega) hl A (evF A n) w1 u1 cz ?_
    intro cc nn i k a hi hk hnn hu hm
    exact symEven1 U w.heap.size (w.heap.size + 1) n len cap b o i k cc nn ⟨hnn.1, by omega⟩ A hn hl hi hk hA a hu (Blk.mk (Blk.keep bu m1 (by omega)) hm (by omega)) (Blk.mk (Blk.keep bm m1 (by omega)) hm (by omega)) (fun j hj => hm.cell (cz j hj) ob) (by omega) (by omega)
  have HB := hide (And.intro G (And.intro bu (And.intro bm (And.intro br (And.intro s3 lU)))))
  have EZ : Hid (∀ p, p < len → pairZ2 A (evF A n) (fun a b => a + 1 ≤ b) n p = evenZ A n p) := fun p _ => evenZ_of A n p
  generalize evC A n = GC at *
  generalize evF A n = GF at *
  generalize evenZ A n = GZ at *
  clear G s3 bu bm br h za ob hn0 hn hl hA lU
  go_enter Tryz.func10, Tryz.ntmps10
  go_wp2_with fail
  generalize (((w.alloc (.cells #[.pointer (some ⟨U, 0, none⟩)] 25)).alloc (.cells #[.int .i64 n, .int .i64 n, .slice (some ⟨b, o, none⟩) len cap] 24)).alloc (.cells #[.int .i64 0, .int .i64 0, .slice none 0 0] 24)) = w1 at *
  refine (unhide RF).mono ?_
  rintro e w2 ⟨rfl, u2, m2⟩
  have lU := (unhide HB).2.2.2.2.2
  have bm2 := Blk.keep (unhide HB).2.2.1 m2 (by omega)
  have x0 : w2.cell? ⟨w.heap.size + 1, 0, none⟩ = some (.int .i64 n) := Blk.cell bm2 0
  have x1 : w2.cell? ⟨w.heap.size + 1, 1, none⟩ = some (.int .i64 n) := Blk.cell bm2 1
  have x2 : w2.cell? ⟨w.heap.size + 1, 2, none⟩ = some (.slice (some ⟨b, o, none⟩) len cap) := Blk.cell bm2 2
  have MC := hide (unhide MI w2 m2 u2)
  have H2 := hide m2
  clear u2 m2 bm2 RF MI
  go_wp2_with fail
  refine (unhide MC).mono ?_
  rintro e w3 ⟨L, cap2, h1, h2, rfl, h4, h5, h6⟩
  have s2 := (unhide H2).2.2.2.2
  have s3 := (unhide HB).2.2.2.2.1
  have b3 := Blk.mk (Blk.keep (unhide HB).2.2.2.1 (unhide H2) (by omega)) h6 (by omega)
  have e0 : w3.cell? ⟨w.heap.size + 1 + 1, 0, none⟩ = some (.int .i64 0) := Blk.cell b3 0
  have e1 : w3.cell? ⟨w.heap.size + 1 + 1, 1, none⟩ = some (.int .i64 0) := Blk.cell b3 1
  have e2 : w3.cell? ⟨w.heap.size + 1 + 1, 2, none⟩ = some (.slice none 0 0) := Blk.cell b3 2
  have ff := Blk.free b3
  have R := hide (And.intro b3 (And.intro h1 (And.intro h2 (And.intro h4 (And.intro h5 h6)))))
  clear b3 h1 h2 h4 h5 h6 MC s2 s3 lU
  go_wp2
  obtain ⟨b3, h1, h2, h4, ⟨m, m1, m2, hu⟩, h6⟩ := unhide R
  obtain ⟨G, bu, bm, br, s3, lU⟩ := unhide HB
  have s2 := (unhide H2).2.2.2.2
  have P := putM b3 (.int .i64 n) (.int .i64 n) (.slice (some ⟨L, 0, none⟩) len cap2)
  generalize (((w3.setCell ⟨w.heap.size + 1 + 1, 0, none⟩ (.int .i64 n)).setCell ⟨w.heap.size + 1 + 1, 1, none⟩ (.int .i64 n)).setCell ⟨w.heap.size + 1 + 1, 2, none⟩ (.slice (some ⟨L, 0, none⟩) len cap2)) = wE at *
  have c0' : wE.cell? ⟨w.heap.size + 1 + 1, 0, none⟩ = some (.int .i64 n) := Blk.cell P.1 0
  have c1' : wE.cell? ⟨w.heap.size + 1 + 1, 1, none⟩ = some (.int .i64 n) := Blk.cell P.1 1
  have c2' : wE.cell? ⟨w.heap.size + 1 + 1, 2, none⟩ = some (.slice (some ⟨L, 0, none⟩) len cap2) := Blk.cell P.1 2
  refine bodyPost_ret (v := .tuple #[.agg #[.int .i64 n, .int .i64 n, .slice (some ⟨L, 0, none⟩) len cap2], .int .i64 0]) (by simp [results, Tryz.results10, go_sem, c0', c1', c2']) rfl ?_
  exact ⟨_, _, L, rfl, h2, by omega, Or.inr ⟨rfl, (h4.congr (fun p hp => unhide EZ p hp)).mk (Mk.of P.2) (by omega)⟩, ⟨m, m1, m2, Blk.keep hu P.2 (by omega)⟩, ((Mk.of (Mod.of G)).trans ((Mk.of (unhide H2)).trans h6)).new P.2 (by omega)⟩


set_option maxRecDepth 20000 in
set_option maxHeartbeats 2000000 in
theorem symEven_bad (U : Nat) (c0 : Bool) (n0 : Int) (hn0 : 0 ≤ n0 ∧ n0 < 1152921504606846976) (R1 C1 : Int) (a1 : Option Addr) (l1 p1 : Nat) (Z : Nat → Int) (hb : ¬ sqM R1 C1 l1 R1) (w : World) (h : UC U c0 n0 w) :
    Calls Tryz.prog 10 #[.pointer (some ⟨U, 0, none⟩), .agg #[.int .i64 R1, .int .i64 C1, .slice a1 l1 p1]] w fun e w' => SymP 0 0 0 Z 3 (fun w' => UC U c0 n0 w' ∧ Mk U w w') w e w' := by
  have lU := Blk.lt h
  obtain ⟨G, s3, bu, bm, br⟩ := alloc3 w #[.pointer (some ⟨U, 0, none⟩)] 25 #[.int .i64 R1, .int .i64 C1, .slice a1 l1 p1] 24 #[.int .i64 0, .int .i64 0, .slice none 0 0] 24
  have RF := hide (symRefuse U c0 n0 ⟨hn0.1, by omega⟩ R1 C1 R1 a1 l1 p1 _ (Blk.grown h G))
  rw [refE_bad hb] at RF
  have HB := hide (And.intro G (And.intro br (And.intro s3 lU)))
  have x0 := Blk.cell bm 0
  clear G s3 bu bm br h hb hn0 lU x0
  go_enter Tryz.func10, Tryz.ntmps10
  go_wp2_with fail
  generalize (((w.alloc (.cells #[.pointer (some ⟨U, 0, none⟩)] 25)).alloc (.cells #[.int .i64 R1, .int .i64 C1, .slice a1 l1 p1] 24)).alloc (.cells #[.int .i64 0, .int .i64 0, .slice none 0 0] 24)) = w1 at *
  refine (unhide RF).mono ?_
  rintro e w2 ⟨rfl, u2, m2⟩
  have lU := (unhide HB).2.2.2
  have b3 := Blk.keep (unhide HB).2.1 m2 (by omega)
  have e0 : w2.cell? ⟨w.heap.size + 1 + 1, 0, none⟩ = some (.int .i64 0) := Blk.cell b3 0
  have e1 : w2.cell? ⟨w.heap.size + 1 + 1, 1, none⟩ = some (.int .i64 0) := Blk.cell b3 1
  have e2 : w2.cell? ⟨w.heap.size + 1 + 1, 2, none⟩ = some (.slice none 0 0) := Blk.cell b3 2
  have ff := Blk.free b3
  have R := hide (And.intro b3 (And.intro u2 m2))
  clear b3 u2 m2 RF lU
  go_wp2
  obtain ⟨b3, u2, m2⟩ := unhide R
  obtain ⟨G, br, s3, lU⟩ := unhide HB
  have P := putM b3 (.int .i64 0) (.int .i64 0) (.slice none 0 0)
  generalize (((w2.setCell ⟨w.heap.size + 1 + 1, 0, none⟩ (.int .i64 0)).setCell ⟨w.heap.size + 1 + 1, 1, none⟩ (.int .i64 0)).setCell ⟨w.heap.size + 1 + 1, 2, none⟩ (.slice none 0 0)) = wE at *
  have c0' : wE.cell? ⟨w.heap.size + 1 + 1, 0, none⟩ = some (.int .i64 0) := Blk.cell P.1 0
  have c1' : wE.cell? ⟨w.heap.size + 1 + 1, 1, none⟩ = some (.int .i64 0) := Blk.cell P.1 1
  have c2' : wE.cell? ⟨w.heap.size + 1 + 1, 2, none⟩ = some (.slice none 0 0) := Blk.cell P.1 2
  refine bodyPost_ret (v := .tuple #[.agg #[.int .i64 0, .int .i64 0, .slice none 0 0], .int .i64 3]) (by simp [results, Tryz.results10, go_sem, c0', c1', c2']) rfl ?_
  exact ⟨none, 0, w.heap.size, rfl, Nat.le_refl _, Nat.le_refl _, Or.inl rfl, Blk.keep u2 P.2 (by omega), ((Mk.of (Mod.of G)).trans (Mk.of m2)).new P.2 (by omega)⟩


set_option maxRecDepth 20000 in
set_option maxHeartbeats 2000000 in
theorem symEven_none (p : Option Addr) (R1 C1 : Int) (a1 : Option Addr) (l1 p1 : Nat) (Z : Nat → Int) (w : World) (h : NU p w) :
    Calls Tryz.prog 10 #[.pointer p, .agg #[.int .i64 R1, .int .i64 C1, .slice a1 l1 p1]] w fun e w' => SymP 0 0 0 Z 1 (Kp w) w e w' := by
  obtain ⟨G, s3, bu, bm, br⟩ := alloc3 w #[.pointer p] 25 #[.int .i64 R1, .int .i64 C1, .slice a1 l1 p1] 24 #[.int .i64 0, .int .i64 0, .slice none 0 0] 24
  have RF := hide (symRefuse_none p R1 C1 R1 a1 l1 p1 _ (h.grown G))
  have HB := hide (And.intro G br)
  clear G s3 bu bm br h
  go_enter Tryz.func10, Tryz.ntmps10
  go_wp2_with fail
  generalize (((w.alloc (.cells #[.pointer p] 25)).alloc (.cells #[.int .i64 R1, .int .i64 C1, .slice a1 l1 p1] 24)).alloc (.cells #[.int .i64 0, .int .i64 0, .slice none 0 0] 24)) = w1 at *
  refine (unhide RF).mono ?_
  rintro e w2 ⟨rfl, m2⟩
  have b3 := Blk.grown (unhide HB).2 m2
  have e0 : w2.cell? ⟨w.heap.size + 1 + 1, 0, none⟩ = some (.int .i64 0) := Blk.cell b3 0
  have e1 : w2.cell? ⟨w.heap.size + 1 + 1, 1, none⟩ = some (.int .i64 0) := Blk.cell b3 1
  have e2 : w2.cell? ⟨w.heap.size + 1 + 1, 2, none⟩ = some (.slice none 0 0) := Blk.cell b3 2
  have ff := Blk.free b3
  have R := hide (And.intro b3 m2)
  clear b3 m2 RF
  go_wp2
  obtain ⟨b3, m2⟩ := unhide R
  obtain ⟨G, br⟩ := unhide HB
  have P := putM b3 (.int .i64 0) (.int .i64 0) (.slice none 0 0)
  generalize (((w2.setCell ⟨w.heap.size + 1 + 1, 0, none⟩ (.int .i64 0)).setCell ⟨w.heap.size + 1 + 1, 1, none⟩ (.int .i64 0)).setCell ⟨w.heap.size + 1 + 1, 2, none⟩ (.slice none 0 0)) = wE at *
  have c0' : wE.cell? ⟨w.heap.size + 1 + 1, 0, none⟩ = some (.int .i64 0) := Blk.cell P.1 0
  have c1' : wE.cell? ⟨w.heap.size + 1 + 1, 1, none⟩ = some (.int .i64 0) := Blk.cell P.1 1
  have c2' : wE.cell? ⟨w.heap.size + 1 + 1, 2, none⟩ = some (.slice none 0 0) := Blk.cell P.1 2
  refine bodyPost_ret (v := .tuple #[.agg #[.int .i64 0, .int .i64 0, .slice none 0 0], .int .i64 1]) (by simp [results, Tryz.results10, go_sem, c0', c1', c2']) rfl ?_
  exact ⟨none, 0, w.heap.size, rfl, Nat.le_refl _, Nat.le_refl _, Or.inl rfl, ((Kp.of G).grown m2).mod P.2 (by omega)⟩


set_option maxRecDepth 20000 in
set_option maxHeartbeats 4000000 in
theorem symRank_ok (U : Nat) (c0 : Bool) (n0 : Int) (hn0 : 0 ≤ n0 ∧ n0 < 1152921504606846976) (n len cap b o : Nat) (A : Nat → Int) (hn : 1 ≤ n ∧ n ≤ 12) (hl : len = n * n) (hA : ∀ j, j < len → I64 (A j)) (w : World) (h : UC U c0 n0 w)
    (za : ∀ i, i < len → w.cell? ⟨b, o + i, none⟩ = some (.int .i64 (A i))) (ob : b ≠ U) (kb ko kc : Nat) (K0 : Nat → Int) (s : Int) (hs : I64 s) (hK0 : ∀ j, j < n → I64 (K0 j)) (zk : ∀ i, i < n → w.cell? ⟨kb, ko + i, none⟩ = some (.int .i64 (K0 i))) (okb : kb ≠ U) :
    Calls Tryz.prog 15 #[.pointer (some ⟨U, 0, none⟩), .agg #[.int .i64 n, .int .i64 n, .slice (some ⟨b, o, none⟩) len cap], .slice (some ⟨kb, ko, none⟩) n kc, .int .i64 s] w fun e w' => SymP n n len (rankZ A K0 s n) 0 (UX U (c0 || orC (upC (rkC A K0 s n) 0 n) len) n0 864 w) w e w' := by
  have lU := Blk.lt h
  obtain ⟨G, s3, bu, bm, bk, bs, br⟩ := alloc5 w #[.pointer (some ⟨U, 0, none⟩)] 25 #[.int .i64 n, .int .i64 n, .slice (some ⟨b, o, none⟩) len cap] 24 #[.slice (some ⟨kb, ko, none⟩) n kc] 22 #[.int .i64 s] 3 #[.int .i64 0, .int .i64 0, .slice none 0 0] 24
  have RF := hide (symRefuse U c0 n0 ⟨hn0.1, by omega⟩ n n n (some ⟨b, o, none⟩) len cap _ (Blk.grown h G))
  rw [refE_ok (sqM_of hn hl)] at RF
  have MI : Hid (∀ w1, Mod U (((((w.alloc (.cells #[.pointer (some ⟨U, 0, none⟩)] 25)).alloc (.cells #[.int .i64 n, .int .i64 n, .slice (some ⟨b, o, none⟩) len cap] 24)).alloc (.cells #[.slice (some ⟨kb, ko, none⟩) n kc] 22)).alloc (.cells #[.int .i64 s] 3)).alloc (.cells #[.int .i64 0, .int .i64 0, .slice none 0 0] 24)) w1 → UC U c0 n0 w1 → Calls Tryz.prog 27 #[.agg #[.int .i64 n, .int .i64 n, .slice (some ⟨b, o, none⟩) len cap], .int .i64 0, .func (.func 41) #[] #[.pointer (some ⟨w.heap.size, 0, none⟩), .pointer (some ⟨w.heap.size + 1, 0, none⟩), .pointer (some ⟨w.heap.size + 1 + 1 + 1, 0, none⟩), .pointer (some ⟨w.heap.size + 1 + 1, 0, none⟩)]] w1 fun e w' => MiP n len (pairZ2 A (rkF A K0 s n) (fun a b => a + 0 ≤ b) n) (UX U (c0 || orC (upC (rkC A K0 s n) 0 n) len) n0 864 w1) w1 e w') := by
    intro w1 m1 u1
    have cz : ∀ i, i < len → w1.cell? ⟨b, o + i, none⟩ = some (.int .i64 (A i)) := fun i hi => m1.cell (gat G (za i hi)) ob
    refine mirU U c0 n0 6 (by omega) hn0 (rkC A K0 s n) 41 (enters_of Tryz.func41 (by kernel_rfl) rfl) #[.pointer (some ⟨w.heap.size, 0, none⟩), .pointer (some ⟨w.heap.size + 1, 0, none⟩), .pointer (some ⟨w.heap.size + 1 + 1 + 1, 0, none⟩), .pointer (some ⟨w.heap.size + 1 + 1, 0, none⟩)] n 0 len b o cap hn (by omega) hl A (rkF A K0 s n) w1 u1 cz ?_
    intro cc nn i k a hi hk hnn hu hm
    exact symRank1 U w.heap.size (w.heap.size + 1) (w.heap.size + 1 + 1 + 1) (w.heap.size + 1 + 1) n len cap b o kb ko kc i k cc nn s hs hnn A K0 hn hl hi hk hA hK0 a hu (Blk.mk (Blk.keep bu m1 (by omega)) hm (by omega)) (Blk.mk (Blk.keep bm m1 (by omega)) hm (by omega)) (Blk.mk (Blk.keep bs m1 (by omega)) hm (by omega)) (Blk.mk (Blk.keep bk m1 (by omega)) hm (by omega)) (fun j hj => hm.cell (cz j hj) ob) (fun j hj => hm.cell (m1.cell (gat G (zk j hj)) okb) okb) (by omega) (by omega) (by omega) (by omega) ob okb
  have HB := hide (And.intro G (And.intro bu (And.intro bm (And.intro br (And.intro s3 lU)))))
  have EZ : Hid (∀ p, p < len → pairZ2 A (rkF A K0 s n) (fun a b => a + 0 ≤ b) n p = rankZ A K0 s n p) := fun p _ => rankZ_of A K0 s n p
  generalize rkC A K0 s n = GC at *
  generalize rkF A K0 s n = GF at *
  generalize rankZ A K0 s n = GZ at *
  clear G s3 bu bm bk bs br h za ob hn0 hn hl hA lU zk okb hK0 hs
  go_enter Tryz.func15, Tryz.ntmps15
  go_wp2_with fail
  generalize (((((w.alloc (.cells #[.pointer (some ⟨U, 0, none⟩)] 25)).alloc (.cells #[.int .i64 n, .int .i64 n, .slice (some ⟨b, o, none⟩) len cap] 24)).alloc (.cells #[.slice (some ⟨kb, ko, none⟩) n kc] 22)).alloc (.cells #[.int .i64 s] 3)).alloc (.cells #[.int .i64 0, .int .i64 0, .slice none 0 0] 24)) = w1 at *
  refine (unhide RF).mono ?_
  rintro e w2 ⟨rfl, u2, m2⟩
  have lU := (unhide HB).2.2.2.2.2
  have bm2 := Blk.keep (unhide HB).2.2.1 m2 (by omega)
  have x0 : w2.cell? ⟨w.heap.size + 1, 0, none⟩ = some (.int .i64 n) := Blk.cell bm2 0
  have x1 : w2.cell? ⟨w.heap.size + 1, 1, none⟩ = some (.int .i64 n) := Blk.cell bm2 1
  have x2 : w2.cell? ⟨w.heap.size + 1, 2, none⟩ = some (.slice (some ⟨b, o, none⟩) len cap) := Blk.cell bm2 2
  have MC := hide (unhide MI w2 m2 u2)
  have H2 := hide m2
  clear u2 m2 bm2 RF MI
  go_wp2_with fail
  refine (unhide MC).mono ?_
  rintro e w3 ⟨L, cap2, h1, h2, rfl, h4, h5, h6⟩
  have s2 := (unhide H2).2.2.2.2
  have s3 := (unhide HB).2.2.2.2.1
  have b3 := Blk.mk (Blk.keep (unhide HB).2.2.2.1 (unhide H2) (by omega)) h6 (by omega)
  have e0 : w3.cell? ⟨w.heap.size + 1 + 1 + 1 + 1, 0, none⟩ = some (.int .i64 0) := Blk.cell b3 0
  have e1 : w3.cell? ⟨w.heap.size + 1 + 1 + 1 + 1, 1, none⟩ = some (.int .i64 0) := Blk.cell b3 1
  have e2 : w3.cell? ⟨w.heap.size + 1 + 1 + 1 + 1, 2, none⟩ = some (.slice none 0 0) := Blk.cell b3 2
  have ff := Blk.free b3
  have R := hide (And.intro b3 (And.intro h1 (And.intro h2 (And.intro h4 (And.intro h5 h6)))))
  clear b3 h1 h2 h4 h5 h6 MC s2 s3 lU
  go_wp2
  obtain ⟨b3, h1, h2, h4, ⟨m, m1, m2, hu⟩, h6⟩ := unhide R
  obtain ⟨G, bu, bm, br, s3, lU⟩ := unhide HB
  have s2 := (unhide H2).2.2.2.2
  have P := putM b3 (.int .i64 n) (.int .i64 n) (.slice (some ⟨L, 0, none⟩) len cap2)
  generalize (((w3.setCell ⟨w.heap.size + 1 + 1 + 1 + 1, 0, none⟩ (.int .i64 n)).setCell ⟨w.heap.size + 1 + 1 + 1 + 1, 1, none⟩ (.int .i64 n)).setCell ⟨w.heap.size + 1 + 1 + 1 + 1, 2, none⟩ (.slice (some ⟨L, 0, none⟩) len cap2)) = wE at *
  have c0' : wE.cell? ⟨w.heap.size + 1 + 1 + 1 + 1, 0, none⟩ = some (.int .i64 n) := Blk.cell P.1 0
  have c1' : wE.cell? ⟨w.heap.size + 1 + 1 + 1 + 1, 1, none⟩ = some (.int .i64 n) := Blk.cell P.1 1
  have c2' : wE.cell? ⟨w.heap.size + 1 + 1 + 1 + 1, 2, none⟩ = some (.slice (some ⟨L, 0, none⟩) len cap2) := Blk.cell P.1 2
  refine bodyPost_ret (v := .tuple #[.agg #[.int .i64 n, .int .i64 n, .slice (some ⟨L, 0, none⟩) len cap2], .int .i64 0]) (by simp [results, Tryz.results15, go_sem, c0', c1', c2']) rfl ?_
  exact ⟨_, _, L, rfl, h2, by omega, Or.inr ⟨rfl, (h4.congr (fun p hp => unhide EZ p hp)).mk (Mk.of P.2) (by omega)⟩, ⟨m, m1, m2, Blk.keep hu P.2 (by omega)⟩, ((Mk.of (Mod.of G)).trans ((Mk.of (unhide H2)).trans h6)).new P.2 (by omega)⟩


set_option maxRecDepth 20000 in
set_option maxHeartbeats 2000000 in
theorem symRank_bad (U : Nat) (c0 : Bool) (n0 : Int) (hn0 : 0 ≤ n0 ∧ n0 < 1152921504606846976) (R1 C1 : Int) (a1 : Option Addr) (l1 p1 : Nat) (xo : Option Addr) (xl xc : Nat) (s : Int) (Z : Nat → Int) (hb : ¬ sqM R1 C1 l1 xl) (w : World) (h : UC U c0 n0 w) :
    Calls Tryz.prog 15 #[.pointer (some ⟨U, 0, none⟩), .agg #[.int .i64 R1, .int .i64 C1, .slice a1 l1 p1], .slice xo xl xc, .int .i64 s] w fun e w' => SymP 0 0 0 Z 3 (fun w' => UC U c0 n0 w' ∧ Mk U w w') w e w' := by
  have lU := Blk.lt h
  obtain ⟨G, s3, bu, bm, bx0, bx1, br⟩ := alloc5 w #[.pointer (some ⟨U, 0, none⟩)] 25 #[.int .i64 R1, .int .i64 C1, .slice a1 l1 p1] 24 #[.slice xo xl xc] 22 #[.int .i64 s] 3 #[.int .i64 0, .int .i64 0, .slice none 0 0] 24
  have RF := hide (symRefuse U c0 n0 ⟨hn0.1, by omega⟩ R1 C1 xl a1 l1 p1 _ (Blk.grown h G))
  rw [refE_bad hb] at RF
  have HB := hide (And.intro G (And.intro br (And.intro s3 lU)))
  have x0 := Blk.cell bm 0
  clear G s3 bu bm br h hb hn0 lU bx0 bx1 x0
  go_enter Tryz.func15, Tryz.ntmps15
  go_wp2_with fail
  generalize (((((w.alloc (.cells #[.pointer (some ⟨U, 0, none⟩)] 25)).alloc (.cells #[.int .i64 R1, .int .i64 C1, .slice a1 l1 p1] 24)).alloc (.cells #[.slice xo xl xc] 22)).alloc (.cells #[.int .i64 s] 3)).alloc (.cells #[.int .i64 0, .int .i64 0, .slice none 0 0] 24)) = w1 at *
  refine (unhide RF).mono ?_
  rintro e w2 ⟨rfl, u2, m2⟩
  have lU := (unhide HB).2.2.2
  have b3 := Blk.keep (unhide HB).2.1 m2 (by omega)
  have e0 : w2.cell? ⟨w.heap.size + 1 + 1 + 1 + 1, 0, none⟩ = some (.int .i64 0) := Blk.cell b3 0
  have e1 : w2.cell? ⟨w.heap.size + 1 + 1 + 1 + 1, 1, none⟩ = some (.int .i64 0) := Blk.cell b3 1
  have e2 : w2.cell? ⟨w.heap.size + 1 + 1 + 1 + 1, 2, none⟩ = some (.slice none 0 0) := Blk.cell b3 2
  have ff := Blk.free b3
  have R := hide (And.intro b3 (And.intro u2 m2))
  clear b3 u2 m2 RF lU
  go_wp2
  obtain ⟨b3, u2, m2⟩ := unhide R
  obtain ⟨G, br, s3, lU⟩ := unhide HB
  have P := putM b3 (.int .i64 0) (.int .i64 0) (.slice none 0 0)
  generalize (((w2.setCell ⟨w.heap.size + 1 + 1 + 1 + 1, 0, none⟩ (.int .i64 0)).setCell ⟨w.heap.size + 1 + 1 + 1 + 1, 1, none⟩ (.int .i64 0)).setCell ⟨w.heap.size + 1 + 1 + 1 + 1, 2, none⟩ (.slice none 0 0)) = wE at *
  have c0' : wE.cell? ⟨w.heap.size + 1 + 1 + 1 + 1, 0, none⟩ = some (.int .i64 0) := Blk.cell P.1 0
  have c1' : wE.cell? ⟨w.heap.size + 1 + 1 + 1 + 1, 1, none⟩ = some (.int .i64 0) := Blk.cell P.1 1
  have c2' : wE.cell? ⟨w.heap.size + 1 + 1 + 1 + 1, 2, none⟩ = some (.slice none 0 0) := Blk.cell P.1 2
  refine bodyPost_ret (v := .tuple #[.agg #[.int .i64 0, .int .i64 0, .slice none 0 0], .int .i64 3]) (by simp [results, Tryz.results15, go_sem, c0', c1', c2']) rfl ?_
  exact ⟨none, 0, w.heap.size, rfl, Nat.le_refl _, Nat.le_refl _, Or.inl rfl, Blk.keep u2 P.2 (by omega), ((Mk.of (Mod.of G)).trans (Mk.of m2)).new P.2 (by omega)⟩


set_option maxRecDepth 20000 in
set_option maxHeartbeats 2000000 in
theorem symRank_none (p : Option Addr) (R1 C1 : Int) (a1 : Option Addr) (l1 p1 : Nat) (xo : Option Addr) (xl xc : Nat) (s : Int) (Z : Nat → Int) (w : World) (h : NU p w) :
    Calls Tryz.prog 15 #[.pointer p, .agg #[.int .i64 R1, .int .i64 C1, .slice a1 l1 p1], .slice xo xl xc, .int .i64 s] w fun e w' => SymP 0 0 0 Z 1 (Kp w) w e w' := by
  obtain ⟨G, s3, bu, bm, bx0, bx1, br⟩ := alloc5 w #[.pointer p] 25 #[.int .i64 R1, .int .i64 C1, .slice a1 l1 p1] 24 #[.slice xo xl xc] 22 #[.int .i64 s] 3 #[.int .i64 0, .int .i64 0, .slice none 0 0] 24
  have RF := hide (symRefuse_none p R1 C1 xl a1 l1 p1 _ (h.grown G))
  have HB := hide (And.intro G br)
  clear G s3 bu bm br h bx0 bx1
  go_enter Tryz.func15, Tryz.ntmps15
  go_wp2_with fail
  generalize (((((w.alloc (.cells #[.pointer p] 25)).alloc (.cells #[.int .i64 R1, .int .i64 C1, .slice a1 l1 p1] 24)).alloc (.cells #[.slice xo xl xc] 22)).alloc (.cells #[.int .i64 s] 3)).alloc (.cells #[.int .i64 0, .int .i64 0, .slice none 0 0] 24)) = w1 at *
  refine (unhide RF).mono ?_
  rintro e w2 ⟨rfl, m2⟩
  have b3 := Blk.grown (unhide HB).2 m2
  have e0 : w2.cell? ⟨w.heap.size + 1 + 1 + 1 + 1, 0, none⟩ = some (.int .i64 0) := Blk.cell b3 0
  have e1 : w2.cell? ⟨w.heap.size + 1 + 1 + 1 + 1, 1, none⟩ = some (.int .i64 0) := Blk.cell b3 1
  have e2 : w2.cell? ⟨w.heap.size + 1 + 1 + 1 + 1, 2, none⟩ = some (.slice none 0 0) := Blk.cell b3 2
  have ff := Blk.free b3
  have R := hide (And.intro b3 m2)
  clear b3 m2 RF
  go_wp2
  obtain ⟨b3, m2⟩ := unhide R
  obtain ⟨G, br⟩ := unhide HB
  have P := putM b3 (.int .i64 0) (.int .i64 0) (.slice none 0 0)
  generalize (((w2.setCell ⟨w.heap.size + 1 + 1 + 1 + 1, 0, none⟩ (.int .i64 0)).setCell ⟨w.heap.size + 1 + 1 + 1 + 1, 1, none⟩ (.int .i64 0)).setCell ⟨w.heap.size + 1 + 1 + 1 + 1, 2, none⟩ (.slice none 0 0)) = wE at *
  have c0' : wE.cell? ⟨w.heap.size + 1 + 1 + 1 + 1, 0, none⟩ = some (.int .i64 0) := Blk.cell P.1 0
  have c1' : wE.cell? ⟨w.heap.size + 1 + 1 + 1 + 1, 1, none⟩ = some (.int .i64 0) := Blk.cell P.1 1
  have c2' : wE.cell? ⟨w.heap.size + 1 + 1 + 1 + 1, 2, none⟩ = some (.slice none 0 0) := Blk.cell P.1 2
  refine bodyPost_ret (v := .tuple #[.agg #[.int .i64 0, .int .i64 0, .slice none 0 0], .int .i64 1]) (by simp [results, Tryz.results15, go_sem, c0', c1', c2']) rfl ?_
  exact ⟨none, 0, w.heap.size, rfl, Nat.le_refl _, Nat.le_refl _, Or.inl rfl, ((Kp.of G).grown m2).mod P.2 (by omega)⟩


end Go.Proofs.YtgahdjfkmpadoaaGreat

/- Package sym: Trace. -/
namespace Go.Proofs.YtgahdjfkmpadoaaGreat
open Go.RowKit Go.Shelf Go.Proofs.Wd
set_option linter.unusedVariables false
set_option linter.unusedSimpArgs false
set_option maxRecDepth 10000

/-- A diagonal that is gathered: the first k numbers stand. -/
def TrI (w : World) (U : Nat) (c0 : Bool) (n0 : Int) (box : Array Value) (n L : Nat) (Y : Nat → Int) (k : Nat) (wr : World) : Prop :=
  Blk w.heap.size box 24 wr ∧ Blk L (ints n (soFar Y (List.range k))) 3 wr ∧ UC U c0 n0 wr ∧ Mk U w wr ∧ U < w.heap.size ∧ w.heap.size < L
theorem ints_zero (n : Nat) (Y : Nat → Int) : ints n (soFar Y (List.range 0)) = ints n (fun _ => 0) := ints_congr _ _ _ fun i _ => by simp [soFar]

set_option maxRecDepth 20000 in
set_option maxHeartbeats 4000000 in
theorem symTrace_ok (U : Nat) (c0 : Bool) (n0 : Int) (hn0 : 0 ≤ n0 ∧ n0 < 1152921504606846976) (n len cap b o : Nat) (A : Nat → Int) (hn : 1 ≤ n ∧ n ≤ 12) (hl : len = n * n) (hA : ∀ j, j < len → I64 (A j)) (w : World) (h : UC U c0 n0 w)
    (za : ∀ i, i < len → w.cell? ⟨b, o + i, none⟩ = some (.int .i64 (A i))) (ob : b ≠ U) :
    Calls Tryz.prog 17 #[.pointer (some ⟨U, 0, none⟩), .agg #[.int .i64 n, .int .i64 n, .slice (some ⟨b, o, none⟩) len cap]] w fun e w' => e = .returned (.tuple #[.int .i64 (thN addN 0 (dgL A n) n), .int .i64 0]) ∧ UX U (c0 || thC addN addC 0 (dgL A n) n) n0 144 w w' := by
  have lU := Blk.lt h
  have G : Grown w (w.alloc (.cells #[.int .i64 n, .int .i64 n, .slice (some ⟨b, o, none⟩) len cap] 24)) := (Grown.refl _).alloc _ _
  have RF := hide (symRefuse U c0 n0 ⟨hn0.1, by omega⟩ n n n (some ⟨b, o, none⟩) len cap _ (Blk.grown h G))
  rw [refE_ok (sqM_of hn hl)] at RF
  have HB := hide (And.intro G (And.intro (Blk.new w #[.int .i64 n, .int .i64 n, .slice (some ⟨b, o, none⟩) len cap] 24) lU))
  obtain ⟨Y, hY⟩ : ∃ Y, dgL A n = Y := ⟨_, rfl⟩
  have AT : Hid (∀ i, i < n → ∀ wx, Mk U w wx → Calls Tryz.prog 30 #[.agg #[.int .i64 n, .int .i64 n, .slice (some ⟨b, o, none⟩) len cap], .int .i64 i, .int .i64 i] wx fun e w' => e = .returned (.int .i64 (Y i)) ∧ w' = wx.alloc (.cells #[.int .i64 n, .int .i64 n, .slice (some ⟨b, o, none⟩) len cap] 24)) := by
    intro i hi wx mk
    have hp := place_in i i n n hi hi
    have := symAt n n i i b o cap A hn hn hi hi wx (mk.cell (za _ (by rw [hl]; exact hp)) ob)
    rw [← hl] at this
    rw [← hY]
    exact this
  have IY : Hid (∀ i, i < n → I64 (Y i)) := by
    intro i hi
    rw [← hY]
    exact hA _ (by rw [hl]; exact place_in i i n n hi hi)
  rw [hY]
  have MK := make_ints n (by omega)
  have HN := hide (And.intro hn hn0)
  clear hY G h za ob hn0 hn hl hA lU
  go_enter Tryz.func17, Tryz.ntmps17
  go_wp2_with fail
  generalize w.alloc (.cells #[.int .i64 n, .int .i64 n, .slice (some ⟨b, o, none⟩) len cap] 24) = w1 at *
  refine (unhide RF).mono ?_
  rintro e w2 ⟨rfl, u2, m2⟩
  have lU := (unhide HB).2.2
  have bm2 := Blk.keep (unhide HB).2.1 m2 (by omega)
  have x0 : w2.cell? ⟨w.heap.size, 0, none⟩ = some (.int .i64 n) := Blk.cell bm2 0
  have g0 : w.heap.size < w2.heap.size := heap_gt x0
  obtain ⟨L, hL⟩ : ∃ L, w2.heap.size = L := ⟨_, rfl⟩
  have ST : Hid (TrI w U c0 n0 #[.int .i64 n, .int .i64 n, .slice (some ⟨b, o, none⟩) len cap] n L Y 0 (w2.alloc (.cells (ints n (fun _ => 0)) 3))) := by
    have gz : Grown w2 (w2.alloc (.cells (ints n (fun _ => 0)) 3)) := (Grown.refl _).alloc _ _
    refine ⟨Blk.grown bm2 gz, ?_, Blk.grown u2 gz, ((Mk.of (Mod.of (unhide HB).1)).trans (Mk.of m2)).grown gz, lU, by omega⟩
    rw [ints_zero, ← hL]
    exact Blk.new w2 _ _
  clear u2 m2 bm2 RF lU
  go_wp2_with fail
  skip
  clear MK x0 g0
  generalize w2.alloc (.cells (ints n (fun _ => 0)) 3) = w3 at *
  clear hL
  go_loopw [22] (fun t wr => ∃ k : Nat, k ≤ n ∧ t = .int .i64 k ∧ Hid (TrI w U c0 n0 #[.int .i64 n, .int .i64 n, .slice (some ⟨b, o, none⟩) len cap] n L Y k wr)) (fun t _ => n - (intOf t).toNat)
  case atStart => exact ⟨0, Nat.zero_le _, rfl, unhide ST⟩
  case round =>
    obtain ⟨k, hkn, rfl, HI⟩ := hrel
    clear ST
    by_cases hlt : k < n
    · have y0 : wr.cell? ⟨w.heap.size, 0, none⟩ = some (.int .i64 n) := Blk.cell (unhide HI).1 0
      have y1 : wr.cell? ⟨w.heap.size, 1, none⟩ = some (.int .i64 n) := Blk.cell (unhide HI).1 1
      have y2 : wr.cell? ⟨w.heap.size, 2, none⟩ = some (.slice (some ⟨b, o, none⟩) len cap) := Blk.cell (unhide HI).1 2
      have i0 : (0 : Int) ≤ (k : Int) := by omega
      have i1 : (k : Int) < (n : Int) := by omega
      have CC := hide (unhide AT k hlt wr (unhide HI).2.2.2.1)
      have B1 : Hid (k + 1 ≤ n) := hlt
      have k6 : k ≤ 12 := by have := (unhide HN).1; omega
      clear hkn
      go_wp2_with fail
      refine (unhide CC).mono ?_
      rintro e w4 ⟨rfl, hw4⟩
      have gz : Grown wr w4 := by rw [hw4]; exact (Grown.refl _).alloc _ _
      have bL := Blk.grown (unhide HI).2.1 gz
      have f1 : w4.cell? ⟨L, k, none⟩ = some (.int .i64 (soFar Y (List.range k) k)) := by rw [Blk.cell bL, ints_at n _ _ hlt]
      have f2 := Blk.free bL k
      have R : Hid (TrI w U c0 n0 #[.int .i64 n, .int .i64 n, .slice (some ⟨b, o, none⟩) len cap] n L Y (k + 1) (w4.setCell ⟨L, k, none⟩ (.int .i64 (Y k)))) := by
        obtain ⟨h1, h2, h3, h4, h5, h6⟩ := unhide HI
        have q : Mod L w4 (w4.setCell ⟨L, k, none⟩ (.int .i64 (Y k))) := (Mod.refl _ _).setCell _ _
        refine ⟨Blk.keep (Blk.grown h1 gz) q (by omega), ?_, Blk.keep (Blk.grown h3 gz) q (by omega), (h4.grown gz).new q (by omega), h5, h6⟩
        have := Blk.setI bL k (Y k)
        rw [soFar_snoc, ← List.range_succ] at this
        exact this
      generalize soFar Y (List.range k) k = old at f1
      generalize Y k = yk at *
      clear CC bL gz hw4 HI y0 y1 y2
      go_wp2
      go_roundw
      case rel => exact ⟨k + 1, unhide B1, by go_num, R⟩
      case measure => simp [intOf]; have := unhide B1; omega
    · obtain rfl : k = n := by omega
      have AD := hide (unitAdd U c0 n0 (some ⟨L, 0, none⟩) k k Y (by have := (unhide HN).2; omega) (by have := (unhide HN).1; omega) (unhide IY) wr (unhide HI).2.2.1 (by
        have h2 := (unhide HI).2.1
        rw [soFar_all] at h2
        exact h2.row) (off_blk (by have := (unhide HI).2.2.2.2; omega)))
      have MM := hide (unhide HI).2.2.2.1
      clear HI
      go_wp2_with fail
      refine (unhide AD).mono ?_
      rintro e w4 ⟨rfl, u4, m4⟩
      have R : Hid (UX U (c0 || thC addN addC 0 Y k) n0 144 w w4) := ⟨⟨_, by omega, by have := (unhide HN).1; omega, u4⟩, (unhide MM).trans (Mk.of m4)⟩
      clear u4 m4 AD
      go_wp2
      go_ret2
      exact ⟨rfl, unhide R⟩

set_option maxHeartbeats 2000000 in
theorem symTrace_bad (U : Nat) (c0 : Bool) (n0 : Int) (hn0 : 0 ≤ n0 ∧ n0 < 1152921504606846976) (R1 C1 : Int) (a1 : Option Addr) (l1 p1 : Nat) (hb : ¬ sqM R1 C1 l1 R1) (w : World) (h : UC U c0 n0 w) :
    Calls Tryz.prog 17 #[.pointer (some ⟨U, 0, none⟩), .agg #[.int .i64 R1, .int .i64 C1, .slice a1 l1 p1]] w fun e w' => e = .returned (.tuple #[.int .i64 0, .int .i64 3]) ∧ UC U c0 n0 w' ∧ Mk U w w' := by
  have G : Grown w (w.alloc (.cells #[.int .i64 R1, .int .i64 C1, .slice a1 l1 p1] 24)) := (Grown.refl _).alloc _ _
  have RF := hide (symRefuse U c0 n0 ⟨hn0.1, by omega⟩ R1 C1 R1 a1 l1 p1 _ (Blk.grown h G))
  rw [refE_bad hb] at RF
  have HB := hide G
  clear G h hb hn0
  go_enter Tryz.func17, Tryz.ntmps17
  go_wp2_with fail
  generalize w.alloc (.cells #[.int .i64 R1, .int .i64 C1, .slice a1 l1 p1] 24) = w1 at *
  refine (unhide RF).mono ?_
  rintro e w2 ⟨rfl, u2, m2⟩
  have R := hide (And.intro u2 ((Mk.of (Mod.of (unhide HB))).trans (Mk.of m2)))
  clear u2 m2 RF
  go_wp2
  go_ret2
  exact ⟨rfl, unhide R⟩

set_option maxHeartbeats 2000000 in
theorem symTrace_none (p : Option Addr) (R1 C1 : Int) (a1 : Option Addr) (l1 p1 : Nat) (w : World) (h : NU p w) :
    Calls Tryz.prog 17 #[.pointer p, .agg #[.int .i64 R1, .int .i64 C1, .slice a1 l1 p1]] w fun e w' => e = .returned (.tuple #[.int .i64 0, .int .i64 1]) ∧ Kp w w' := by
  have G : Grown w (w.alloc (.cells #[.int .i64 R1, .int .i64 C1, .slice a1 l1 p1] 24)) := (Grown.refl _).alloc _ _
  have RF := hide (symRefuse_none p R1 C1 R1 a1 l1 p1 _ (h.grown G))
  have HB := hide G
  clear G h
  go_enter Tryz.func17, Tryz.ntmps17
  go_wp2_with fail
  generalize w.alloc (.cells #[.int .i64 R1, .int .i64 C1, .slice a1 l1 p1] 24) = w1 at *
  refine (unhide RF).mono ?_
  rintro e w2 ⟨rfl, m2⟩
  have R := hide ((Kp.of (unhide HB)).grown m2)
  clear m2 RF
  go_wp2
  go_ret2
  exact ⟨rfl, unhide R⟩


end Go.Proofs.YtgahdjfkmpadoaaGreat

/- Is a matrix one, and symmetric? -/
namespace Go.Proofs.YtgahdjfkmpadoaaGreat
open Go.RowKit Go.Shelf Go.Proofs.Wd
set_option linter.unusedVariables false
set_option linter.unusedSimpArgs false
set_option maxRecDepth 10000

open Classical in
noncomputable def isB (R C : Int) (len : Nat) (A : Nat → Int) : Bool := decide (okM R C len ∧ R = C ∧ ∀ a c, c < a → a < R.toNat → A (a * R.toNat + c) = A (c * R.toNat + a))
open Classical in
theorem isB_no {R C : Int} {len : Nat} {A : Nat → Int} (h : ¬ (okM R C len ∧ R = C)) : isB R C len A = false := decide_eq_false (fun q => h ⟨q.1, q.2.1⟩)
open Classical in
theorem isB_yes {n len : Nat} {A : Nat → Int} (ok : okM n n len) (h : ∀ a c, c < a → a < n → A (a * n + c) = A (c * n + a)) : isB n n len A = true := decide_eq_true ⟨ok, rfl, h⟩
open Classical in
theorem isB_not {n len a c : Nat} {A : Nat → Int} (h1 : c < a) (h2 : a < n) (h3 : A (a * n + c) ≠ A (c * n + a)) : isB n n len A = false := decide_eq_false (fun q => h3 (q.2.2 a c h1 h2))

end Go.Proofs.YtgahdjfkmpadoaaGreat

/- Package sym: Is. -/
namespace Go.Proofs.YtgahdjfkmpadoaaGreat
open Go.RowKit Go.Shelf Go.Proofs.Wd
set_option linter.unusedVariables false
set_option linter.unusedSimpArgs false
set_option maxRecDepth 10000

open Classical in
theorem symSquare_ok (R1 C1 n : Int) (a1 : Option Addr) (l1 p1 : Nat) (h : sqM R1 C1 l1 n) (w : World) : Calls Tryz.prog 46 #[.agg #[.int .i64 R1, .int .i64 C1, .slice a1 l1 p1], .int .i64 n] w fun e w' => e = .returned (.bool true) ∧ Grown w w' := by
  have := symSquare R1 C1 n a1 l1 p1 w
  rwa [decide_eq_true h] at this
open Classical in
theorem symSquare_bad (R1 C1 n : Int) (a1 : Option Addr) (l1 p1 : Nat) (h : ¬ sqM R1 C1 l1 n) (w : World) : Calls Tryz.prog 46 #[.agg #[.int .i64 R1, .int .i64 C1, .slice a1 l1 p1], .int .i64 n] w fun e w' => e = .returned (.bool false) ∧ Grown w w' := by
  have := symSquare R1 C1 n a1 l1 p1 w
  rwa [decide_eq_false h] at this
/-- What a round that leaves knows. -/
def IsX (w : World) (D : Bool) {n f : Nat} (cd : Code) (pre : List (PR n f)) (W : World) : Prop := cd = .ret ∧ D = false ∧ Blk (w.heap.size + 1) #[.bool false] 4 W ∧ Kp w W
def IsJ (W0 : World) (A : Nat → Int) {n f : Nat} (pre : List (PR n f)) (W : World) : Prop := Kp W0 W ∧ ∀ x ∈ pre, A (x.1.1 * n + x.1.2) = A (x.1.2 * n + x.1.1)
theorem isX_own (w : World) (D : Bool) (n f B : Nat) (hB : w.heap.size ≤ B) (cd : Code) : OwnFrom B (IsX w D (n := n) (f := f) cd) := by
  rintro pre W W' row ⟨hc, hD, h3, h5⟩ hg hr
  have hr' : ∀ r, row = some r → ∃ o : Obj, W.heap[r]? = some o ∧ o.isCells = false := fun r e => (hr r e).2
  exact ⟨hc, hD, blk_own h3 hg hr', h5.by hg (fun k e => Nat.le_trans hB (hr k e).1)⟩
theorem isJ_own (W0 : World) (A : Nat → Int) (n f : Nat) : OwnFrom W0.heap.size (IsJ W0 A (n := n) (f := f)) := by
  rintro pre W W' row ⟨h1, h2⟩ hg hr
  exact ⟨h1.by hg (fun k e => (hr k e).1), h2⟩

theorem onlyN_of {Q : Exit → Act → World → Prop} {a : Act} {w : World} (h : Q .normal a w) : OnlyN Q .normal a w := h
section
attribute [local go_sem] Oper.semAt_some

set_option maxRecDepth 100000 in
set_option maxHeartbeats 8000000 in
theorem symIs_ok (n len cap b o : Nat) (A : Nat → Int) (hn : 1 ≤ n ∧ n ≤ 12) (hl : len = n * n) (w : World) (hz : ∀ j, j < len → w.cell? ⟨b, o + j, none⟩ = some (.int .i64 (A j))) :
    Calls Tryz.prog 20 #[.agg #[.int .i64 n, .int .i64 n, .slice (some ⟨b, o, none⟩) len cap]] w fun e w' => e = .returned (.bool (isB n n len A)) ∧ Kp w w' := by
  have okn : okM n n len := ⟨by omega, by omega, by rw [hl, Int.natCast_mul]⟩
  have G : Grown w ((w.alloc (.cells #[.int .i64 n, .int .i64 n, .slice (some ⟨b, o, none⟩) len cap] 24)).alloc (.cells #[.bool false] 4)) := ((Grown.refl _).alloc _ _).alloc _ _
  have HG := hide G
  have HB : Hid (Blk w.heap.size #[.int .i64 n, .int .i64 n, .slice (some ⟨b, o, none⟩) len cap] 24 ((w.alloc (.cells #[.int .i64 n, .int .i64 n, .slice (some ⟨b, o, none⟩) len cap] 24)).alloc (.cells #[.bool false] 4)) ∧ Blk (w.heap.size + 1) #[.bool false] 4 ((w.alloc (.cells #[.int .i64 n, .int .i64 n, .slice (some ⟨b, o, none⟩) len cap] 24)).alloc (.cells #[.bool false] 4)) ∧ ((w.alloc (.cells #[.int .i64 n, .int .i64 n, .slice (some ⟨b, o, none⟩) len cap] 24)).alloc (.cells #[.bool false] 4)).heap.size = w.heap.size + 2) := ⟨Blk.grown (Blk.new w _ _) ((Grown.refl _).alloc _ _), blk_new2 w _ _ _, by simp⟩
  have SQ := hide (fun w => symSquare_ok n n n (some ⟨b, o, none⟩) len cap (sqM_of hn hl) w)
  have EB : Hid ((∀ a c, c < a → a < n → A (a * n + c) = A (c * n + a)) → isB n n len A = true) := fun h => isB_yes okn h
  have EN : Hid (∀ a c, c < a → a < n → A (a * n + c) ≠ A (c * n + a) → isB n n len A = false) := fun a c h1 h2 h3 => isB_not h1 h2 h3
  have AT : Hid (∀ i k, i < n → k < n → ∀ wx, Kp w wx → Calls Tryz.prog 30 #[.agg #[.int .i64 n, .int .i64 n, .slice (some ⟨b, o, none⟩) len cap], .int .i64 i, .int .i64 k] wx fun e w' => e = .returned (.int .i64 (A (i * n + k))) ∧ w' = wx.alloc (.cells #[.int .i64 n, .int .i64 n, .slice (some ⟨b, o, none⟩) len cap] 24)) := by
    intro i k hi hk wx kw
    have hp := place_in i k n n hi hk
    have := symAt n n i k b o cap A hn hn hi hk wx (kw.cell (hz _ (by rw [hl]; exact hp)))
    rw [← hl] at this
    exact this
  generalize isB n n len A = D at *
  have HN := hide hn
  clear G hz hl okn hn
  refine (callsIn_wide (n := 6)).1 ?_
  refine callsIn_of_wp_marks Tryz.func20 rfl trivial ?_ rfl
  simp only [Tryz.ntmps20, List.size_toArray, List.length_cons, List.length_nil, Nat.reduceAdd, Nat.reduceSub, Array.replicate_succ, Array.replicate_zero, List.push_toArray, List.append_toArray, List.nil_append, List.cons_append]
  gi_wp2_with fail
  generalize (w.alloc (.cells #[.int .i64 n, .int .i64 n, .slice (some ⟨b, o, none⟩) len cap] 24)).alloc (.cells #[.bool false] 4) = w1 at *
  refine ⟨trivial, ?_⟩
  refine (callsIn_wide.2 (unhide SQ _)).mono ?_
  rintro e w2 ⟨rfl, g2⟩
  have K2 : Hid (Kp w1 w2) := Kp.of g2
  have d0 : w2.cell? ⟨w.heap.size, 0, none⟩ = some (.int .i64 n) := Blk.cell (Blk.grown (unhide HB).1 g2) 0
  clear g2 SQ
  gi_wp2_with (refine ⟨trivial, ?_⟩; gi_at_call 47; refine (callsIn_wide.2 (symPairs _ _ _)).mono ?_; rintro e w' ⟨rfl, rfl⟩)
  have hn := unhide HN
  have g3 : Grown w2 ((w2.alloc (.cells #[.int .i64 n] 3)).alloc (.cells #[.int .i64 1] 3)) := ((Grown.refl _).alloc _ _).alloc _ _
  have b6 : Blk w2.heap.size #[.int .i64 n] 3 ((w2.alloc (.cells #[.int .i64 n] 3)).alloc (.cells #[.int .i64 1] 3)) := Blk.grown (Blk.new w2 _ _) ((Grown.refl _).alloc _ _)
  have b7 : Blk (w2.heap.size + 1) #[.int .i64 1] 3 ((w2.alloc (.cells #[.int .i64 n] 3)).alloc (.cells #[.int .i64 1] 3)) := blk_new2 w2 _ _ _
  have s3 : ((w2.alloc (.cells #[.int .i64 n] 3)).alloc (.cells #[.int .i64 1] 3)).heap.size = w2.heap.size + 2 := by simp
  have K0 : Hid (Kp w1 ((w2.alloc (.cells #[.int .i64 n] 3)).alloc (.cells #[.int .i64 1] 3))) := (unhide K2).grown g3
  have sz : Hid (w1.heap.size ≤ w2.heap.size) := (unhide K2).2.2.2
  clear d0 K2
  generalize (w2.alloc (.cells #[.int .i64 n] 3)).alloc (.cells #[.int .i64 1] 3) = W0 at *
  have bm0 := Blk.kp (unhide HB).1 (unhide K0)
  have br0 := Blk.kp (unhide HB).2.1 (unhide K0)
  refine wpIn_rangeFunc_ownG rfl (by omega) (gf := 70) (lb := #[.pointer (some ⟨w2.heap.size, 0, none⟩), .pointer (some ⟨w2.heap.size + 1, 0, none⟩)]) rfl trivial (enters_of Tryz.func70 (by kernel_rfl) rfl)
    (pairs_stops _ (by omega) w2.heap.size n 1 hn (by omega) W0 b6 b7) kpP_t (kpP_b (by omega)) (Below.refl _ _) (fun _ => rfl)
    (IsJ W0 A) (IsX w D) (isJ_own W0 A n 1) (isX_own w D n 1 _ (by have := (unhide HB).2.2; have := unhide sz; omega))
    ⟨Kp.refl _, fun x hx => absurd hx List.not_mem_nil⟩
    (fun x => { tmps := #[.agg #[.int .i64 n, .int .i64 n, .slice (some ⟨b, o, none⟩) len cap], .pointer (some ⟨w.heap.size, 0, none⟩), .pointer (some ⟨w.heap.size + 1, 0, none⟩), .int .i64 (x.1.1 : Int), .int .i64 (x.1.2 : Int), .agg #[.int .i64 n, .int .i64 n, .slice (some ⟨b, o, none⟩) len cap], .pointer (some ⟨w.heap.size, 0, none⟩), .int .i64 n, .bool true, .bool false, .pointer (some ⟨w.heap.size, 0, none⟩), .int .i64 n, .func (.func 70) #[] #[.pointer (some ⟨w2.heap.size, 0, none⟩), .pointer (some ⟨w2.heap.size + 1, 0, none⟩)], .int .i64 (x.1.1 : Int), .int .i64 (x.1.2 : Int), undef, undef, undef, undef, undef, undef, undef, undef, undef], defers := [] }) ?assign ?body ?done ?stop
  case assign =>
    intro l x W K hK
    dsimp only [encP]
    gi_wp2
    exact hK
  case body =>
    rintro l pre x W ⟨hK, hpre⟩ hlt
    obtain ⟨⟨⟨i, k⟩, hik, hkn⟩, hx⟩ : ∃ y : PR n 1, x = y := ⟨x, rfl⟩
    have e1 : x.1.1 = i := by rw [hx]
    have e2 : x.1.2 = k := by rw [hx]
    (try dsimp only)
    rw [e1, e2]
    dsimp only at hik hkn
    have bm := Blk.kp bm0 hK
    have d0 : W.cell? ⟨w.heap.size, 0, none⟩ = some (.int .i64 n) := Blk.cell bm 0
    have d1 : W.cell? ⟨w.heap.size, 1, none⟩ = some (.int .i64 n) := Blk.cell bm 1
    have d2 : W.cell? ⟨w.heap.size, 2, none⟩ = some (.slice (some ⟨b, o, none⟩) len cap) := Blk.cell bm 2
    have br := Blk.kp br0 hK
    have kw : Kp w W := (Kp.of (unhide HG)).trans ((unhide K0).trans hK)
    have A1 := hide (unhide AT i k (by omega) hkn W.drew kw)
    have gA : Grown W.drew (W.drew.alloc (.cells #[.int .i64 n, .int .i64 n, .slice (some ⟨b, o, none⟩) len cap] 24)) := (Grown.refl _).alloc _ _
    have A2 := hide (unhide AT k i hkn (by omega) (W.drew.alloc (.cells #[.int .i64 n, .int .i64 n, .slice (some ⟨b, o, none⟩) len cap] 24)) (show Kp w (W.drew.alloc (.cells #[.int .i64 n, .int .i64 n, .slice (some ⟨b, o, none⟩) len cap] 24)) from kw.alloc _ _))
    have gB : Grown W.drew ((W.drew.alloc (.cells #[.int .i64 n, .int .i64 n, .slice (some ⟨b, o, none⟩) len cap] 24)).alloc (.cells #[.int .i64 n, .int .i64 n, .slice (some ⟨b, o, none⟩) len cap] 24)) := gA.alloc _ _
    have u0 := gat gA (show W.drew.cell? _ = _ from d0)
    have u1 := gat gA (show W.drew.cell? _ = _ from d1)
    have u2 := gat gA (show W.drew.cell? _ = _ from d2)
    have v0 := gat gB (show W.drew.cell? _ = _ from d0)
    have v1 := gat gB (show W.drew.cell? _ = _ from d1)
    have v2 := gat gB (show W.drew.cell? _ = _ from d2)
    have KB : Hid (Kp W ((W.drew.alloc (.cells #[.int .i64 n, .int .i64 n, .slice (some ⟨b, o, none⟩) len cap] 24)).alloc (.cells #[.int .i64 n, .int .i64 n, .slice (some ⟨b, o, none⟩) len cap] 24))) := (show Kp W (W.drew.alloc (.cells #[.int .i64 n, .int .i64 n, .slice (some ⟨b, o, none⟩) len cap] 24)) from (Kp.refl W).alloc _ _).alloc _ _
    have GB : Hid (Blk (w.heap.size + 1) #[.bool false] 4 ((W.drew.alloc (.cells #[.int .i64 n, .int .i64 n, .slice (some ⟨b, o, none⟩) len cap] 24)).alloc (.cells #[.int .i64 n, .int .i64 n, .slice (some ⟨b, o, none⟩) len cap] 24))) := Blk.kp br (unhide KB)
    have HS := hide (And.intro hK (And.intro hpre kw))
    have HI : Hid (i + 1 ≤ k ∧ k < n) := ⟨hik, hkn⟩
    have HX : Hid (x.1.1 = i ∧ x.1.2 = k) := ⟨e1, e2⟩
    have S3 : Hid (W0.heap.size = w2.heap.size + 2) := by show _ = _; omega
    have hmx : Tryz.prog.follows .mixedOrders = true := by kernel_rfl
    obtain ⟨y1, hy1⟩ : ∃ y, A (i * n + k) = y := ⟨_, rfl⟩
    obtain ⟨y2, hy2⟩ : ∃ y, A (k * n + i) = y := ⟨_, rfl⟩
    rw [hy1] at A1
    rw [hy2] at A2
    have EY : Hid (A (i * n + k) = y1 ∧ A (k * n + i) = y2) := ⟨hy1, hy2⟩
    clear hy1 hy2 hx e1 e2 hik hkn hK hpre kw bm br gA gB bm0 br0 b6 b7 hn s3 AT hlt g3
    by_cases hy : y1 = y2
    · have en : (y1 != y2) = false := by simpa using hy
      have R : Hid (KeepsFrom W0.heap.size W ((W.drew.alloc (.cells #[.int .i64 n, .int .i64 n, .slice (some ⟨b, o, none⟩) len cap] 24)).alloc (.cells #[.int .i64 n, .int .i64 n, .slice (some ⟨b, o, none⟩) len cap] 24)) ∧ KpP w2.heap.size W ((W.drew.alloc (.cells #[.int .i64 n, .int .i64 n, .slice (some ⟨b, o, none⟩) len cap] 24)).alloc (.cells #[.int .i64 n, .int .i64 n, .slice (some ⟨b, o, none⟩) len cap] 24)) ∧ IsJ W0 A (pre ++ [x]) ((W.drew.alloc (.cells #[.int .i64 n, .int .i64 n, .slice (some ⟨b, o, none⟩) len cap] 24)).alloc (.cells #[.int .i64 n, .int .i64 n, .slice (some ⟨b, o, none⟩) len cap] 24))) := by
        obtain ⟨hK, hpre, kw⟩ := unhide HS
        have kb := unhide KB
        refine ⟨⟨kb.2.2.2, fun j o hj e _ => (kb.2.2.1 j (Array.getElem?_eq_some_iff.1 e).1).trans e⟩, ⟨kb.2.2.1 _ (by have := hK.2.2.2; have := unhide S3; omega), kb.2.2.1 _ (by have := hK.2.2.2; have := unhide S3; omega)⟩, hK.trans kb, fun y hy => ?_⟩
        rcases List.mem_append.1 hy with hy | hy
        · exact hpre y hy
        · rw [List.mem_singleton.1 hy, (unhide HX).1, (unhide HX).2, (unhide EY).1, (unhide EY).2]
          assumption
      clear hy
      gi_wp2
      refine region_in (fun w' => w'.cell? ⟨w.heap.size, 0, none⟩ = some (.int .i64 n) ∧ w'.cell? ⟨w.heap.size, 1, none⟩ = some (.int .i64 n) ∧ w'.cell? ⟨w.heap.size, 2, none⟩ = some (.slice (some ⟨b, o, none⟩) len cap)) hmx (by kernel_rfl) ⟨d0, d1, d2⟩ (fun hHeld => ?_)
      refine take_slotN (i := 0) (d := 15) (v := .agg #[.int .i64 n, .int .i64 n, .slice (some ⟨b, o, none⟩) len cap]) rfl rfl (by kernel_rfl) (by kernel_rfl) (by kernel_rfl) (Or.inl ⟨by rfl, ?_⟩) (by assumption) ?_
      · intro w hSw
        (try dsimp only at hSw)
        go_simp
      (try simp only [Act.put, List.setIfInBounds_toArray, List.set_cons_zero, List.set_cons_succ])
      refine take_slotN (i := 1) (d := 16) (v := .int .i64 (i : Int)) rfl rfl (by kernel_rfl) (by kernel_rfl) (by kernel_rfl) (Or.inl ⟨by rfl, ?_⟩) (by assumption) ?_
      · intro w hSw
        (try dsimp only at hSw)
        go_simp
      (try simp only [Act.put, List.setIfInBounds_toArray, List.set_cons_zero, List.set_cons_succ])
      refine take_slotN (i := 2) (d := 17) (v := .int .i64 (k : Int)) rfl rfl (by kernel_rfl) (by kernel_rfl) (by kernel_rfl) (Or.inl ⟨by rfl, ?_⟩) (by assumption) ?_
      · intro w hSw
        (try dsimp only at hSw)
        go_simp
      (try simp only [Act.put, List.setIfInBounds_toArray, List.set_cons_zero, List.set_cons_succ])
      refine take_slotN (i := 4) (d := 19) (v := .agg #[.int .i64 n, .int .i64 n, .slice (some ⟨b, o, none⟩) len cap]) rfl rfl (by kernel_rfl) (by kernel_rfl) (by kernel_rfl) (Or.inl ⟨by rfl, ?_⟩) (by assumption) ?_
      · intro w hSw
        (try dsimp only at hSw)
        go_simp
      (try simp only [Act.put, List.setIfInBounds_toArray, List.set_cons_zero, List.set_cons_succ])
      refine take_slotN (i := 5) (d := 20) (v := .int .i64 (k : Int)) rfl rfl (by kernel_rfl) (by kernel_rfl) (by kernel_rfl) (Or.inl ⟨by rfl, ?_⟩) (by assumption) ?_
      · intro w hSw
        (try dsimp only at hSw)
        go_simp
      (try simp only [Act.put, List.setIfInBounds_toArray, List.set_cons_zero, List.set_cons_succ])
      refine take_slotN (i := 6) (d := 21) (v := .int .i64 (i : Int)) rfl rfl (by kernel_rfl) (by kernel_rfl) (by kernel_rfl) (Or.inl ⟨by rfl, ?_⟩) (by assumption) ?_
      · intro w hSw
        (try dsimp only at hSw)
        go_simp
      (try simp only [Act.put, List.setIfInBounds_toArray, List.set_cons_zero, List.set_cons_succ])
      generalize hwd : W.drew = wd at *
      generalize hwa : wd.alloc (.cells #[.int .i64 n, .int .i64 n, .slice (some ⟨b, o, none⟩) len cap] 24) = wa at *
      generalize hwb : wa.alloc (.cells #[.int .i64 n, .int .i64 n, .slice (some ⟨b, o, none⟩) len cap] 24) = wb at *
      refine wpAnyH_ready (rs := [3]) (by kernel_rfl) (by simp) ?_
      refine AllReadyH.cons rfl (fun K hK => ?_) AllReadyH.nil
      go_simp
      refine (unhide A1).mono ?_
      rintro e w3 ⟨rfl, rfl⟩
      refine hK.out _ _ ⟨u0, u1, u2⟩ (fun hHeld => ?_)
      clear hK K
      (try simp only [Act.put, List.setIfInBounds_toArray, List.set_cons_zero, List.set_cons_succ])
      refine wpAnyH_ready (rs := [7]) (by kernel_rfl) (by simp) ?_
      refine AllReadyH.cons rfl (fun K hK => ?_) AllReadyH.nil
      go_simp
      refine (unhide A2).mono ?_
      rintro e w4 ⟨rfl, rfl⟩
      refine hK.out _ _ ⟨v0, v1, v2⟩ (fun hHeld => ?_)
      clear hK K
      (try simp only [Act.put, List.setIfInBounds_toArray, List.set_cons_zero, List.set_cons_succ])
      refine take_slotN (i := 8) (d := 23) (v := .bool false) rfl rfl (by kernel_rfl) (by kernel_rfl) (by kernel_rfl) (Or.inl ⟨by rfl, ?_⟩) (by assumption) ?_
      · intro w hSw
        (try dsimp only at hSw)
        go_simp
      (try simp only [Act.put, List.setIfInBounds_toArray, List.set_cons_zero, List.set_cons_succ])
      refine wpAnyH_done (by kernel_rfl) ?_ _
      refine onlyN_of ?_
      clear hHeld A1 A2 u0 u1 u2 v0 v1 v2 d0 d1 d2 KB GB
      gi_wp2
      exact unhide R
    · have en : (y1 != y2) = true := by simpa using hy
      have HD : Hid (D = false) := unhide EN k i (by have := unhide HI; omega) (unhide HI).2 (by rw [(unhide EY).1, (unhide EY).2]; exact fun h => hy h.symm)
      clear hy
      gi_wp2
      refine region_in (fun w' => w'.cell? ⟨w.heap.size, 0, none⟩ = some (.int .i64 n) ∧ w'.cell? ⟨w.heap.size, 1, none⟩ = some (.int .i64 n) ∧ w'.cell? ⟨w.heap.size, 2, none⟩ = some (.slice (some ⟨b, o, none⟩) len cap)) hmx (by kernel_rfl) ⟨d0, d1, d2⟩ (fun hHeld => ?_)
      refine take_slotN (i := 0) (d := 15) (v := .agg #[.int .i64 n, .int .i64 n, .slice (some ⟨b, o, none⟩) len cap]) rfl rfl (by kernel_rfl) (by kernel_rfl) (by kernel_rfl) (Or.inl ⟨by rfl, ?_⟩) (by assumption) ?_
      · intro w hSw
        (try dsimp only at hSw)
        go_simp
      (try simp only [Act.put, List.setIfInBounds_toArray, List.set_cons_zero, List.set_cons_succ])
      refine take_slotN (i := 1) (d := 16) (v := .int .i64 (i : Int)) rfl rfl (by kernel_rfl) (by kernel_rfl) (by kernel_rfl) (Or.inl ⟨by rfl, ?_⟩) (by assumption) ?_
      · intro w hSw
        (try dsimp only at hSw)
        go_simp
      (try simp only [Act.put, List.setIfInBounds_toArray, List.set_cons_zero, List.set_cons_succ])
      refine take_slotN (i := 2) (d := 17) (v := .int .i64 (k : Int)) rfl rfl (by kernel_rfl) (by kernel_rfl) (by kernel_rfl) (Or.inl ⟨by rfl, ?_⟩) (by assumption) ?_
      · intro w hSw
        (try dsimp only at hSw)
        go_simp
      (try simp only [Act.put, List.setIfInBounds_toArray, List.set_cons_zero, List.set_cons_succ])
      refine take_slotN (i := 4) (d := 19) (v := .agg #[.int .i64 n, .int .i64 n, .slice (some ⟨b, o, none⟩) len cap]) rfl rfl (by kernel_rfl) (by kernel_rfl) (by kernel_rfl) (Or.inl ⟨by rfl, ?_⟩) (by assumption) ?_
      · intro w hSw
        (try dsimp only at hSw)
        go_simp
      (try simp only [Act.put, List.setIfInBounds_toArray, List.set_cons_zero, List.set_cons_succ])
      refine take_slotN (i := 5) (d := 20) (v := .int .i64 (k : Int)) rfl rfl (by kernel_rfl) (by kernel_rfl) (by kernel_rfl) (Or.inl ⟨by rfl, ?_⟩) (by assumption) ?_
      · intro w hSw
        (try dsimp only at hSw)
        go_simp
      (try simp only [Act.put, List.setIfInBounds_toArray, List.set_cons_zero, List.set_cons_succ])
      refine take_slotN (i := 6) (d := 21) (v := .int .i64 (i : Int)) rfl rfl (by kernel_rfl) (by kernel_rfl) (by kernel_rfl) (Or.inl ⟨by rfl, ?_⟩) (by assumption) ?_
      · intro w hSw
        (try dsimp only at hSw)
        go_simp
      (try simp only [Act.put, List.setIfInBounds_toArray, List.set_cons_zero, List.set_cons_succ])
      generalize hwd : W.drew = wd at *
      generalize hwa : wd.alloc (.cells #[.int .i64 n, .int .i64 n, .slice (some ⟨b, o, none⟩) len cap] 24) = wa at *
      generalize hwb : wa.alloc (.cells #[.int .i64 n, .int .i64 n, .slice (some ⟨b, o, none⟩) len cap] 24) = wb at *
      refine wpAnyH_ready (rs := [3]) (by kernel_rfl) (by simp) ?_
      refine AllReadyH.cons rfl (fun K hK => ?_) AllReadyH.nil
      go_simp
      refine (unhide A1).mono ?_
      rintro e w3 ⟨rfl, rfl⟩
      refine hK.out _ _ ⟨u0, u1, u2⟩ (fun hHeld => ?_)
      clear hK K
      (try simp only [Act.put, List.setIfInBounds_toArray, List.set_cons_zero, List.set_cons_succ])
      refine wpAnyH_ready (rs := [7]) (by kernel_rfl) (by simp) ?_
      refine AllReadyH.cons rfl (fun K hK => ?_) AllReadyH.nil
      go_simp
      refine (unhide A2).mono ?_
      rintro e w4 ⟨rfl, rfl⟩
      refine hK.out _ _ ⟨v0, v1, v2⟩ (fun hHeld => ?_)
      clear hK K
      (try simp only [Act.put, List.setIfInBounds_toArray, List.set_cons_zero, List.set_cons_succ])
      refine take_slotN (i := 8) (d := 23) (v := .bool true) rfl rfl (by kernel_rfl) (by kernel_rfl) (by kernel_rfl) (Or.inl ⟨by rfl, ?_⟩) (by assumption) ?_
      · intro w hSw
        (try dsimp only at hSw)
        go_simp
      (try simp only [Act.put, List.setIfInBounds_toArray, List.set_cons_zero, List.set_cons_succ])
      refine wpAnyH_done (by kernel_rfl) ?_ _
      refine onlyN_of ?_
      have q0 : w4.cell? ⟨w.heap.size + 1, 0, none⟩ = some (.bool false) := Blk.cell (unhide GB) 0
      have ff := Blk.free (unhide GB)
      clear hHeld A1 A2 u0 u1 u2 v0 v1 v2 d0 d1 d2
      gi_wp2
      have m2 : Mod (w.heap.size + 1) w4 (w4.setCell ⟨w.heap.size + 1, 0, none⟩ (.bool false)) := (Mod.refl _ _).setCell 0 _
      have kb := unhide KB
      exact ⟨KeepsOthers.from ((⟨kb.2.2.2, fun j o hj _ => (kb.2.2.1 j (Array.getElem?_eq_some_iff.1 hj).1).trans hj⟩ : KeepsOthers W w4).trans (KeepsOthers.setCell _ _ _)) _, rfl, unhide HD, Blk.set (unhide GB) 0 _, ((unhide HS).2.2.trans kb).mod m2 (by omega)⟩
  case done =>
    rintro D1 ys W hD hall ⟨hK, hpre⟩ hDf
    have hDt : Hid (D = true) := unhide EB (fun a c h1 h2 => (hpre ⟨(c, a), h1, h2⟩ (hall _)).symm)
    have br := Blk.kp br0 hK
    have q0 : W.cell? ⟨w.heap.size + 1, 0, none⟩ = some (.bool false) := Blk.cell br 0
    have ff := Blk.free br
    have R := hide (And.intro hK br)
    have hDD : Hid (w.heap.size + 2 ≤ D1) := by have := (unhide HB).2.2; have := (unhide K0).2.2.2; show _ ≤ _; omega
    clear hK br hall hpre bm0 br0 b6 b7 hn g3
    gi_wp2
    obtain ⟨hK, br⟩ := unhide R
    have m2 : Mod (w.heap.size + 1) W (W.setCell ⟨w.heap.size + 1, 0, none⟩ (.bool true)) := (Mod.refl _ _).setCell 0 _
    have B2 := Blk.set br 0 (.bool true)
    have kD : (W.setCell ⟨w.heap.size + 1, 0, none⟩ (.bool true)).heap[D1]? = some (.deferred (some [])) := (KeepsOthers.setCell _ _ _).same D1 _ hDf rfl
    have KW : Kp w (W.setCell ⟨w.heap.size + 1, 0, none⟩ (.bool true)) := ((Kp.of (unhide HG)).trans ((unhide K0).trans hK)).mod m2 (by omega)
    generalize W.setCell ⟨w.heap.size + 1, 0, none⟩ (.bool true) = WW at *
    have hdd := unhide hDD
    have gD := grownBy_putObj' WW D1 (.deferred none)
    have B2' := Blk.by B2 gD (fun e => by cases e; omega)
    have K9 : Kp w (WW.putObj D1 (.deferred none)) := KW.by gD (fun k e => by cases e; omega)
    refine ⟨by simp, .inl ⟨_, _, rfl, run_takeDeferred kD, ?_⟩⟩
    have c0 : (WW.putObj D1 (.deferred none)).cell? ⟨w.heap.size + 1, 0, none⟩ = some (.bool true) := Blk.cell B2' 0
    generalize WW.putObj D1 (.deferred none) = WP at *
    exact ⟨.bool true, by simp [results, Tryz.results20, go_sem, c0], by rw [unhide hDt], K9⟩
  case stop =>
    rintro D1 cd pre W hD hpre ⟨rfl, hDf', h3, h5⟩ hDf
    have R := hide (And.intro hDf' (And.intro h3 h5))
    have hDD : Hid (w.heap.size + 2 ≤ D1) := by have := (unhide HB).2.2; have := (unhide K0).2.2.2; show _ ≤ _; omega
    clear hDf' h3 h5 bm0 br0 b6 b7 hn g3 hpre
    gi_wp2
    obtain ⟨hDf', h3, h5⟩ := unhide R
    have hdd := unhide hDD
    have gD := grownBy_putObj' W D1 (.deferred none)
    have B2' := Blk.by h3 gD (fun e => by cases e; omega)
    have K9 : Kp w (W.putObj D1 (.deferred none)) := h5.by gD (fun k e => by cases e; omega)
    refine ⟨by simp, .inl ⟨_, _, rfl, run_takeDeferred hDf, ?_⟩⟩
    have c0 : (W.putObj D1 (.deferred none)).cell? ⟨w.heap.size + 1, 0, none⟩ = some (.bool false) := Blk.cell B2' 0
    generalize W.putObj D1 (.deferred none) = WP at *
    exact ⟨.bool false, by simp [results, Tryz.results20, go_sem, c0], by rw [hDf'], K9⟩
end

set_option maxHeartbeats 1000000 in
theorem symIs_bad (R1 C1 : Int) (a1 : Option Addr) (l1 p1 : Nat) (A : Nat → Int) (hb : ¬ (okM R1 C1 l1 ∧ R1 = C1)) (w : World) :
    Calls Tryz.prog 20 #[.agg #[.int .i64 R1, .int .i64 C1, .slice a1 l1 p1]] w fun e w' => e = .returned (.bool (isB R1 C1 l1 A)) ∧ Kp w w' := by
  rw [isB_no hb]
  have SQ := hide (fun w => symSquare_bad R1 C1 R1 a1 l1 p1 (fun h => hb ⟨h.1, h.2.2.symm⟩) w)
  have G : Grown w ((w.alloc (.cells #[.int .i64 R1, .int .i64 C1, .slice a1 l1 p1] 24)).alloc (.cells #[.bool false] 4)) := ((Grown.refl _).alloc _ _).alloc _ _
  have HB := hide (And.intro G (blk_new2 w (.cells #[.int .i64 R1, .int .i64 C1, .slice a1 l1 p1] 24) #[.bool false] 4))
  clear G hb
  go_enter Tryz.func20, Tryz.ntmps20
  go_wp2_with fail
  generalize (w.alloc (.cells #[.int .i64 R1, .int .i64 C1, .slice a1 l1 p1] 24)).alloc (.cells #[.bool false] 4) = w1 at *
  refine (unhide SQ _).mono ?_
  rintro e w2 ⟨rfl, g2⟩
  have b2 := Blk.grown (unhide HB).2 g2
  have q0 : w2.cell? ⟨w.heap.size + 1, 0, none⟩ = some (.bool false) := Blk.cell b2 0
  have ff := Blk.free b2
  have R := hide (And.intro b2 ((Kp.of (unhide HB).1).grown g2))
  clear b2 g2 SQ
  go_wp2
  obtain ⟨b2, k2⟩ := unhide R
  have m2 : Mod (w.heap.size + 1) w2 (w2.setCell ⟨w.heap.size + 1, 0, none⟩ (.bool false)) := (Mod.refl _ _).setCell 0 _
  have B2 := Blk.set b2 0 (.bool false)
  have K9 : Kp w (w2.setCell ⟨w.heap.size + 1, 0, none⟩ (.bool false)) := k2.mod m2 (by omega)
  generalize w2.setCell ⟨w.heap.size + 1, 0, none⟩ (.bool false) = WP at *
  have c0 : WP.cell? ⟨w.heap.size + 1, 0, none⟩ = some (.bool false) := Blk.cell B2 0
  exact bodyPost_ret (v := .bool false) (by simp [results, Tryz.results20, go_sem, c0]) rfl ⟨rfl, K9⟩
theorem symIsAny (R1 C1 : Int) (a1 : Option Addr) (l1 p1 : Nat) (A : Nat → Int) (w : World) (ra : Row w a1 l1 A) :
    Calls Tryz.prog 20 #[.agg #[.int .i64 R1, .int .i64 C1, .slice a1 l1 p1]] w fun e w' => e = .returned (.bool (isB R1 C1 l1 A)) ∧ Kp w w' := by
  by_cases hg : okM R1 C1 l1 ∧ R1 = C1
  · obtain ⟨h1, h2⟩ := hg
    obtain ⟨r, c, rfl, rfl, hr, hc, hl, k1, k2⟩ := h1.nat
    obtain rfl : r = c := by omega
    obtain ⟨b, o, rfl, za⟩ := ra.some k1
    exact symIs_ok r l1 p1 b o A hr hl w za
  · exact symIs_bad R1 C1 a1 l1 p1 A hg w


end Go.Proofs.YtgahdjfkmpadoaaGreat

/- Package sym: Sandwich. -/
namespace Go.Proofs.YtgahdjfkmpadoaaGreat
open Go.RowKit Go.Shelf Go.Proofs.Wd
set_option linter.unusedVariables false
set_option linter.unusedSimpArgs false
set_option maxRecDepth 10000

set_option maxHeartbeats 2000000 in
theorem cmpOr (x y : Int) (B : Nat) (w : World) (h0 : w.cell? ⟨B, 0, none⟩ = some (.int .i64 x)) (h1 : w.cell? ⟨B, 1, none⟩ = some (.int .i64 y)) :
    Calls Tryz.prog 34 #[.slice (some ⟨B, 0, none⟩) 2 2] w fun e w' => e = .returned (.int .i64 (if x = 0 then y else x)) ∧ w' = w := by
  have HH : Hid ((x = 0 → (if x = 0 then y else x) = y) ∧ (x ≠ 0 → (if x = 0 then y else x) = x)) := ⟨fun h => if_pos h, fun h => if_neg h⟩
  generalize (if x = 0 then y else x) = z at *
  go_enter Tryz.func34, Tryz.ntmps34
  go_wp2
  go_loopw [8] (fun i wr => ∃ k : Nat, k ≤ 2 ∧ i = .int .i64 k ∧ wr = w ∧ Hid ((1 ≤ k → x = 0) ∧ (2 ≤ k → y = 0))) (fun i _ => 2 - (intOf i).toNat)
  case atStart => exact ⟨0, by omega, rfl, rfl, fun h => by omega, fun h => by omega⟩
  case round =>
    obtain ⟨k, hk, rfl, rfl, HI⟩ := hrel
    rcases (show k = 0 ∨ k = 1 ∨ k = 2 by omega) with rfl | rfl | rfl
    · by_cases e : x = 0
      · have en : (x != 0) = false := by simpa using e
        have HE := hide e
        clear e
        go_wp2
        go_roundw
        case rel => exact ⟨1, by omega, by go_num, trivial, fun _ => unhide HE, fun h => by omega⟩
        case measure => simp [intOf]
      · have en : (x != 0) = true := by simpa using e
        have EZ := hide ((unhide HH).2 e)
        clear e
        go_wp2
        go_ret
        exact ⟨by rw [unhide EZ]; rfl, rfl⟩
    · have hx := (unhide HI).1 (by omega)
      by_cases e : y = 0
      · have en : (y != 0) = false := by simpa using e
        have HE := hide (And.intro hx e)
        clear e hx
        go_wp2
        go_roundw
        case rel => exact ⟨2, by omega, by go_num, trivial, fun _ => (unhide HE).1, fun _ => (unhide HE).2⟩
        case measure => simp [intOf]
      · have en : (y != 0) = true := by simpa using e
        have EZ := hide ((unhide HH).1 hx)
        clear e hx
        go_wp2
        go_ret
        exact ⟨by rw [unhide EZ]; rfl, rfl⟩
    · have EZ : Hid (z = 0) := ((unhide HH).1 ((unhide HI).1 (by omega))).trans ((unhide HI).2 (by omega))
      go_wp2
      go_ret
      exact ⟨by rw [unhide EZ]; rfl, rfl⟩


/-- A function under way: boxes of its own, lists, the unit. -/
def GS (w : World) (U : Nat) (bx : List (Nat × Array Value)) (rows : List (Option Addr × Nat × (Nat → Int))) (cut : Bool) (n : Int) (wr : World) : Prop :=
  (∀ b ∈ bx, Blk b.1 b.2 24 wr ∧ w.heap.size ≤ b.1) ∧ (∀ r ∈ rows, Row wr r.1 r.2.1 r.2.2 ∧ Off U r.2.1 r.1) ∧ UC U cut n wr ∧ Mk U w wr ∧ U < w.heap.size
section
variable {w wr w' : World} {U : Nat} {bx : List (Nat × Array Value)} {rows : List (Option Addr × Nat × (Nat → Int))} {cut cut' : Bool} {n n' : Int} {r c err : Int} {len : Nat} {Z : Nat → Int} {e : Ending}
theorem GS.kp (h : GS w U bx rows cut n wr) (k : Kp wr w') : GS w U bx rows cut n w' :=
  ⟨fun b hb => ⟨Blk.kp (h.1 b hb).1 k, (h.1 b hb).2⟩, fun r hr => ⟨(h.2.1 r hr).1.kp k, (h.2.1 r hr).2⟩, Blk.kp h.2.2.1 k, h.2.2.2.1.trans (Mk.kp k), h.2.2.2.2⟩
theorem GS.mk (h : GS w U bx rows cut n wr) (k : Mk U wr w') (u : UC U cut' n' w') : GS w U bx rows cut' n' w' :=
  ⟨fun b hb => ⟨Blk.mk (h.1 b hb).1 k (by have := (h.1 b hb).2; have := h.2.2.2.2; omega), (h.1 b hb).2⟩, fun r hr => ⟨(h.2.1 r hr).1.mk k (h.2.1 r hr).2, (h.2.1 r hr).2⟩, u, h.2.2.2.1.trans k, h.2.2.2.2⟩
theorem GS.box (h : GS w U bx rows cut n wr) (cs : Array Value) : GS w U ((wr.heap.size, cs) :: bx) rows cut n (wr.alloc (.cells cs 24)) := by
  have k := h.kp ((Kp.refl wr).alloc cs 24)
  refine ⟨fun b hb => ?_, k.2⟩
  rcases List.mem_cons.1 hb with rfl | hb
  · exact ⟨Blk.new wr _ _, h.2.2.2.1.2.2.2⟩
  · exact k.1 b hb
theorem GS.row {ao : Option Addr} (h : GS w U bx rows cut n wr) (r : Row wr ao len Z) (f : Off U len ao) : GS w U bx ((ao, len, Z) :: rows) cut n wr := by
  refine ⟨h.1, fun q hq => ?_, h.2.2⟩
  rcases List.mem_cons.1 hq with rfl | hq
  · exact ⟨r, f⟩
  · exact h.2.1 q hq
theorem GS.told (h : GS w U bx rows cut n wr) (m : MatP r c len Z err (fun w' => UC U cut' n' w' ∧ Mk U wr w') wr e w') : ∃ ao cap, e = .returned (.tuple #[.agg #[.int .i64 r, .int .i64 c, .slice ao len cap], .int .i64 err]) ∧ len ≤ cap ∧ GS w U bx ((ao, len, Z) :: rows) cut' n' w' := by
  obtain ⟨ao, cap, B, rfl, h1, h2, h3, h4, h5⟩ := m
  have lU := Blk.lt h.2.2.1
  refine ⟨ao, cap, rfl, h3, (h.mk h5 h4).row ?_ ?_⟩
  · rcases h2 with h2 | ⟨rfl, hb⟩
    · exact Or.inl h2
    · exact hb.row
  · rcases h2 with h2 | ⟨rfl, hb⟩
    · exact fun hl => absurd hl (by omega)
    · exact off_blk (by omega)
theorem GS.toldK (h : GS w U bx rows cut n wr) (m : MatP r c len Z err (Kp wr) wr e w') : ∃ ao cap, e = .returned (.tuple #[.agg #[.int .i64 r, .int .i64 c, .slice ao len cap], .int .i64 err]) ∧ len ≤ cap ∧ GS w U bx ((ao, len, Z) :: rows) cut n w' := by
  obtain ⟨ao, cap, B, rfl, h1, h2, h3, h4⟩ := m
  have lU := Blk.lt h.2.2.1
  refine ⟨ao, cap, rfl, h3, (h.kp h4).row ?_ ?_⟩
  · rcases h2 with h2 | ⟨rfl, hb⟩
    · exact Or.inl h2
    · exact hb.row
  · rcases h2 with h2 | ⟨rfl, hb⟩
    · exact fun hl => absurd hl (by omega)
    · exact off_blk (by omega)
theorem GS.cells {b : Nat} {x0 x1 x2 : Value} (h : GS w U bx rows cut n wr) (hb : (b, #[x0, x1, x2]) ∈ bx) : wr.cell? ⟨b, 0, none⟩ = some x0 ∧ wr.cell? ⟨b, 1, none⟩ = some x1 ∧ wr.cell? ⟨b, 2, none⟩ = some x2 := ⟨Blk.cell (h.1 _ hb).1 0, Blk.cell (h.1 _ hb).1 1, Blk.cell (h.1 _ hb).1 2⟩
theorem GS.at {ao : Option Addr} (h : GS w U bx rows cut n wr) (hr : (ao, len, Z) ∈ rows) : Row wr ao len Z ∧ Off U len ao := h.2.1 _ hr
end
theorem bndH (m j : Nat) (hm : m ≤ 12) (hj : j ≤ 144) : 0 ≤ 2 * (m : Int) * (j : Int) ∧ 2 * (m : Int) * (j : Int) ≤ 3456 :=
  ⟨Int.mul_nonneg (by omega) (by omega), Int.mul_le_mul (show 2 * (m : Int) ≤ 24 by omega) (show (j : Int) ≤ 144 by omega) (by omega) (by omega)⟩


set_option maxRecDepth 20000 in
set_option maxHeartbeats 4000000 in
theorem symSandwich_bad (U : Nat) (c0 : Bool) (n0 : Int) (hn0 : 0 ≤ n0 ∧ n0 < 1152921504606846976) (R1 C1 R2 C2 : Int) (a1 a2 : Option Addr) (l1 p1 l2 p2 : Nat) (Z : Nat → Int) (hb : ¬ (okM R1 C1 l1 ∧ sqM R2 C2 l2 C1)) (w : World) (h : UC U c0 n0 w) :
    Calls Tryz.prog 13 #[.pointer (some ⟨U, 0, none⟩), .agg #[.int .i64 R1, .int .i64 C1, .slice a1 l1 p1], .agg #[.int .i64 R2, .int .i64 C2, .slice a2 l2 p2]] w fun e w' => SymP 0 0 0 Z 3 (fun w' => UC U c0 n0 w' ∧ Mk U w w') w e w' := by
  have lU := Blk.lt h
  obtain ⟨G, s3, b0, b1, b2⟩ := alloc3 w #[.int .i64 R1, .int .i64 C1, .slice a1 l1 p1] 24 #[.int .i64 R2, .int .i64 C2, .slice a2 l2 p2] 24 #[.int .i64 0, .int .i64 0, .slice none 0 0] 24
  have RF := hide (symRefuse U c0 n0 ⟨hn0.1, by omega⟩ R2 C2 C1 a2 l2 p2 (((w.alloc (.cells #[.int .i64 R1, .int .i64 C1, .slice a1 l1 p1] 24)).alloc (.cells #[.int .i64 R2, .int .i64 C2, .slice a2 l2 p2] 24)).alloc (.cells #[.int .i64 0, .int .i64 0, .slice none 0 0] 24)).drew (Blk.grown h G))
  have CK := hide (fun w => matCheck R1 C1 a1 l1 p1 w)
  have EOr : Hid ((if refE R2 C2 l2 C1 = 0 then chk R1 C1 l1 else refE R2 C2 l2 C1) = 3) := by
    by_cases h1 : sqM R2 C2 l2 C1
    · rw [refE_ok h1, if_pos rfl, chk_bad (fun h2 => hb ⟨h2, h1⟩)]
      trivial
    · rw [refE_bad h1, if_neg (by decide)]
      trivial
  generalize refE R2 C2 l2 C1 = e1 at *
  generalize chk R1 C1 l1 = e2 at *
  have HC : Hid (∀ wx, (UC U c0 n0 wx ∧ Mod U (((w.alloc (.cells #[.int .i64 R1, .int .i64 C1, .slice a1 l1 p1] 24)).alloc (.cells #[.int .i64 R2, .int .i64 C2, .slice a2 l2 p2] 24)).alloc (.cells #[.int .i64 0, .int .i64 0, .slice none 0 0] 24)) wx) → wx.cell? ⟨w.heap.size, 0, none⟩ = some (.int .i64 R1) ∧ wx.cell? ⟨w.heap.size, 1, none⟩ = some (.int .i64 C1) ∧ wx.cell? ⟨w.heap.size, 2, none⟩ = some (.slice a1 l1 p1) ∧ wx.cell? ⟨w.heap.size + 1, 0, none⟩ = some (.int .i64 R2) ∧ wx.cell? ⟨w.heap.size + 1, 1, none⟩ = some (.int .i64 C2) ∧ wx.cell? ⟨w.heap.size + 1, 2, none⟩ = some (.slice a2 l2 p2)) := fun wx k => ⟨Blk.cell (Blk.keep b0 k.2 (by omega)) 0, Blk.cell (Blk.keep b0 k.2 (by omega)) 1, Blk.cell (Blk.keep b0 k.2 (by omega)) 2, Blk.cell (Blk.keep b1 k.2 (by omega)) 0, Blk.cell (Blk.keep b1 k.2 (by omega)) 1, Blk.cell (Blk.keep b1 k.2 (by omega)) 2⟩
  have HR3 : Hid (∀ wx, (UC U c0 n0 wx ∧ Mod U (((w.alloc (.cells #[.int .i64 R1, .int .i64 C1, .slice a1 l1 p1] 24)).alloc (.cells #[.int .i64 R2, .int .i64 C2, .slice a2 l2 p2] 24)).alloc (.cells #[.int .i64 0, .int .i64 0, .slice none 0 0] 24)) wx) → Blk (w.heap.size + 1 + 1) #[.int .i64 0, .int .i64 0, .slice none 0 0] 24 wx) := fun wx k => Blk.keep b2 k.2 (by omega)
  have HG3 : Hid (∀ wx wy, (UC U c0 n0 wx ∧ Mod U (((w.alloc (.cells #[.int .i64 R1, .int .i64 C1, .slice a1 l1 p1] 24)).alloc (.cells #[.int .i64 R2, .int .i64 C2, .slice a2 l2 p2] 24)).alloc (.cells #[.int .i64 0, .int .i64 0, .slice none 0 0] 24)) wx) → Grown wx wy → (UC U c0 n0 wy ∧ Mod U (((w.alloc (.cells #[.int .i64 R1, .int .i64 C1, .slice a1 l1 p1] 24)).alloc (.cells #[.int .i64 R2, .int .i64 C2, .slice a2 l2 p2] 24)).alloc (.cells #[.int .i64 0, .int .i64 0, .slice none 0 0] 24)) wy)) := fun wx wy k g => ⟨Blk.grown k.1 g, k.2.trans (Mod.of g)⟩
  have H0 : Hid (UC U c0 n0 (((w.alloc (.cells #[.int .i64 R1, .int .i64 C1, .slice a1 l1 p1] 24)).alloc (.cells #[.int .i64 R2, .int .i64 C2, .slice a2 l2 p2] 24)).alloc (.cells #[.int .i64 0, .int .i64 0, .slice none 0 0] 24)).drew ∧ Mod U (((w.alloc (.cells #[.int .i64 R1, .int .i64 C1, .slice a1 l1 p1] 24)).alloc (.cells #[.int .i64 R2, .int .i64 C2, .slice a2 l2 p2] 24)).alloc (.cells #[.int .i64 0, .int .i64 0, .slice none 0 0] 24)) (((w.alloc (.cells #[.int .i64 R1, .int .i64 C1, .slice a1 l1 p1] 24)).alloc (.cells #[.int .i64 R2, .int .i64 C2, .slice a2 l2 p2] 24)).alloc (.cells #[.int .i64 0, .int .i64 0, .slice none 0 0] 24)).drew) := ⟨Blk.grown h G, mod_drew _ _⟩
  have HM : Hid (∀ wx, UC U c0 n0 wx → Mod U (((w.alloc (.cells #[.int .i64 R1, .int .i64 C1, .slice a1 l1 p1] 24)).alloc (.cells #[.int .i64 R2, .int .i64 C2, .slice a2 l2 p2] 24)).alloc (.cells #[.int .i64 0, .int .i64 0, .slice none 0 0] 24)).drew wx → (UC U c0 n0 wx ∧ Mod U (((w.alloc (.cells #[.int .i64 R1, .int .i64 C1, .slice a1 l1 p1] 24)).alloc (.cells #[.int .i64 R2, .int .i64 C2, .slice a2 l2 p2] 24)).alloc (.cells #[.int .i64 0, .int .i64 0, .slice none 0 0] 24)) wx)) := fun wx u m => ⟨u, (mod_drew U _).trans m⟩
  have HG := hide (And.intro G lU)
  clear hn0 hb h G s3 b0 b1 b2 lU
  go_enter Tryz.func13, Tryz.ntmps13
  go_wp2_with fail
  generalize (((w.alloc (.cells #[.int .i64 R1, .int .i64 C1, .slice a1 l1 p1] 24)).alloc (.cells #[.int .i64 R2, .int .i64 C2, .slice a2 l2 p2] 24)).alloc (.cells #[.int .i64 0, .int .i64 0, .slice none 0 0] 24)) = w1 at *
  refine region_G (fun w' => w'.cell? ⟨w.heap.size, 0, none⟩ = some (.int .i64 R1) ∧ w'.cell? ⟨w.heap.size, 1, none⟩ = some (.int .i64 C1) ∧ w'.cell? ⟨w.heap.size, 2, none⟩ = some (.slice a1 l1 p1) ∧ w'.cell? ⟨w.heap.size + 1, 0, none⟩ = some (.int .i64 R2) ∧ w'.cell? ⟨w.heap.size + 1, 1, none⟩ = some (.int .i64 C2) ∧ w'.cell? ⟨w.heap.size + 1, 2, none⟩ = some (.slice a2 l2 p2)) 9 (by kernel_rfl) (unhide HC w1.drew (unhide H0)) (fun hHeld => ?_)
  refine take_G (i := 0) (d := 15) (v := .pointer (some ⟨U, 0, none⟩)) rfl rfl (by kernel_rfl) (by kernel_rfl) (by kernel_rfl) (by kernel_rfl) (by kernel_rfl) (Or.inl ⟨by rfl, ?_⟩) hHeld ?_
  · intro wS hSw
    obtain ⟨z0, z1, z2, z3, z4, z5⟩ := hSw
    clear hHeld
    go_simp
  (try simp only [Act.put, List.setIfInBounds_toArray, List.set_cons_zero, List.set_cons_succ])
  refine take_G (i := 1) (d := 16) (v := .agg #[.int .i64 R2, .int .i64 C2, .slice a2 l2 p2]) rfl rfl (by kernel_rfl) (by kernel_rfl) (by kernel_rfl) (by kernel_rfl) (by kernel_rfl) (Or.inl ⟨by rfl, ?_⟩) hHeld ?_
  · intro wS hSw
    obtain ⟨z0, z1, z2, z3, z4, z5⟩ := hSw
    clear hHeld
    go_simp
  (try simp only [Act.put, List.setIfInBounds_toArray, List.set_cons_zero, List.set_cons_succ])
  refine take_G (i := 2) (d := 17) (v := .pointer (some ⟨w.heap.size, 1, none⟩)) rfl rfl (by kernel_rfl) (by kernel_rfl) (by kernel_rfl) (by kernel_rfl) (by kernel_rfl) (Or.inl ⟨by rfl, ?_⟩) hHeld ?_
  · intro wS hSw
    obtain ⟨z0, z1, z2, z3, z4, z5⟩ := hSw
    clear hHeld
    go_simp
  (try simp only [Act.put, List.setIfInBounds_toArray, List.set_cons_zero, List.set_cons_succ])
  refine take_G (i := 3) (d := 18) (v := .int .i64 C1) rfl rfl (by kernel_rfl) (by kernel_rfl) (by kernel_rfl) (by kernel_rfl) (by kernel_rfl) (Or.inl ⟨by rfl, ?_⟩) hHeld ?_
  · intro wS hSw
    obtain ⟨z0, z1, z2, z3, z4, z5⟩ := hSw
    clear hHeld
    go_simp
  (try simp only [Act.put, List.setIfInBounds_toArray, List.set_cons_zero, List.set_cons_succ])
  refine take_G (i := 5) (d := 20) (v := .agg #[.int .i64 R1, .int .i64 C1, .slice a1 l1 p1]) rfl rfl (by kernel_rfl) (by kernel_rfl) (by kernel_rfl) (by kernel_rfl) (by kernel_rfl) (Or.inl ⟨by rfl, ?_⟩) hHeld ?_
  · intro wS hSw
    obtain ⟨z0, z1, z2, z3, z4, z5⟩ := hSw
    clear hHeld
    go_simp
  (try simp only [Act.put, List.setIfInBounds_toArray, List.set_cons_zero, List.set_cons_succ])
  refine step_G (i := 4) (by kernel_rfl) (fun K hK => ?_)
  refine wpOp_of rfl rfl ?_
  unfold Oper.wp
  go_simp
  refine (unhide RF).mono ?_
  rintro e w2 ⟨rfl, u2, m2⟩
  have H2 := hide (unhide HM w2 u2 m2)
  clear u2 m2
  refine hK _ _ (fun _ => unhide HC w2 (unhide H2)) ?_
  clear hK K RF H0 hHeld
  (try simp only [Act.put, List.setIfInBounds_toArray, List.set_cons_zero, List.set_cons_succ])
  refine step_G (i := 6) (by kernel_rfl) (fun K hK => ?_)
  refine wpOp_of rfl rfl ?_
  unfold Oper.wp
  go_simp
  refine (unhide CK _).mono ?_
  rintro e w3 ⟨rfl, g3⟩
  have H3 := hide (unhide HG3 w2 w3 (unhide H2) g3)
  refine hK _ _ (fun _ => unhide HC w3 (unhide H3)) ?_
  clear hK K CK H2 g3
  (try simp only [Act.put, List.setIfInBounds_toArray, List.set_cons_zero, List.set_cons_succ])
  refine step_G (i := 7) (by kernel_rfl) (fun K hK => ?_)
  refine wpOp_of rfl rfl ?_
  unfold Oper.wp
  go_simp
  have g4 : Grown w3 (w3.alloc (.cells #[.int .i64 e1, .int .i64 e2] 33)) := (Grown.refl _).alloc _ _
  have b4 := Blk.new w3 #[.int .i64 e1, .int .i64 e2] 33
  have H4 := hide (unhide HG3 w3 _ (unhide H3) g4)
  refine hK _ _ (fun _ => unhide HC _ (unhide H4)) ?_
  clear hK K H3
  (try simp only [Act.put, List.setIfInBounds_toArray, List.set_cons_zero, List.set_cons_succ])
  generalize w3.alloc (.cells #[.int .i64 e1, .int .i64 e2] 33) = w4 at *
  refine step_G (i := 8) (by kernel_rfl) (fun K hK => ?_)
  refine wpOp_of rfl rfl ?_
  unfold Oper.wp
  go_simp
  refine (cmpOr e1 e2 w3.heap.size w4 (Blk.cell b4 0) (Blk.cell b4 1)).mono ?_
  rintro e w5 ⟨rfl, rfl⟩
  rw [unhide EOr]
  refine hK _ _ (fun _ => unhide HC _ (unhide H4)) ?_
  clear hK K g4 b4
  (try simp only [Act.put, List.setIfInBounds_toArray, List.set_cons_zero, List.set_cons_succ])
  refine step_G (i := 9) (by kernel_rfl) (fun K hK => ?_)
  refine wpOp_of rfl rfl ?_
  unfold Oper.wp
  go_simp
  refine hK _ _ (fun h => absurd rfl h) ?_
  clear hK K
  (try simp only [Act.put, List.setIfInBounds_toArray, List.set_cons_zero, List.set_cons_succ])
  refine done_G (by kernel_rfl) ?_
  refine noPanic_normalE ?_
  have b3 := unhide HR3 w5 (unhide H4)
  have e0 : w5.cell? ⟨w.heap.size + 1 + 1, 0, none⟩ = some (.int .i64 0) := Blk.cell b3 0
  have e1' : w5.cell? ⟨w.heap.size + 1 + 1, 1, none⟩ = some (.int .i64 0) := Blk.cell b3 1
  have e2' : w5.cell? ⟨w.heap.size + 1 + 1, 2, none⟩ = some (.slice none 0 0) := Blk.cell b3 2
  have ff := Blk.free b3
  have R := hide b3
  clear b3 HC HG3
  go_wp2
  have b3 := unhide R
  have P := putM b3 (.int .i64 0) (.int .i64 0) (.slice none 0 0)
  generalize (((w5.setCell ⟨w.heap.size + 1 + 1, 0, none⟩ (.int .i64 0)).setCell ⟨w.heap.size + 1 + 1, 1, none⟩ (.int .i64 0)).setCell ⟨w.heap.size + 1 + 1, 2, none⟩ (.slice none 0 0)) = wE at *
  have c0' : wE.cell? ⟨w.heap.size + 1 + 1, 0, none⟩ = some (.int .i64 0) := Blk.cell P.1 0
  have c1' : wE.cell? ⟨w.heap.size + 1 + 1, 1, none⟩ = some (.int .i64 0) := Blk.cell P.1 1
  have c2' : wE.cell? ⟨w.heap.size + 1 + 1, 2, none⟩ = some (.slice none 0 0) := Blk.cell P.1 2
  refine bodyPost_ret (v := .tuple #[.agg #[.int .i64 0, .int .i64 0, .slice none 0 0], .int .i64 3]) (by simp [results, Tryz.results13, go_sem, c0', c1', c2']) rfl ?_
  exact ⟨none, 0, w.heap.size, rfl, Nat.le_refl _, Nat.le_refl _, Or.inl rfl, Blk.keep (unhide H4).1 P.2 (by have := (unhide HG).2; omega), ((Mk.of (Mod.of (unhide HG).1)).trans (Mk.of (unhide H4).2)).new P.2 (by omega)⟩


set_option maxRecDepth 20000 in
set_option maxHeartbeats 4000000 in
theorem symSandwich_none (p : Option Addr) (R1 C1 R2 C2 : Int) (a1 a2 : Option Addr) (l1 p1 l2 p2 : Nat) (Z : Nat → Int) (w : World) (h : NU p w) :
    Calls Tryz.prog 13 #[.pointer p, .agg #[.int .i64 R1, .int .i64 C1, .slice a1 l1 p1], .agg #[.int .i64 R2, .int .i64 C2, .slice a2 l2 p2]] w fun e w' => SymP 0 0 0 Z 1 (Kp w) w e w' := by
  obtain ⟨G, s3, b0, b1, b2⟩ := alloc3 w #[.int .i64 R1, .int .i64 C1, .slice a1 l1 p1] 24 #[.int .i64 R2, .int .i64 C2, .slice a2 l2 p2] 24 #[.int .i64 0, .int .i64 0, .slice none 0 0] 24
  have RF := hide (symRefuse_none p R2 C2 C1 a2 l2 p2 (((w.alloc (.cells #[.int .i64 R1, .int .i64 C1, .slice a1 l1 p1] 24)).alloc (.cells #[.int .i64 R2, .int .i64 C2, .slice a2 l2 p2] 24)).alloc (.cells #[.int .i64 0, .int .i64 0, .slice none 0 0] 24)).drew (h.grown G))
  have CK := hide (fun w => matCheck R1 C1 a1 l1 p1 w)
  have EOr : Hid ((if (1 : Int) = 0 then chk R1 C1 l1 else 1) = 1) := rfl
  generalize chk R1 C1 l1 = e2 at *
  have HC : Hid (∀ wx, Kp (((w.alloc (.cells #[.int .i64 R1, .int .i64 C1, .slice a1 l1 p1] 24)).alloc (.cells #[.int .i64 R2, .int .i64 C2, .slice a2 l2 p2] 24)).alloc (.cells #[.int .i64 0, .int .i64 0, .slice none 0 0] 24)) wx → wx.cell? ⟨w.heap.size, 0, none⟩ = some (.int .i64 R1) ∧ wx.cell? ⟨w.heap.size, 1, none⟩ = some (.int .i64 C1) ∧ wx.cell? ⟨w.heap.size, 2, none⟩ = some (.slice a1 l1 p1) ∧ wx.cell? ⟨w.heap.size + 1, 0, none⟩ = some (.int .i64 R2) ∧ wx.cell? ⟨w.heap.size + 1, 1, none⟩ = some (.int .i64 C2) ∧ wx.cell? ⟨w.heap.size + 1, 2, none⟩ = some (.slice a2 l2 p2)) := fun wx k => ⟨Blk.cell (Blk.kp b0 k) 0, Blk.cell (Blk.kp b0 k) 1, Blk.cell (Blk.kp b0 k) 2, Blk.cell (Blk.kp b1 k) 0, Blk.cell (Blk.kp b1 k) 1, Blk.cell (Blk.kp b1 k) 2⟩
  have HR3 : Hid (∀ wx, Kp (((w.alloc (.cells #[.int .i64 R1, .int .i64 C1, .slice a1 l1 p1] 24)).alloc (.cells #[.int .i64 R2, .int .i64 C2, .slice a2 l2 p2] 24)).alloc (.cells #[.int .i64 0, .int .i64 0, .slice none 0 0] 24)) wx → Blk (w.heap.size + 1 + 1) #[.int .i64 0, .int .i64 0, .slice none 0 0] 24 wx) := fun wx k => Blk.kp b2 k
  have HG3 : Hid (∀ wx wy, Kp (((w.alloc (.cells #[.int .i64 R1, .int .i64 C1, .slice a1 l1 p1] 24)).alloc (.cells #[.int .i64 R2, .int .i64 C2, .slice a2 l2 p2] 24)).alloc (.cells #[.int .i64 0, .int .i64 0, .slice none 0 0] 24)) wx → Grown wx wy → Kp (((w.alloc (.cells #[.int .i64 R1, .int .i64 C1, .slice a1 l1 p1] 24)).alloc (.cells #[.int .i64 R2, .int .i64 C2, .slice a2 l2 p2] 24)).alloc (.cells #[.int .i64 0, .int .i64 0, .slice none 0 0] 24)) wy) := fun wx wy k g => k.grown g
  have H0 : Hid (Kp (((w.alloc (.cells #[.int .i64 R1, .int .i64 C1, .slice a1 l1 p1] 24)).alloc (.cells #[.int .i64 R2, .int .i64 C2, .slice a2 l2 p2] 24)).alloc (.cells #[.int .i64 0, .int .i64 0, .slice none 0 0] 24)) (((w.alloc (.cells #[.int .i64 R1, .int .i64 C1, .slice a1 l1 p1] 24)).alloc (.cells #[.int .i64 R2, .int .i64 C2, .slice a2 l2 p2] 24)).alloc (.cells #[.int .i64 0, .int .i64 0, .slice none 0 0] 24)).drew) := Kp.refl _
  have HG := hide G
  clear h G s3 b0 b1 b2
  go_enter Tryz.func13, Tryz.ntmps13
  go_wp2_with fail
  generalize (((w.alloc (.cells #[.int .i64 R1, .int .i64 C1, .slice a1 l1 p1] 24)).alloc (.cells #[.int .i64 R2, .int .i64 C2, .slice a2 l2 p2] 24)).alloc (.cells #[.int .i64 0, .int .i64 0, .slice none 0 0] 24)) = w1 at *
  refine region_G (fun w' => w'.cell? ⟨w.heap.size, 0, none⟩ = some (.int .i64 R1) ∧ w'.cell? ⟨w.heap.size, 1, none⟩ = some (.int .i64 C1) ∧ w'.cell? ⟨w.heap.size, 2, none⟩ = some (.slice a1 l1 p1) ∧ w'.cell? ⟨w.heap.size + 1, 0, none⟩ = some (.int .i64 R2) ∧ w'.cell? ⟨w.heap.size + 1, 1, none⟩ = some (.int .i64 C2) ∧ w'.cell? ⟨w.heap.size + 1, 2, none⟩ = some (.slice a2 l2 p2)) 9 (by kernel_rfl) (unhide HC w1.drew (unhide H0)) (fun hHeld => ?_)
  refine take_G (i := 0) (d := 15) (v := .pointer p) rfl rfl (by kernel_rfl) (by kernel_rfl) (by kernel_rfl) (by kernel_rfl) (by kernel_rfl) (Or.inl ⟨by rfl, ?_⟩) hHeld ?_
  · intro wS hSw
    obtain ⟨z0, z1, z2, z3, z4, z5⟩ := hSw
    clear hHeld
    go_simp
  (try simp only [Act.put, List.setIfInBounds_toArray, List.set_cons_zero, List.set_cons_succ])
  refine take_G (i := 1) (d := 16) (v := .agg #[.int .i64 R2, .int .i64 C2, .slice a2 l2 p2]) rfl rfl (by kernel_rfl) (by kernel_rfl) (by kernel_rfl) (by kernel_rfl) (by kernel_rfl) (Or.inl ⟨by rfl, ?_⟩) hHeld ?_
  · intro wS hSw
    obtain ⟨z0, z1, z2, z3, z4, z5⟩ := hSw
    clear hHeld
    go_simp
  (try simp only [Act.put, List.setIfInBounds_toArray, List.set_cons_zero, List.set_cons_succ])
  refine take_G (i := 2) (d := 17) (v := .pointer (some ⟨w.heap.size, 1, none⟩)) rfl rfl (by kernel_rfl) (by kernel_rfl) (by kernel_rfl) (by kernel_rfl) (by kernel_rfl) (Or.inl ⟨by rfl, ?_⟩) hHeld ?_
  · intro wS hSw
    obtain ⟨z0, z1, z2, z3, z4, z5⟩ := hSw
    clear hHeld
    go_simp
  (try simp only [Act.put, List.setIfInBounds_toArray, List.set_cons_zero, List.set_cons_succ])
  refine take_G (i := 3) (d := 18) (v := .int .i64 C1) rfl rfl (by kernel_rfl) (by kernel_rfl) (by kernel_rfl) (by kernel_rfl) (by kernel_rfl) (Or.inl ⟨by rfl, ?_⟩) hHeld ?_
  · intro wS hSw
    obtain ⟨z0, z1, z2, z3, z4, z5⟩ := hSw
    clear hHeld
    go_simp
  (try simp only [Act.put, List.setIfInBounds_toArray, List.set_cons_zero, List.set_cons_succ])
  refine take_G (i := 5) (d := 20) (v := .agg #[.int .i64 R1, .int .i64 C1, .slice a1 l1 p1]) rfl rfl (by kernel_rfl) (by kernel_rfl) (by kernel_rfl) (by kernel_rfl) (by kernel_rfl) (Or.inl ⟨by rfl, ?_⟩) hHeld ?_
  · intro wS hSw
    obtain ⟨z0, z1, z2, z3, z4, z5⟩ := hSw
    clear hHeld
    go_simp
  (try simp only [Act.put, List.setIfInBounds_toArray, List.set_cons_zero, List.set_cons_succ])
  refine step_G (i := 4) (by kernel_rfl) (fun K hK => ?_)
  refine wpOp_of rfl rfl ?_
  unfold Oper.wp
  go_simp
  refine (unhide RF).mono ?_
  rintro e w2 ⟨rfl, g2⟩
  have H2 := hide ((unhide H0).trans (Kp.of g2))
  clear g2
  refine hK _ _ (fun _ => unhide HC w2 (unhide H2)) ?_
  clear hK K RF H0 hHeld
  (try simp only [Act.put, List.setIfInBounds_toArray, List.set_cons_zero, List.set_cons_succ])
  refine step_G (i := 6) (by kernel_rfl) (fun K hK => ?_)
  refine wpOp_of rfl rfl ?_
  unfold Oper.wp
  go_simp
  refine (unhide CK _).mono ?_
  rintro e w3 ⟨rfl, g3⟩
  have H3 := hide (unhide HG3 w2 w3 (unhide H2) g3)
  refine hK _ _ (fun _ => unhide HC w3 (unhide H3)) ?_
  clear hK K CK H2 g3
  (try simp only [Act.put, List.setIfInBounds_toArray, List.set_cons_zero, List.set_cons_succ])
  refine step_G (i := 7) (by kernel_rfl) (fun K hK => ?_)
  refine wpOp_of rfl rfl ?_
  unfold Oper.wp
  go_simp
  have g4 : Grown w3 (w3.alloc (.cells #[.int .i64 1, .int .i64 e2] 33)) := (Grown.refl _).alloc _ _
  have b4 := Blk.new w3 #[.int .i64 1, .int .i64 e2] 33
  have H4 := hide (unhide HG3 w3 _ (unhide H3) g4)
  refine hK _ _ (fun _ => unhide HC _ (unhide H4)) ?_
  clear hK K H3
  (try simp only [Act.put, List.setIfInBounds_toArray, List.set_cons_zero, List.set_cons_succ])
  generalize w3.alloc (.cells #[.int .i64 1, .int .i64 e2] 33) = w4 at *
  refine step_G (i := 8) (by kernel_rfl) (fun K hK => ?_)
  refine wpOp_of rfl rfl ?_
  unfold Oper.wp
  go_simp
  refine (cmpOr 1 e2 w3.heap.size w4 (Blk.cell b4 0) (Blk.cell b4 1)).mono ?_
  rintro e w5 ⟨rfl, rfl⟩
  rw [unhide EOr]
  refine hK _ _ (fun _ => unhide HC _ (unhide H4)) ?_
  clear hK K g4 b4
  (try simp only [Act.put, List.setIfInBounds_toArray, List.set_cons_zero, List.set_cons_succ])
  refine step_G (i := 9) (by kernel_rfl) (fun K hK => ?_)
  refine wpOp_of rfl rfl ?_
  unfold Oper.wp
  go_simp
  refine hK _ _ (fun h => absurd rfl h) ?_
  clear hK K
  (try simp only [Act.put, List.setIfInBounds_toArray, List.set_cons_zero, List.set_cons_succ])
  refine done_G (by kernel_rfl) ?_
  refine noPanic_normalE ?_
  have b3 := unhide HR3 w5 (unhide H4)
  have e0 : w5.cell? ⟨w.heap.size + 1 + 1, 0, none⟩ = some (.int .i64 0) := Blk.cell b3 0
  have e1' : w5.cell? ⟨w.heap.size + 1 + 1, 1, none⟩ = some (.int .i64 0) := Blk.cell b3 1
  have e2' : w5.cell? ⟨w.heap.size + 1 + 1, 2, none⟩ = some (.slice none 0 0) := Blk.cell b3 2
  have ff := Blk.free b3
  have R := hide b3
  clear b3 HC HG3
  go_wp2
  have b3 := unhide R
  have P := putM b3 (.int .i64 0) (.int .i64 0) (.slice none 0 0)
  generalize (((w5.setCell ⟨w.heap.size + 1 + 1, 0, none⟩ (.int .i64 0)).setCell ⟨w.heap.size + 1 + 1, 1, none⟩ (.int .i64 0)).setCell ⟨w.heap.size + 1 + 1, 2, none⟩ (.slice none 0 0)) = wE at *
  have c0' : wE.cell? ⟨w.heap.size + 1 + 1, 0, none⟩ = some (.int .i64 0) := Blk.cell P.1 0
  have c1' : wE.cell? ⟨w.heap.size + 1 + 1, 1, none⟩ = some (.int .i64 0) := Blk.cell P.1 1
  have c2' : wE.cell? ⟨w.heap.size + 1 + 1, 2, none⟩ = some (.slice none 0 0) := Blk.cell P.1 2
  refine bodyPost_ret (v := .tuple #[.agg #[.int .i64 0, .int .i64 0, .slice none 0 0], .int .i64 1]) (by simp [results, Tryz.results13, go_sem, c0', c1', c2']) rfl ?_
  exact ⟨none, 0, w.heap.size, rfl, Nat.le_refl _, Nat.le_refl _, Or.inl rfl, ((Kp.of (unhide HG)).trans (unhide H4)).mod P.2 (by omega)⟩


set_option maxRecDepth 20000 in
set_option maxHeartbeats 8000000 in
theorem symSandwich_ok (U : Nat) (c0 : Bool) (n0 : Int) (hn0 : 0 ≤ n0 ∧ n0 < 1000000000000000000) (r m : Nat) (a1 a2 : Option Addr) (l1 p1 l2 p2 : Nat) (A B : Nat → Int) (hr : 1 ≤ r ∧ r ≤ 12) (hm : 1 ≤ m ∧ m ≤ 12) (hl1 : l1 = r * m) (hl2 : l2 = m * m) (hp1 : l1 ≤ p1) (hA : ∀ j, j < l1 → I64 (A j)) (hB : ∀ j, j < l2 → I64 (B j)) (w : World) (h : UC U c0 n0 w) (ra : Row w a1 l1 A) (oa : Off U l1 a1) (rb : Row w a2 l2 B) (ob : Off U l2 a2) :
    Calls Tryz.prog 13 #[.pointer (some ⟨U, 0, none⟩), .agg #[.int .i64 r, .int .i64 m, .slice a1 l1 p1], .agg #[.int .i64 m, .int .i64 m, .slice a2 l2 p2]] w fun e w' => SymP r r (r * r) (evenZ (mulZ (mulZ A B m m) (turnZ A r m) m r) r) 0 (UX U (c0 || orC (mulG A B m m) (r * m) || orC (mulG (mulZ A B m m) (turnZ A r m) m r) (r * r) || orC (upC (evC (mulZ (mulZ A B m m) (turnZ A r m) m r) r) 1 r) (r * r)) n0 10000 w) w e w' := by
  have ok1 : okM r m l1 := ⟨by omega, by omega, by rw [hl1, Int.natCast_mul]⟩
  have ok2 : sqM m m l2 m := sqM_of hm hl2
  have lU := Blk.lt h
  obtain ⟨G, s3, b0, b1, b2⟩ := alloc3 w #[.int .i64 r, .int .i64 m, .slice a1 l1 p1] 24 #[.int .i64 m, .int .i64 m, .slice a2 l2 p2] 24 #[.int .i64 0, .int .i64 0, .slice none 0 0] 24
  have RF := hide (symRefuse U c0 n0 ⟨hn0.1, by omega⟩ m m m a2 l2 p2 (((w.alloc (.cells #[.int .i64 r, .int .i64 m, .slice a1 l1 p1] 24)).alloc (.cells #[.int .i64 m, .int .i64 m, .slice a2 l2 p2] 24)).alloc (.cells #[.int .i64 0, .int .i64 0, .slice none 0 0] 24)).drew (Blk.grown h G))
  rw [refE_ok ok2] at RF
  have CK := hide (fun w => matCheck r m a1 l1 p1 w)
  rw [chk_ok ok1] at CK
  have F0 : GS w U [(w.heap.size + 1 + 1, #[.int .i64 0, .int .i64 0, .slice none 0 0]), (w.heap.size + 1, #[.int .i64 m, .int .i64 m, .slice a2 l2 p2]), (w.heap.size, #[.int .i64 r, .int .i64 m, .slice a1 l1 p1])] [(a2, l2, B), (a1, l1, A)] c0 n0 (((w.alloc (.cells #[.int .i64 r, .int .i64 m, .slice a1 l1 p1] 24)).alloc (.cells #[.int .i64 m, .int .i64 m, .slice a2 l2 p2] 24)).alloc (.cells #[.int .i64 0, .int .i64 0, .slice none 0 0] 24)) := by
    refine ⟨fun b hb => ?_, fun q hq => ?_, Blk.grown h G, Mk.of (Mod.of G), lU⟩
    · simp only [List.mem_cons, List.not_mem_nil, or_false] at hb
      rcases hb with rfl | rfl | rfl
      · exact ⟨b2, by show w.heap.size ≤ w.heap.size + 1 + 1; omega⟩
      · exact ⟨b1, by show w.heap.size ≤ w.heap.size + 1; omega⟩
      · exact ⟨b0, Nat.le_refl _⟩
    · simp only [List.mem_cons, List.not_mem_nil, or_false] at hq
      rcases hq with rfl | rfl
      · exact ⟨rb.grown G, ob⟩
      · exact ⟨ra.grown G, oa⟩
  have HC : Hid (∀ wx, GS w U [(w.heap.size + 1 + 1, #[.int .i64 0, .int .i64 0, .slice none 0 0]), (w.heap.size + 1, #[.int .i64 m, .int .i64 m, .slice a2 l2 p2]), (w.heap.size, #[.int .i64 r, .int .i64 m, .slice a1 l1 p1])] [(a2, l2, B), (a1, l1, A)] c0 n0 wx → wx.cell? ⟨w.heap.size, 0, none⟩ = some (.int .i64 r) ∧ wx.cell? ⟨w.heap.size, 1, none⟩ = some (.int .i64 m) ∧ wx.cell? ⟨w.heap.size, 2, none⟩ = some (.slice a1 l1 p1) ∧ wx.cell? ⟨w.heap.size + 1, 0, none⟩ = some (.int .i64 m) ∧ wx.cell? ⟨w.heap.size + 1, 1, none⟩ = some (.int .i64 m) ∧ wx.cell? ⟨w.heap.size + 1, 2, none⟩ = some (.slice a2 l2 p2)) := fun wx k => ⟨(k.cells (b := w.heap.size) (x0 := .int .i64 r) (x1 := .int .i64 m) (x2 := .slice a1 l1 p1) (by simp)).1, (k.cells (b := w.heap.size) (x0 := .int .i64 r) (x1 := .int .i64 m) (x2 := .slice a1 l1 p1) (by simp)).2.1, (k.cells (b := w.heap.size) (x0 := .int .i64 r) (x1 := .int .i64 m) (x2 := .slice a1 l1 p1) (by simp)).2.2, k.cells (b := w.heap.size + 1) (x0 := .int .i64 m) (x1 := .int .i64 m) (x2 := .slice a2 l2 p2) (by simp)⟩
  have HG3 : Hid (∀ wx wy, GS w U [(w.heap.size + 1 + 1, #[.int .i64 0, .int .i64 0, .slice none 0 0]), (w.heap.size + 1, #[.int .i64 m, .int .i64 m, .slice a2 l2 p2]), (w.heap.size, #[.int .i64 r, .int .i64 m, .slice a1 l1 p1])] [(a2, l2, B), (a1, l1, A)] c0 n0 wx → Grown wx wy → GS w U [(w.heap.size + 1 + 1, #[.int .i64 0, .int .i64 0, .slice none 0 0]), (w.heap.size + 1, #[.int .i64 m, .int .i64 m, .slice a2 l2 p2]), (w.heap.size, #[.int .i64 r, .int .i64 m, .slice a1 l1 p1])] [(a2, l2, B), (a1, l1, A)] c0 n0 wy) := fun wx wy k g => k.kp (Kp.of g)
  have H0 : Hid (GS w U [(w.heap.size + 1 + 1, #[.int .i64 0, .int .i64 0, .slice none 0 0]), (w.heap.size + 1, #[.int .i64 m, .int .i64 m, .slice a2 l2 p2]), (w.heap.size, #[.int .i64 r, .int .i64 m, .slice a1 l1 p1])] [(a2, l2, B), (a1, l1, A)] c0 n0 (((w.alloc (.cells #[.int .i64 r, .int .i64 m, .slice a1 l1 p1] 24)).alloc (.cells #[.int .i64 m, .int .i64 m, .slice a2 l2 p2] 24)).alloc (.cells #[.int .i64 0, .int .i64 0, .slice none 0 0] 24)).drew) := GS.kp F0 (show Kp (((w.alloc (.cells #[.int .i64 r, .int .i64 m, .slice a1 l1 p1] 24)).alloc (.cells #[.int .i64 m, .int .i64 m, .slice a2 l2 p2] 24)).alloc (.cells #[.int .i64 0, .int .i64 0, .slice none 0 0] 24)) (((w.alloc (.cells #[.int .i64 r, .int .i64 m, .slice a1 l1 p1] 24)).alloc (.cells #[.int .i64 m, .int .i64 m, .slice a2 l2 p2] 24)).alloc (.cells #[.int .i64 0, .int .i64 0, .slice none 0 0] 24)).drew from Kp.refl _)
  have HM : Hid (∀ wx, UC U c0 n0 wx → Mod U (((w.alloc (.cells #[.int .i64 r, .int .i64 m, .slice a1 l1 p1] 24)).alloc (.cells #[.int .i64 m, .int .i64 m, .slice a2 l2 p2] 24)).alloc (.cells #[.int .i64 0, .int .i64 0, .slice none 0 0] 24)).drew wx → GS w U [(w.heap.size + 1 + 1, #[.int .i64 0, .int .i64 0, .slice none 0 0]), (w.heap.size + 1, #[.int .i64 m, .int .i64 m, .slice a2 l2 p2]), (w.heap.size, #[.int .i64 r, .int .i64 m, .slice a1 l1 p1])] [(a2, l2, B), (a1, l1, A)] c0 n0 wx) := fun wx u q => GS.mk F0 (Mk.of ((mod_drew U _).trans q)) u
  have HH := hide (And.intro hn0 (And.intro hr (And.intro hm (And.intro hl1 (And.intro hl2 hp1)))))
  have HA := hide (And.intro hA hB)
  have B1 := hide (bndH m (r * m) hm.2 (by have := mul12n r m hr hm; omega))
  have B2 := hide (bndH m (r * r) hm.2 (by have := mul12n r r hr hr; omega))
  clear hn0 hr hm hl1 hl2 hp1 hA hB h ra oa rb ob ok1 ok2 lU G s3 b0 b1 b2 F0
  go_enter Tryz.func13, Tryz.ntmps13
  go_wp2_with fail
  generalize (((w.alloc (.cells #[.int .i64 r, .int .i64 m, .slice a1 l1 p1] 24)).alloc (.cells #[.int .i64 m, .int .i64 m, .slice a2 l2 p2] 24)).alloc (.cells #[.int .i64 0, .int .i64 0, .slice none 0 0] 24)) = w1 at *
  refine region_G (fun w' => w'.cell? ⟨w.heap.size, 0, none⟩ = some (.int .i64 r) ∧ w'.cell? ⟨w.heap.size, 1, none⟩ = some (.int .i64 m) ∧ w'.cell? ⟨w.heap.size, 2, none⟩ = some (.slice a1 l1 p1) ∧ w'.cell? ⟨w.heap.size + 1, 0, none⟩ = some (.int .i64 m) ∧ w'.cell? ⟨w.heap.size + 1, 1, none⟩ = some (.int .i64 m) ∧ w'.cell? ⟨w.heap.size + 1, 2, none⟩ = some (.slice a2 l2 p2)) 9 (by kernel_rfl) (unhide HC w1.drew (unhide H0)) (fun hHeld => ?_)
  refine take_G (i := 0) (d := 15) (v := .pointer (some ⟨U, 0, none⟩)) rfl rfl (by kernel_rfl) (by kernel_rfl) (by kernel_rfl) (by kernel_rfl) (by kernel_rfl) (Or.inl ⟨by rfl, ?_⟩) hHeld ?_
  · intro wS hSw
    obtain ⟨z0, z1, z2, z3, z4, z5⟩ := hSw
    clear hHeld
    go_simp
  (try simp only [Act.put, List.setIfInBounds_toArray, List.set_cons_zero, List.set_cons_succ])
  refine take_G (i := 1) (d := 16) (v := .agg #[.int .i64 m, .int .i64 m, .slice a2 l2 p2]) rfl rfl (by kernel_rfl) (by kernel_rfl) (by kernel_rfl) (by kernel_rfl) (by kernel_rfl) (Or.inl ⟨by rfl, ?_⟩) hHeld ?_
  · intro wS hSw
    obtain ⟨z0, z1, z2, z3, z4, z5⟩ := hSw
    clear hHeld
    go_simp
  (try simp only [Act.put, List.setIfInBounds_toArray, List.set_cons_zero, List.set_cons_succ])
  refine take_G (i := 2) (d := 17) (v := .pointer (some ⟨w.heap.size, 1, none⟩)) rfl rfl (by kernel_rfl) (by kernel_rfl) (by kernel_rfl) (by kernel_rfl) (by kernel_rfl) (Or.inl ⟨by rfl, ?_⟩) hHeld ?_
  · intro wS hSw
    obtain ⟨z0, z1, z2, z3, z4, z5⟩ := hSw
    clear hHeld
    go_simp
  (try simp only [Act.put, List.setIfInBounds_toArray, List.set_cons_zero, List.set_cons_succ])
  refine take_G (i := 3) (d := 18) (v := .int .i64 m) rfl rfl (by kernel_rfl) (by kernel_rfl) (by kernel_rfl) (by kernel_rfl) (by kernel_rfl) (Or.inl ⟨by rfl, ?_⟩) hHeld ?_
  · intro wS hSw
    obtain ⟨z0, z1, z2, z3, z4, z5⟩ := hSw
    clear hHeld
    go_simp
  (try simp only [Act.put, List.setIfInBounds_toArray, List.set_cons_zero, List.set_cons_succ])
  refine take_G (i := 5) (d := 20) (v := .agg #[.int .i64 r, .int .i64 m, .slice a1 l1 p1]) rfl rfl (by kernel_rfl) (by kernel_rfl) (by kernel_rfl) (by kernel_rfl) (by kernel_rfl) (Or.inl ⟨by rfl, ?_⟩) hHeld ?_
  · intro wS hSw
    obtain ⟨z0, z1, z2, z3, z4, z5⟩ := hSw
    clear hHeld
    go_simp
  (try simp only [Act.put, List.setIfInBounds_toArray, List.set_cons_zero, List.set_cons_succ])
  refine step_G (i := 4) (by kernel_rfl) (fun K hK => ?_)
  refine wpOp_of rfl rfl ?_
  unfold Oper.wp
  go_simp
  refine (unhide RF).mono ?_
  rintro e w2 ⟨rfl, u2, m2⟩
  have H2 := hide (unhide HM w2 u2 m2)
  clear u2 m2
  refine hK _ _ (fun _ => unhide HC w2 (unhide H2)) ?_
  clear hK K RF H0 hHeld
  (try simp only [Act.put, List.setIfInBounds_toArray, List.set_cons_zero, List.set_cons_succ])
  refine step_G (i := 6) (by kernel_rfl) (fun K hK => ?_)
  refine wpOp_of rfl rfl ?_
  unfold Oper.wp
  go_simp
  refine (unhide CK _).mono ?_
  rintro e w3 ⟨rfl, g3⟩
  have H3 := hide (unhide HG3 w2 w3 (unhide H2) g3)
  refine hK _ _ (fun _ => unhide HC w3 (unhide H3)) ?_
  clear hK K CK H2 g3
  (try simp only [Act.put, List.setIfInBounds_toArray, List.set_cons_zero, List.set_cons_succ])
  refine step_G (i := 7) (by kernel_rfl) (fun K hK => ?_)
  refine wpOp_of rfl rfl ?_
  unfold Oper.wp
  go_simp
  have g4 : Grown w3 (w3.alloc (.cells #[.int .i64 0, .int .i64 0] 33)) := (Grown.refl _).alloc _ _
  have b4 := Blk.new w3 #[.int .i64 0, .int .i64 0] 33
  have H4 := hide (unhide HG3 w3 _ (unhide H3) g4)
  refine hK _ _ (fun _ => unhide HC _ (unhide H4)) ?_
  clear hK K H3
  (try simp only [Act.put, List.setIfInBounds_toArray, List.set_cons_zero, List.set_cons_succ])
  generalize w3.alloc (.cells #[.int .i64 0, .int .i64 0] 33) = w4 at *
  refine step_G (i := 8) (by kernel_rfl) (fun K hK => ?_)
  refine wpOp_of rfl rfl ?_
  unfold Oper.wp
  go_simp
  refine (cmpOr 0 0 w3.heap.size w4 (Blk.cell b4 0) (Blk.cell b4 1)).mono ?_
  rintro e w5 ⟨rfl, rfl⟩
  rw [if_pos rfl]
  refine hK _ _ (fun _ => unhide HC _ (unhide H4)) ?_
  clear hK K g4 b4
  (try simp only [Act.put, List.setIfInBounds_toArray, List.set_cons_zero, List.set_cons_succ])
  refine step_G (i := 9) (by kernel_rfl) (fun K hK => ?_)
  refine wpOp_of rfl rfl ?_
  unfold Oper.wp
  go_simp
  refine hK _ _ (fun h => absurd rfl h) ?_
  clear hK K
  (try simp only [Act.put, List.setIfInBounds_toArray, List.set_cons_zero, List.set_cons_succ])
  refine done_G (by kernel_rfl) ?_
  refine noPanic_normalE ?_
  have F2 : Hid (GS w U [(w.heap.size + 1 + 1, #[.int .i64 0, .int .i64 0, .slice none 0 0]), (w.heap.size + 1, #[.int .i64 m, .int .i64 m, .slice a2 l2 p2]), (w.heap.size, #[.int .i64 r, .int .i64 m, .slice a1 l1 p1])] [(a2, l2, B), (a1, l1, A)] c0 n0 w5) := unhide H4
  clear H4 HC HG3 HM
  obtain ⟨x0, x1, x2⟩ := (unhide F2).cells (b := w.heap.size) (x0 := .int .i64 r) (x1 := .int .i64 m) (x2 := .slice a1 l1 p1) (by simp)
  obtain ⟨y0, y1, y2⟩ := (unhide F2).cells (b := w.heap.size + 1) (x0 := .int .i64 m) (x1 := .int .i64 m) (x2 := .slice a2 l2 p2) (by simp)
  go_wp2_with fail
  refine (mulAny U c0 n0 (by have := (unhide HH).1; omega) r m m m a1 a2 l1 p1 l2 p2 A B (unhide HH).2.2.2.2.2 (unhide HA).1 (unhide HA).2 _ (unhide F2).2.2.1 ((unhide F2).at (ao := a1) (len := l1) (Z := A) (by simp)).1 ((unhide F2).at (ao := a1) (len := l1) (Z := A) (by simp)).2 ((unhide F2).at (ao := a2) (len := l2) (Z := B) (by simp)).1 ((unhide F2).at (ao := a2) (len := l2) (Z := B) (by simp)).2 _ (mulO_of (by have hh := unhide HH; exact ⟨by omega, by omega, by rw [hh.2.2.2.1, Int.natCast_mul]⟩) (by have hh := unhide HH; exact ⟨by omega, by omega, by rw [hh.2.2.2.2.1, Int.natCast_mul]⟩) rfl)).mono ?_
  intro e v2 hm2
  obtain ⟨s2, t2, rfl, hc2, T⟩ := (unhide F2).told (r := r) (c := m) (len := r * m) (Z := (mulZ A B m m)) (err := 0) (cut' := (c0 || orC (mulG A B m m) (r * m))) (n' := (n0 + 2 * m * ((r * m : Nat) : Int))) hm2
  have F3 := hide (T.box #[.int .i64 r, .int .i64 m, .slice s2 (r * m) t2])
  clear hm2 T F2 x0 x1 x2 y0 y1 y2
  obtain ⟨x0, x1, x2⟩ := (unhide F3).cells (b := w.heap.size) (x0 := .int .i64 r) (x1 := .int .i64 m) (x2 := .slice a1 l1 p1) (by simp)
  generalize hv3 : v2.alloc (.cells #[.int .i64 r, .int .i64 m, .slice s2 (r * m) t2] 24) = v3 at F3
  have x0' : v3.cell? ⟨w.heap.size, 0, none⟩ = some (.int .i64 r) := by rw [← hv3]; exact x0
  have x1' : v3.cell? ⟨w.heap.size, 1, none⟩ = some (.int .i64 m) := by rw [← hv3]; exact x1
  have x2' : v3.cell? ⟨w.heap.size, 2, none⟩ = some (.slice a1 l1 p1) := by rw [← hv3]; exact x2
  clear x0 x1 x2
  go_wp2_with fail
  clear hv3
  obtain ⟨b1, o1, e1, zc⟩ := ((unhide F3).at (ao := a1) (len := l1) (Z := A) (by simp)).1.some (by have := mul12n r m (unhide HH).2.1 (unhide HH).2.2.1; have := (unhide HH).2.2.2.1; omega)
  have TU := turnAny r m a1 l1 p1 A v3 ((unhide F3).at (ao := a1) (len := l1) (Z := A) (by simp)).1 _ (turnO_of (by have hh := unhide HH; exact ⟨by omega, by omega, by rw [hh.2.2.2.1, Int.natCast_mul]⟩))
  refine TU.mono ?_
  clear TU zc e1
  intro e v4 hm4
  obtain ⟨s1, t1, rfl, hc1, T⟩ := (unhide F3).toldK (r := m) (c := r) (len := m * r) (Z := (turnZ A r m)) (err := 0) hm4
  have F4 := hide (T.box #[.int .i64 m, .int .i64 r, .slice s1 (m * r) t1])
  clear hm4 T F3 x0' x1' x2'
  generalize hv5 : v4.alloc (.cells #[.int .i64 m, .int .i64 r, .slice s1 (m * r) t1] 24) = v5 at F4
  obtain ⟨x0, x1, x2⟩ := (unhide F4).cells (b := v2.heap.size) (x0 := .int .i64 r) (x1 := .int .i64 m) (x2 := .slice s2 (r * m) t2) (by simp)
  obtain ⟨y0, y1, y2⟩ := (unhide F4).cells (b := v4.heap.size) (x0 := .int .i64 m) (x1 := .int .i64 r) (x2 := .slice s1 (m * r) t1) (by simp)
  go_wp2_with fail
  clear hv5
  refine (mulAny U (c0 || orC (mulG A B m m) (r * m)) (n0 + 2 * m * ((r * m : Nat) : Int)) (by have := (unhide HH).1; have := unhide B1; omega) r m m r s2 s1 (r * m) t2 (m * r) t1 (mulZ A B m m) (turnZ A r m) hc2 (fun j _ => mulZ_I64 _ _ _ _ _) (fun j hj => turn_I64 A r m (fun i hi => (unhide HA).1 i (by rw [(unhide HH).2.2.2.1]; exact hi)) j hj) _ (unhide F4).2.2.1 ((unhide F4).at (ao := s2) (len := r * m) (Z := (mulZ A B m m)) (by simp)).1 ((unhide F4).at (ao := s2) (len := r * m) (Z := (mulZ A B m m)) (by simp)).2 ((unhide F4).at (ao := s1) (len := m * r) (Z := (turnZ A r m)) (by simp)).1 ((unhide F4).at (ao := s1) (len := m * r) (Z := (turnZ A r m)) (by simp)).2 _ (mulO_of (by have hh := unhide HH; exact ⟨by omega, by omega, by rw [Int.natCast_mul]⟩) (by have hh := unhide HH; exact ⟨by omega, by omega, by rw [Int.natCast_mul]⟩) rfl)).mono ?_
  intro e v6 hm6
  obtain ⟨s4, t4, rfl, hc4, T⟩ := (unhide F4).told (r := r) (c := r) (len := r * r) (Z := (mulZ (mulZ A B m m) (turnZ A r m) m r)) (err := 0) (cut' := (c0 || orC (mulG A B m m) (r * m) || orC (mulG (mulZ A B m m) (turnZ A r m) m r) (r * r))) (n' := (n0 + 2 * m * ((r * m : Nat) : Int) + 2 * m * ((r * r : Nat) : Int))) hm6
  have F6 := hide (T.box #[.int .i64 r, .int .i64 r, .slice s4 (r * r) t4])
  clear hm6 T F4 x0 x1 x2 y0 y1 y2
  generalize hv7 : v6.alloc (.cells #[.int .i64 r, .int .i64 r, .slice s4 (r * r) t4] 24) = v7 at F6
  obtain ⟨x0, x1, x2⟩ := (unhide F6).cells (b := v6.heap.size) (x0 := .int .i64 r) (x1 := .int .i64 r) (x2 := .slice s4 (r * r) t4) (by simp)
  go_wp2_with fail
  clear hv7
  obtain ⟨b4, o4, e4, zc⟩ := ((unhide F6).at (ao := s4) (len := r * r) (Z := (mulZ (mulZ A B m m) (turnZ A r m) m r)) (by simp)).1.some (mul12n r r (unhide HH).2.1 (unhide HH).2.1).1
  have off4 := ((unhide F6).at (ao := s4) (len := r * r) (Z := (mulZ (mulZ A B m m) (turnZ A r m) m r)) (by simp)).2
  have EV := symEven_ok U (c0 || orC (mulG A B m m) (r * m) || orC (mulG (mulZ A B m m) (turnZ A r m) m r) (r * r)) (n0 + 2 * m * ((r * m : Nat) : Int) + 2 * m * ((r * r : Nat) : Int)) (by have := (unhide HH).1; have := unhide B1; have := unhide B2; omega) r (r * r) t4 b4 o4 (mulZ (mulZ A B m m) (turnZ A r m) m r) (unhide HH).2.1 rfl (fun j _ => mulZ_I64 _ _ _ _ _) _ (unhide F6).2.2.1 zc (by rw [e4] at off4; exact off_at off4 (mul12n r r (unhide HH).2.1 (unhide HH).2.1).1)
  rw [← e4] at EV
  refine EV.mono ?_
  clear EV zc e4 off4
  rintro e v8 ⟨s5, t5, L, rfl, hc5, hL, hown, ⟨k, h1, h2, hu⟩, mk5⟩
  have F7 := hide ((unhide F6).mk mk5 hu)
  have b3 := ((unhide F7).1 (w.heap.size + 1 + 1, #[.int .i64 0, .int .i64 0, .slice none 0 0]) (by simp)).1
  have lz := Blk.lt ((unhide F6).1 (w.heap.size + 1 + 1, #[.int .i64 0, .int .i64 0, .slice none 0 0]) (by simp)).1
  have e0 : v8.cell? ⟨w.heap.size + 1 + 1, 0, none⟩ = some (.int .i64 0) := Blk.cell b3 0
  have e1 : v8.cell? ⟨w.heap.size + 1 + 1, 1, none⟩ = some (.int .i64 0) := Blk.cell b3 1
  have e2 : v8.cell? ⟨w.heap.size + 1 + 1, 2, none⟩ = some (.slice none 0 0) := Blk.cell b3 2
  have ff := Blk.free b3
  have R6 := hide (And.intro b3 (And.intro hc5 (And.intro hL (And.intro hown (And.intro h1 (And.intro h2 (And.intro hu lz)))))))
  have W6 := hide (unhide F6).2.2.2.1.2.2.2
  have LU := hide (unhide F6).2.2.2.2
  clear b3 hc5 hL hown h1 h2 hu mk5 F6 lz x0 x1 x2
  generalize hrr : r * r = rr at *
  go_wp2
  obtain ⟨b3, hc5, hL, hown, h1, h2, hu, lz⟩ := unhide R6
  have P := putM b3 (.int .i64 r) (.int .i64 r) (.slice s5 rr t5)
  generalize (((v8.setCell ⟨w.heap.size + 1 + 1, 0, none⟩ (.int .i64 r)).setCell ⟨w.heap.size + 1 + 1, 1, none⟩ (.int .i64 r)).setCell ⟨w.heap.size + 1 + 1, 2, none⟩ (.slice s5 rr t5)) = wE at *
  have c0' : wE.cell? ⟨w.heap.size + 1 + 1, 0, none⟩ = some (.int .i64 r) := Blk.cell P.1 0
  have c1' : wE.cell? ⟨w.heap.size + 1 + 1, 1, none⟩ = some (.int .i64 r) := Blk.cell P.1 1
  have c2' : wE.cell? ⟨w.heap.size + 1 + 1, 2, none⟩ = some (.slice s5 rr t5) := Blk.cell P.1 2
  refine bodyPost_ret (v := .tuple #[.agg #[.int .i64 r, .int .i64 r, .slice s5 rr t5], .int .i64 0]) (by simp [results, Tryz.results13, go_sem, c0', c1', c2']) rfl ?_
  subst hrr
  have f7 := (unhide F7).2.2.2
  have w6 := unhide W6
  have lU := unhide LU
  have q1 := unhide B1
  have q2 := unhide B2
  exact ⟨_, _, L, rfl, hc5, by omega, hown.imp id (fun h => ⟨h.1, h.2.mk (Mk.of P.2) (by omega)⟩), ⟨k, by omega, by omega, Blk.keep hu P.2 (by omega)⟩, f7.1.new P.2 (by omega)⟩


end Go.Proofs.YtgahdjfkmpadoaaGreat
