/- Blocks, rows of numbers, and what stays of the world: words that all later stages use. -/
import Derived.Test.YtopaakjildmjcaaGreatWideC
namespace Go.Proofs.YtopaakjildmjcaaGreat
open Go.RowKit Go.Proofs.Wd
set_option linter.unusedVariables false
set_option linter.unusedSimpArgs false
set_option maxRecDepth 10000

/-- But for block U, and new blocks, the world is as it was. -/
def Mod (U : Nat) (w w' : World) : Prop :=
  w'.os = w.os ∧ w'.output = w.output ∧ (∀ k, k < w.heap.size → k ≠ U → w'.heap[k]? = w.heap[k]?) ∧ (∀ a, w'.frozen? a = w.frozen? a) ∧ w.heap.size ≤ w'.heap.size

theorem gblock {w w' : World} (h : Grown w w') {k : Nat} (hk : k < w.heap.size) : w'.heap[k]? = w.heap[k]? := by
  have h1 := h.1.2.2 k hk
  generalize w.heap[k]? = a at *
  generalize w'.heap[k]? = b at *
  rcases a with _ | (⟨c, t, fr⟩ | ⟨es, cl⟩ | _) <;> rcases b with _ | (⟨c', t', fr'⟩ | ⟨es', cl'⟩ | _) <;> simp_all
  apply Array.ext_getElem?
  exact h1.2.2.2

theorem Mod.of {U : Nat} {w w' : World} (h : Grown w w') : Mod U w w' := ⟨h.1.1, h.1.2.1, fun k hk _ => gblock h hk, h.2.1, h.2.2⟩
theorem Mod.refl (U : Nat) (w : World) : Mod U w w := ⟨rfl, rfl, fun _ _ _ => rfl, fun _ => rfl, Nat.le_refl _⟩
theorem Mod.trans {U : Nat} {a b c : World} (h : Mod U a b) (k : Mod U b c) : Mod U a c :=
  ⟨k.1.trans h.1, k.2.1.trans h.2.1, fun i hi hu => (k.2.2.1 i (Nat.lt_of_lt_of_le hi h.2.2.2.2) hu).trans (h.2.2.1 i hi hu), fun x => (k.2.2.2.1 x).trans (h.2.2.2.1 x), Nat.le_trans h.2.2.2.2 k.2.2.2.2⟩
theorem Mod.setCell {U : Nat} {a w : World} (h : Mod U a w) (o : Nat) (v : Value) : Mod U a (w.setCell ⟨U, o, none⟩ v) := by
  refine h.trans ⟨rfl, rfl, fun k hk hu => ?_, fun x => World.frozen?_setCell _ _ _ _, by simp [World.setCell]⟩
  exact Below.heap_setCell _ _ _ _ hu
theorem Mod.grown {U : Nat} {W a b : World} (g : Grown W a) (h : Mod U a b) (hU : W.heap.size ≤ U) : Grown W b := by
  refine ⟨⟨h.1.trans g.1.1, h.2.1.trans g.1.2.1, fun i hi => ?_⟩, fun x => (h.2.2.2.1 x).trans (g.2.1 x), Nat.le_trans g.2.2 h.2.2.2.2⟩
  have e : b.heap[i]? = W.heap[i]? := (h.2.2.1 i (Nat.lt_of_lt_of_le hi g.2.2) (by omega)).trans (gblock g hi)
  rw [e]
  split <;> simp_all

/-- A block of cells that are not frozen. -/
def Blk (U : Nat) (cs : Array Value) (T : TypeId) (w : World) : Prop := w.heap[U]? = some (.cells cs T (0, 0))
theorem Blk.lt {U : Nat} {cs : Array Value} {T : TypeId} {w : World} (h : Blk U cs T w) : U < w.heap.size := (Array.getElem?_eq_some_iff.1 h).1
theorem Blk.cell {U : Nat} {cs : Array Value} {T : TypeId} {w : World} (h : Blk U cs T w) (o : Nat) : w.cell? ⟨U, o, none⟩ = cs[o]? := cell_of_row w U o cs T (0, 0) h
theorem Blk.free {U : Nat} {cs : Array Value} {T : TypeId} {w : World} (h : Blk U cs T w) (o : Nat) : w.frozen? ⟨U, o, none⟩ = false := by
  unfold Blk at h
  simp [World.frozen?, h]
theorem Blk.keep {U V : Nat} {cs : Array Value} {T : TypeId} {w w' : World} (h : Blk U cs T w) (m : Mod V w w') (hne : U ≠ V) : Blk U cs T w' := (m.2.2.1 U h.lt hne).trans h
theorem Blk.grown {U : Nat} {cs : Array Value} {T : TypeId} {w w' : World} (h : Blk U cs T w) (m : Grown w w') : Blk U cs T w' := (gblock m h.lt).trans h
theorem Blk.set {U : Nat} {cs : Array Value} {T : TypeId} {w : World} (h : Blk U cs T w) (o : Nat) (v : Value) : Blk U (cs.setIfInBounds o v) T (w.setCell ⟨U, o, none⟩ v) := by
  unfold Blk at *
  simp only [World.setCell, Array.getElem?_modify, h]
  rfl

/-- A row of numbers behind a slice's address. -/
def Row (w : World) (ao : Option Addr) (len : Nat) (Z : Nat → Int) : Prop :=
  len = 0 ∨ ∃ b o, ao = some ⟨b, o, none⟩ ∧ ∀ i, i < len → w.cell? ⟨b, o + i, none⟩ = some (.int .i64 (Z i))
/-- It lies in another block, if there is a number. -/
def Off (U len : Nat) (ao : Option Addr) : Prop := 0 < len → ∀ a, ao = some a → a.block ≠ U

theorem Mod.cell {U : Nat} {w w' : World} (m : Mod U w w') {b o : Nat} {v : Value} (h : w.cell? ⟨b, o, none⟩ = some v) (hb : b ≠ U) : w'.cell? ⟨b, o, none⟩ = some v :=
  (World.cell?_of_block (m.2.2.1 b (heap_gt h) hb)).trans h
theorem Row.mod {U : Nat} {w w' : World} {ao : Option Addr} {len : Nat} {Z : Nat → Int} (h : Row w ao len Z) (m : Mod U w w') (ho : Off U len ao) : Row w' ao len Z := by
  rcases h with h | ⟨b, o, rfl, hc⟩
  · exact Or.inl h
  · exact Or.inr ⟨b, o, rfl, fun i hi => m.cell (hc i hi) (ho (by omega) _ rfl)⟩
theorem Row.grown {w w' : World} {ao : Option Addr} {len : Nat} {Z : Nat → Int} (h : Row w ao len Z) (m : Grown w w') : Row w' ao len Z := by
  rcases h with h | ⟨b, o, rfl, hc⟩
  · exact Or.inl h
  · exact Or.inr ⟨b, o, rfl, fun i hi => gat m (hc i hi)⟩
theorem Row.off {w : World} {ao : Option Addr} {len U : Nat} {Z : Nat → Int} (h : Row w ao len Z) (hU : w.heap.size ≤ U) : Off U len ao := by
  rcases h with h | ⟨b, o, rfl, hc⟩
  · exact fun hl => by omega
  · intro hl a ha
    cases ha
    have := heap_gt (hc 0 hl)
    show b ≠ U
    omega
theorem Row.at {w : World} {ao : Option Addr} {len : Nat} {Z : Nat → Int} (h : Row w ao len Z) {k : Nat} (hk : k < len) : ∃ b o, ao = some ⟨b, o, none⟩ ∧ w.cell? ⟨b, o + k, none⟩ = some (.int .i64 (Z k)) := by
  rcases h with h | ⟨b, o, rfl, hc⟩
  · omega
  · exact ⟨b, o, rfl, hc k hk⟩

/-- Below the heap's old size all is as it was. -/
def Kp (W w : World) : Prop := w.os = W.os ∧ w.output = W.output ∧ (∀ k, k < W.heap.size → w.heap[k]? = W.heap[k]?) ∧ W.heap.size ≤ w.heap.size
theorem Kp.of {W w : World} (g : Grown W w) : Kp W w := ⟨g.1.1, g.1.2.1, fun _ hk => gblock g hk, g.2.2⟩
theorem Kp.refl (W : World) : Kp W W := ⟨rfl, rfl, fun _ _ => rfl, Nat.le_refl _⟩
theorem Kp.trans {a b c : World} (h : Kp a b) (k : Kp b c) : Kp a c := ⟨k.1.trans h.1, k.2.1.trans h.2.1, fun i hi => (k.2.2.1 i (Nat.lt_of_lt_of_le hi h.2.2.2)).trans (h.2.2.1 i hi), Nat.le_trans h.2.2.2 k.2.2.2⟩
theorem Kp.grown {W a b : World} (h : Kp W a) (g : Grown a b) : Kp W b := h.trans (Kp.of g)
theorem Kp.alloc {W a : World} (h : Kp W a) (c : Array Value) (t : TypeId) : Kp W (a.alloc (.cells c t)) := h.grown ((Grown.refl _).alloc _ _)
theorem Kp.mod {W a b : World} {U : Nat} (h : Kp W a) (m : Mod U a b) (hU : W.heap.size ≤ U) : Kp W b :=
  ⟨m.1.trans h.1, m.2.1.trans h.2.1, fun i hi => (m.2.2.1 i (Nat.lt_of_lt_of_le hi h.2.2.2) (by omega)).trans (h.2.2.1 i hi), Nat.le_trans h.2.2.2 m.2.2.2.2⟩
theorem Kp.by {W a b : World} {row : Option Nat} (h : Kp W a) (m : a.grownBy b row) (hr : ∀ k, row = some k → W.heap.size ≤ k) : Kp W b :=
  ⟨m.os.trans h.1, m.output.trans h.2.1, fun i hi => (m.block i (Nat.lt_of_lt_of_le hi h.2.2.2) (fun e => by have := hr i e.symm; omega)).trans (h.2.2.1 i hi), Nat.le_trans h.2.2.2 m.size⟩
theorem Kp.frame {W w : World} (h : Kp W w) (may : MemPlace → Prop) : W.keptBut w may := by
  refine ⟨h.1, h.2.1, fun i hi => ?_⟩
  rw [h.2.2.1 i hi]
  split <;> simp_all
theorem Kp.same {W w : World} (h : Kp W w) {p : MemPlace} (hp : p.block < W.heap.size) : W.sameAt w p := by
  cases p with
  | cell b o => exact World.cell?_of_block (w := W) (h.2.2.1 b hp)
  | map b => exact h.2.2.1 b hp
theorem Kp.cell {W w : World} (h : Kp W w) {b o : Nat} {v : Value} (hv : W.cell? ⟨b, o, none⟩ = some v) : w.cell? ⟨b, o, none⟩ = some v :=
  (World.cell?_of_block (h.2.2.1 b (heap_gt hv))).trans hv
theorem Row.kp {w w' : World} {ao : Option Addr} {len : Nat} {Z : Nat → Int} (h : Row w ao len Z) (m : Kp w w') : Row w' ao len Z := by
  rcases h with h | ⟨b, o, rfl, hc⟩
  · exact Or.inl h
  · exact Or.inr ⟨b, o, rfl, fun i hi => m.cell (hc i hi)⟩
theorem Blk.kp {U : Nat} {cs : Array Value} {T : TypeId} {w w' : World} (h : Blk U cs T w) (g : Kp w w') : Blk U cs T w' := (g.2.2.1 U h.lt).trans h
theorem Blk.by {U : Nat} {cs : Array Value} {T : TypeId} {w w' : World} {row : Option Nat} (h : Blk U cs T w) (g : w.grownBy w' row) (hne : some U ≠ row) : Blk U cs T w' := (g.block U h.lt hne).trans h
/-- Numbers that the call itself has gathered. -/
theorem owns_row {w : World} {base n : Nat} {v : Value} {Z : Nat → Int} (h : w.ownsRow base 3 1 v n ((List.range n).map fun i => Value.int .i64 (Z i))) : ∃ ao cap, v = .slice ao n cap ∧ Row w ao n Z ∧ ∀ U, U < base → Off U n ao := by
  rcases h.2 with ⟨rfl, rfl⟩ | ⟨g, cap, cur, rfl, hb, hg, hn, _, hsz, hxs⟩
  · exact ⟨none, 0, rfl, Or.inl rfl, fun _ _ h => absurd h (Nat.lt_irrefl _)⟩
  · refine ⟨_, cap, rfl, Or.inr ⟨g, 0, rfl, fun i hi => ?_⟩, fun U hU _ a ha => by cases ha; show g ≠ U; omega⟩
    rw [Nat.zero_add, cell_of_row w g i cur 3 (0, 0) hg]
    have e : (cur.toList.take (n * 1))[i]? = some (.int .i64 (Z i)) := by rw [hxs]; simp [hi]
    rw [List.getElem?_take, if_pos (by omega)] at e
    simpa using e
theorem Tryz.infoInt : (Tryz.prog.info? 3).map (fun i => (i.zero, i.size, i.bytes)) = some (some (.int .i64 0), 1, 8) := by kernel_rfl

theorem Row.sub {w : World} {ao : Option Addr} {len m : Nat} {Z : Nat → Int} (h : Row w ao len Z) (hm : m ≤ len) : Row w ao m Z := by
  rcases h with h | ⟨b, o, rfl, hc⟩
  · exact Or.inl (by omega)
  · exact Or.inr ⟨b, o, rfl, fun i hi => hc i (by omega)⟩
theorem slice_to (ao : Option Addr) (len cap n : Nat) (h : n ≤ cap) (w : World) : (Instr.sliceAt 22 (.slice ao len cap) none (some (.int .i64 n)) none).run Tryz.prog w = .ok (.slice ao n cap) w := by
  have e : Tryz.prog.underlying 22 = some (.slice (Tryz.prog.elem 22)) := by kernel_rfl
  have s1 : (sizeOf (Tryz.prog.elem 22)).run Tryz.prog w = .ok 1 w := by kernel_rfl
  rw [run_sliceAt_slice w 22 _ _ _ _ e, run_slice_h w 22 ao len cap e .i64 n (by omega) (by omega), s1]
  show Result.ok (sliced ao 0 (n : Int).toNat cap 1) w = _
  have a0 : ao.map (fun x => x.add (0 * 1)) = ao := by cases ao <;> simp [Addr.add]
  unfold sliced
  rw [a0]
  simp

theorem news_one (w : World) (v : Value) (t : TypeId) : ∀ j u, [v][j]? = some u → (w.alloc (.cells #[v] t)).cell? ((⟨w.heap.size, 0, none⟩ : Addr).add j) = some u := by
  intro j u hj
  match j, hj with
  | 0, hj => simp at hj; subst hj; simp [Addr.add]
theorem one_cell (x : Int) : ∀ u ∈ [Value.int .i64 x], u.oneCell' = true := by
  intro u hu
  simp at hu
  subst hu
  rfl

theorem cells_one (n : Nat) (Z : Nat → Int) : ∀ u ∈ (List.range n).map (fun i => Value.int .i64 (Z i)), u.oneCell' = true := by
  intro u hu
  rw [List.mem_map] at hu
  obtain ⟨i, _, rfl⟩ := hu
  rfl

end Go.Proofs.YtopaakjildmjcaaGreat
