/- Package mat: at, part, rows, dot. -/
import Derived.Test.YtopaakjildmjcaaGreatMatA
namespace Go.Proofs.YtopaakjildmjcaaGreat
open Go.RowKit Go.Proofs.Wd
set_option linter.unusedVariables false
set_option linter.unusedSimpArgs false
set_option maxRecDepth 10000

theorem wrapP (a b p : Nat) (h : a * b = p) (hp : p ≤ 1000000) : wrap64 ((a : Int) * (b : Int)) = (p : Int) := by
  rw [← Int.natCast_mul, h]
  unfold wrap64
  omega
theorem wrapS (x : Int) (h : 0 ≤ x ∧ x ≤ 1000000) : wrap64 x = x := by
  unfold wrap64
  omega
theorem wrapQ (a b p : Nat) (h : (a + 1) * b = p) (hp : p ≤ 1000000) : wrap64 (((a : Int) + 1) * (b : Int)) = (p : Int) := by
  have h := wrapP (a + 1) b p h hp
  rwa [Int.natCast_add] at h
theorem wrapA (a b p : Nat) (h : a + b = p) (hp : p ≤ 1000000) : wrap64 ((a : Int) + (b : Int)) = (p : Int) := by
  rw [← Int.natCast_add, h]
  exact wrapS _ (by omega)
theorem place_le (i r c : Nat) (h : i < r) : i * c + c ≤ r * c := by
  have : (i + 1) * c ≤ r * c := Nat.mul_le_mul_right c h
  rwa [Nat.add_mul, Nat.one_mul] at this

theorem slice_part (b o len cap l h : Nat) (hl : l < h) (hh : h ≤ cap) (w : World) : (Instr.sliceAt 22 (.slice (some ⟨b, o, none⟩) len cap) (some (.int .i64 l)) (some (.int .i64 h)) (some (.int .i64 h))).run Tryz.prog w = .ok (.slice (some ⟨b, o + l, none⟩) (h - l) (h - l)) w := by
  have e : Tryz.prog.underlying 22 = some (.slice (Tryz.prog.elem 22)) := by kernel_rfl
  have s1 : (sizeOf (Tryz.prog.elem 22)).run Tryz.prog w = .ok 1 w := by kernel_rfl
  rw [run_sliceAt_slice w 22 _ _ _ _ e, run_slice_lhm w 22 _ len cap e .i64 .i64 .i64 l h h (by omega) (by omega) (by omega) (by omega), s1]
  show Result.ok (sliced _ (l : Int).toNat (h : Int).toNat (h : Int).toNat 1) w = _
  unfold sliced
  rw [Int.toNat_natCast, Int.toNat_natCast, if_neg (by omega)]
  show Result.ok (Value.slice (some ((⟨b, o, none⟩ : Addr).add (l * 1))) _ _) w = _
  rw [Go.WideShapes.add_plain, Nat.mul_one]

set_option maxHeartbeats 1000000 in
/-- Row i. -/
theorem matPart (r c i b o cap : Nat) (hr : 1 ≤ r ∧ r ≤ 12) (hc : 1 ≤ c ∧ c ≤ 12) (hi : i < r) (hcap : r * c ≤ cap) (w : World) :
    Calls Tryz.prog 80 #[.agg #[.int .i64 r, .int .i64 c, .slice (some ⟨b, o, none⟩) (r * c) cap], .int .i64 i] w fun e w' =>
      e = .returned (.slice (some ⟨b, o + i * c, none⟩) c c) ∧ w' = w.alloc (.cells #[.int .i64 r, .int .i64 c, .slice (some ⟨b, o, none⟩) (r * c) cap] 24) := by
  have h1 := mul12n r c hr hc
  have h2 := place_le i r c hi
  obtain ⟨p, hp⟩ : ∃ p, i * c = p := ⟨_, rfl⟩
  obtain ⟨q, hq⟩ : ∃ q, (i + 1) * c = q := ⟨_, rfl⟩
  obtain ⟨len, hlen⟩ : ∃ len, r * c = len := ⟨_, rfl⟩
  have hq2 : q = p + c := by rw [← hq, Nat.add_mul, Nat.one_mul, hp]
  rw [hlen] at h1 h2 hcap
  rw [hp] at h2
  rw [hlen, hp]
  have pb : p ≤ 1000000 := by omega
  have qb : q ≤ 1000000 := by omega
  have ib : 0 ≤ (i : Int) + 1 ∧ (i : Int) + 1 ≤ 1000000 := by omega
  have pq : p < q := by omega
  have qc : q ≤ cap := by omega
  have dq : q - p = c := by omega
  clear h1 h2 hlen hq2 hr hc hi hcap
  have w1 : wrap64 ((i : Int) * (c : Int)) = (p : Int) := wrapP i c p hp pb
  have w2 : wrap64 ((i : Int) + 1) = (i : Int) + 1 := wrapS _ ib
  have w3 : wrap64 (((i : Int) + 1) * (c : Int)) = (q : Int) := wrapQ i c q hq qb
  have S := fun w => slice_part b o len cap p q pq qc w
  rw [dq] at S
  clear hp hq pb qb ib pq qc dq
  go_enter Tryz.func80, Tryz.ntmps80
  go_wp2
  go_ret
  exact ⟨rfl, rfl⟩

set_option maxHeartbeats 1000000 in
/-- The k-th of row i. -/
theorem matAt (r c i k b o cap : Nat) (Z : Nat → Int) (hr : 1 ≤ r ∧ r ≤ 12) (hc : 1 ≤ c ∧ c ≤ 12) (hi : i < r) (hk : k < c) (w : World) (hz : w.cell? ⟨b, o + (i * c + k), none⟩ = some (.int .i64 (Z (i * c + k)))) :
    Calls Tryz.prog 64 #[.agg #[.int .i64 r, .int .i64 c, .slice (some ⟨b, o, none⟩) (r * c) cap], .int .i64 i, .int .i64 k] w fun e w' =>
      e = .returned (.int .i64 (Z (i * c + k))) ∧ w' = w.alloc (.cells #[.int .i64 r, .int .i64 c, .slice (some ⟨b, o, none⟩) (r * c) cap] 24) := by
  have h1 := mul12n r c hr hc
  have h2 := place_in i k r c hi hk
  obtain ⟨p, hp⟩ : ∃ p, i * c = p := ⟨_, rfl⟩
  obtain ⟨len, hlen⟩ : ∃ len, r * c = len := ⟨_, rfl⟩
  rw [hlen] at h1 h2
  rw [hp] at h2 hz
  rw [hlen, hp]
  obtain ⟨q, hq⟩ : ∃ q, p + k = q := ⟨_, rfl⟩
  rw [hq] at hz h2
  rw [hq]
  have pb : p ≤ 1000000 := by omega
  have qb : q ≤ 1000000 := by omega
  have i0 : (0 : Int) ≤ (q : Int) := by omega
  have i1 : (q : Int) < (len : Int) := by omega
  clear h1 h2 hlen hr hc hi hk
  have w1 : wrap64 ((i : Int) * (c : Int)) = (p : Int) := wrapP i c p hp pb
  have w2 : wrap64 ((p : Int) + (k : Int)) = (q : Int) := wrapA p k q hq qb
  clear hp hq pb qb
  obtain ⟨z, hzz⟩ : ∃ z, Z q = z := ⟨_, rfl⟩
  rw [hzz] at hz
  rw [hzz]
  have hb := heap_gt hz
  have hb2 : b ≠ w.heap.size := Nat.ne_of_lt hb
  have hz2 : (w.alloc (.cells #[.int .i64 r, .int .i64 c, .slice (some ⟨b, o, none⟩) len cap] 24)).cell? ⟨b, o + q, none⟩ = some (.int .i64 z) := gat ((Grown.refl _).alloc _ _) hz
  clear hzz
  go_enter Tryz.func64, Tryz.ntmps64
  go_wp2
  go_ret
  exact ⟨rfl, rfl⟩

set_option maxHeartbeats 400000 in
theorem matRows (r c : Int) (s : Value) (hs : s.oneCell' = true) (w : World) :
    Calls Tryz.prog 91 #[.agg #[.int .i64 r, .int .i64 c, s]] w fun e w' => e = .returned (.func (.func 115) #[] #[.pointer (some ⟨w.heap.size, 0, none⟩)]) ∧ w' = w.alloc (.cells #[.int .i64 r, .int .i64 c, s] 24) := by
  go_enter Tryz.func91, Tryz.ntmps91
  go_wp2
  go_ret
  exact ⟨rfl, rfl⟩

set_option maxHeartbeats 1000000 in
theorem matDot (U : Nat) (c : Bool) (n : Int) (ao bo : Option Addr) (len c1 c2 : Nat) (X Y : Nat → Int) (hn : 0 ≤ n ∧ n < 2305843009213693952) (hl : len ≤ 1000000) (hX : ∀ i, i < len → I64 (X i)) (hY : ∀ i, i < len → I64 (Y i)) (w : World) (h : UC U c n w)
    (hr : Row w ao len X) (ho : Off U len ao) (ht : Row w bo len Y) (hp : Off U len bo) :
    Calls Tryz.prog 79 #[.pointer (some ⟨U, 0, none⟩), .slice ao len c1, .slice bo len c2] w fun e w' => e = .returned (.int .i64 (dotN X Y len)) ∧ UC U (c || dotC X Y len) (n + 2 * len) w' ∧ Mod U w w' := by
  have D := hide (unitDot_ok U c n ao bo len c1 c2 X Y hn hl hX hY w h hr ho ht hp)
  clear h hr ho ht hp hX hY hn
  generalize dotN X Y len = d at *
  go_enter Tryz.func79, Tryz.ntmps79
  go_wp2_with fail
  refine (unhide D).mono ?_
  rintro e w1 ⟨rfl, h1⟩
  have H1 := hide h1
  clear h1 D
  go_wp2
  go_ret
  exact ⟨rfl, unhide H1⟩

end Go.Proofs.YtopaakjildmjcaaGreat
