/- PickA PolyW PolyN PolyM2 PolyE PolyV PolyLineLaw, one after another. -/
import Derived.Test.YtopaakjildmjcaaRowA
import Derived.Test.YtopaakjildmjcaaPolyBas2
import Derived.Test.YtopaakjildmjcaaPolyBase
import Derived.BigQuiet
import Derived.Laws.AppendOwn
import Derived.Test.YtopaakjildmjcaaRows
import Derived.Test.YtopaakjildmjcaaRowL
import Derived.ProofKit
import Derived.OpenShut
import Derived.Lib.SmallJoins
/- The laws' kit: Pick. -/
namespace Go.Proofs.Ytopaakjildmjcaa
open Go.RowKit Go.Proofs.Wd
set_option linter.unusedVariables false
set_option linter.unusedSimpArgs false
set_option maxRecDepth 10000

theorem tmod_of (x n : Int) (hn : 0 < n) : (0 ≤ x.tmod n → x.tmod n = x % n) ∧ (x.tmod n < 0 → x.tmod n + n = x % n) ∧ -n < x.tmod n ∧ x.tmod n < n := by
  have e := @Int.tmod_eq_emod x n
  have h1 := Int.emod_nonneg x (show n ≠ 0 by omega)
  have h2 := Int.emod_lt_of_pos x hn
  have h3 : (n.natAbs : Int) = n := by omega
  rw [e]
  split <;> omega
theorem wrap_id (y : Int) (h : -9223372036854775808 ≤ y ∧ y ≤ 9223372036854775807) : wrap64 y = y := by
  unfold wrap64
  omega

set_option maxHeartbeats 1000000 in
theorem kitPick (x n : Int) (hx : I64 x) (hn : 0 < n ∧ n ≤ 4611686018427387904) (w : World) : Calls Try.prog 17 #[.int .i64 x, .int .i64 n] w fun e w' => e = .returned (.int .i64 (x % n)) ∧ Kp w w' := by
  obtain ⟨h0, h1⟩ := hn
  have c0 : ¬ n ≤ 0 := by omega
  have T := hide (tmod_of x n h0)
  unfold I64 at hx
  go_enter Try.func17, Try.ntmps17
  go_wp2
  · rename_i hh
    go_ret
    exact ⟨congrArg (fun v => Ending.returned (Value.int .i64 v)) ((wrap_id _ (by have := unhide T; omega)).trans ((unhide T).2.1 hh)), Kp.refl _⟩
  · rename_i hh
    go_ret
    exact ⟨congrArg (fun v => Ending.returned (Value.int .i64 v)) ((unhide T).1 hh), Kp.refl _⟩

end Go.Proofs.Ytopaakjildmjcaa

/- The laws' helper upper: a strictly upper matrix of whole numbers. -/
namespace Go.Proofs.Ytopaakjildmjcaa
open Go.RowKit Go.Shelf Go.Proofs.Wd
set_option linter.unusedVariables false
set_option linter.unusedSimpArgs false
set_option maxRecDepth 10000

def UpI (w : World) (n nn L : Nat) (most : Int) (wr : World) : Prop :=
  ∃ a, UpW most n a ∧ Blk w.heap.size #[.int .i64 0, .int .i64 0, .slice none 0 0] 26 wr ∧ Blk L (ints nn (WZ a)) 3 wr ∧ Blk (L + 1) #[.int .i64 n, .int .i64 n, .slice (some ⟨L, 0, none⟩) nn nn] 26 wr ∧ Kp w wr ∧ w.heap.size + 1 ≤ L
theorem UpI.kp {w : World} {n nn L : Nat} {most : Int} {wr w' : World} (h : UpI w n nn L most wr) (k : Kp wr w') : UpI w n nn L most w' :=
  let ⟨a, h1, h2, h3, h4, h5, h6⟩ := h
  ⟨a, h1, Blk.kp h2 k, Blk.kp h3 k, Blk.kp h4 k, h5.trans k, h6⟩
theorem UpI.put {w : World} {n nn L : Nat} {most : Int} {wr : World} (h : UpI w n nn L most wr) (i k p : Nat) (hi : i < n) (hk : k < n) (hik : i < k) (hp : i * n + k = p) (z : Int) (hz : -most ≤ z ∧ z ≤ most) : UpI w n nn L most (wr.setCell ⟨L, p, none⟩ (.int .i64 (z * 4294967296))) := by
  obtain ⟨a, h1, h2, h3, h4, h5, h6⟩ := h
  have q : Mod L wr (wr.setCell ⟨L, p, none⟩ (.int .i64 (z * 4294967296))) := (Mod.refl _ _).setCell _ _
  refine ⟨fun j => if j = p then z else a j, ⟨fun j hj => ?_, fun i' k' hi' hk' hle => ?_⟩, Blk.keep h2 q (by omega), ?_, Blk.keep h4 q (by omega), h5.mod q (by omega), h6⟩
  · show -most ≤ (if j = p then z else a j) ∧ (if j = p then z else a j) ≤ most
    split
    · exact hz
    · exact h1.1 j hj
  · show (if i' * n + k' = p then z else a (i' * n + k')) = 0
    rw [if_neg ?_]
    · exact h1.2 i' k' hi' hk' hle
    · intro e
      rw [← hp] at e
      have d := congrArg (· / n) e
      have m := congrArg (· % n) e
      simp only [place_div _ _ _ hk', place_div _ _ _ hk, place_mod _ _ _ hk', place_mod _ _ _ hk] at d m
      omega
  · have := Blk.setI h3 p (z * 4294967296)
    rw [show ints nn (WZ fun j => if j = p then z else a j) = ints nn (fun j => if j = p then z * 4294967296 else WZ a j) from ints_congr _ _ _ fun j _ => by
      show (if j = p then z else a j) * 4294967296 = _
      split <;> rfl]
    exact this

set_option maxRecDepth 50000 in
set_option maxHeartbeats 8000000 in
theorem lawUpper (n : Nat) (most : Int) (hn : 1 ≤ n ∧ n ≤ 12) (hm : 0 ≤ most ∧ most ≤ 20) (ao : Option Addr) (ln cap : Nat) (A : Nat → Int) (hA : ∀ i, i < ln → I64 (A i)) (w : World) (hr : Row w ao ln A) :
    Calls Try.prog 18 #[.int .i64 n, .int .i64 most, .slice ao ln cap] w fun e w' => ∃ a, UpW most n a ∧ OwnM n (n * n) (WZ a) w e w' := by
  have k2 := mul12n n n hn hn
  have HP : Hid (∀ i k, i < n → k < n → i * n + k < n * n) := fun i k hi hk => place_in i k n n hi hk
  obtain ⟨nn, hnn⟩ : ∃ nn, n * n = nn := ⟨_, rfl⟩
  rw [hnn] at k2 HP
  rw [hnn]
  have MK := make_ints nn (by omega)
  have w1 : wrap64 ((n : Int) * (n : Int)) = (nn : Int) := wrapP n n nn hnn (by omega)
  have b1 : Blk w.heap.size #[.int .i64 0, .int .i64 0, .slice none 0 0] 26 (w.alloc (.cells #[.int .i64 0, .int .i64 0, .slice none 0 0] 26)) := Blk.new w _ _
  have HB : Hid (Grown w (w.alloc (.cells #[.int .i64 0, .int .i64 0, .slice none 0 0] 26)) ∧ Blk w.heap.size #[.int .i64 0, .int .i64 0, .slice none 0 0] 26 (w.alloc (.cells #[.int .i64 0, .int .i64 0, .slice none 0 0] 26)) ∧ (w.alloc (.cells #[.int .i64 0, .int .i64 0, .slice none 0 0] 26)).heap.size = w.heap.size + 1) := ⟨(Grown.refl _).alloc _ _, b1, by simp⟩
  have HR := hide hr
  have HA := hide hA
  have HN := hide (And.intro hn (And.intro hm k2))
  clear hr hA hn hm k2 hnn b1
  go_enter Try.func18, Try.ntmps18
  go_wp2_with fail
  have I0 : Hid (UpI w n nn (w.heap.size + 1) most (((w.alloc (.cells #[.int .i64 0, .int .i64 0, .slice none 0 0] 26)).alloc (.cells (ints nn fun _ => 0) 3)).alloc (.cells #[.int .i64 n, .int .i64 n, .slice (some ⟨w.heap.size + 1, 0, none⟩) nn nn] 26))) := by
    obtain ⟨g1, b1, hs⟩ := unhide HB
    have g2 : Grown (w.alloc (.cells #[.int .i64 0, .int .i64 0, .slice none 0 0] 26)) (((w.alloc (.cells #[.int .i64 0, .int .i64 0, .slice none 0 0] 26)).alloc (.cells (ints nn fun _ => 0) 3)).alloc (.cells #[.int .i64 n, .int .i64 n, .slice (some ⟨w.heap.size + 1, 0, none⟩) nn nn] 26)) := ((Grown.refl _).alloc _ _).alloc _ _
    refine ⟨fun _ => 0, ⟨fun p _ => by have := (unhide HN).2.1; show -most ≤ 0 ∧ 0 ≤ most; omega, fun i k _ _ _ => rfl⟩, Blk.grown b1 g2, ?_, ?_, Kp.of (gtrans g1 g2), by omega⟩
    · have := Blk.grown (Blk.new (w.alloc (.cells #[.int .i64 0, .int .i64 0, .slice none 0 0] 26)) (ints nn fun _ => 0) 3) ((Grown.refl _).alloc #[.int .i64 n, .int .i64 n, .slice (some ⟨w.heap.size + 1, 0, none⟩) nn nn] 26)
      rw [hs] at this
      exact this
    · have := blk_new2 (w.alloc (.cells #[.int .i64 0, .int .i64 0, .slice none 0 0] 26)) (.cells (ints nn fun _ => 0) 3) #[.int .i64 n, .int .i64 n, .slice (some ⟨w.heap.size + 1, 0, none⟩) nn nn] 26
      rw [hs] at this
      exact this
  clear MK HB w1
  generalize (((w.alloc (.cells #[.int .i64 0, .int .i64 0, .slice none 0 0] 26)).alloc (.cells (ints nn fun _ => 0) 3)).alloc (.cells #[.int .i64 n, .int .i64 n, .slice (some ⟨w.heap.size + 1, 0, none⟩) nn nn] 26)) = w5 at *
  generalize w.heap.size + 1 = L at *
  go_loopw [8, 9] (fun t i wr => ∃ j q : Nat, j ≤ n ∧ i = .int .i64 j ∧ t = .int .i64 q ∧ q ≤ j * n ∧ Hid (UpI w n nn L most wr)) (fun _ i _ => n - (intOf i).toNat)
  case atStart => exact ⟨0, 0, Nat.zero_le _, rfl, rfl, Nat.zero_le _, I0⟩
  case round =>
    obtain ⟨i, q0, hi, rfl, rfl, hq0, HI⟩ := hrel
    clear I0
    by_cases hlt : i < n
    · have i12 : i ≤ 11 := by have := (unhide HN).1; omega
      have wi : wrap64 ((i : Int) + 1) = ((i + 1 : Nat) : Int) := by rw [wrap_id _ (by omega)]; omega
      go_wp2_with fail
      go_loopw [8, 10] (fun t k wr => ∃ j q : Nat, i + 1 ≤ j ∧ j ≤ n ∧ k = .int .i64 j ∧ t = .int .i64 q ∧ q ≤ i * n + j ∧ Hid (UpI w n nn L most wr)) (fun _ k _ => n - (intOf k).toNat)
      case atStart => exact ⟨i + 1, q0, Nat.le_refl _, by omega, by go_num, rfl, by omega, HI⟩
      case round =>
        obtain ⟨k, t, hk1, hk, rfl, rfl, ht, HI2⟩ := hrel
        clear HI wi
        by_cases hkt : k < n
        · have hp := unhide HP i k hlt hkt
          obtain ⟨p, hpe⟩ : ∃ p, i * n + k = p := ⟨_, rfl⟩
          obtain ⟨q, hqe⟩ : ∃ q, i * n = q := ⟨_, rfl⟩
          have HPE := hide hpe
          have hn2 := unhide HN
          rw [hpe] at hp ht
          rw [hqe] at hpe
          by_cases htl : t < ln
          · have i0 : (0 : Int) ≤ (p : Int) := Int.natCast_nonneg _
            have i1 : (p : Int) < (nn : Int) := Int.ofNat_lt.2 hp
            have i2 : (0 : Int) ≤ (t : Int) := Int.natCast_nonneg _
            have i3 : (t : Int) < (ln : Int) := Int.ofNat_lt.2 htl
            have t1 : t ≤ 1000 := by omega
            have wa : IntKind.i64.wrap ((i : Int) * (n : Int)) = (q : Int) := wrapPi i n q hqe (by omega)
            have wb : IntKind.i64.wrap ((q : Int) + (k : Int)) = (p : Int) := wrapAi q k p hpe (by omega)
            obtain ⟨m2, hm2⟩ : ∃ m, m = 2 * most := ⟨_, rfl⟩
            have wc : IntKind.i64.wrap (2 * most) = m2 := by rw [hm2, IntKind.wrap_i64]; omega
            obtain ⟨md, hmd⟩ : ∃ m, m = m2 + 1 := ⟨_, rfl⟩
            have wd : IntKind.i64.wrap (m2 + 1) = md := by rw [hmd, IntKind.wrap_i64]; omega
            obtain ⟨b, o, rfl, hc⟩ := ((unhide HR).kp (unhide HI2).choose_spec.2.2.2.2.1).at htl
            have xI := unhide HA t htl
            obtain ⟨x, hx⟩ : ∃ x, A t = x := ⟨_, rfl⟩
            rw [hx] at hc xI
            have PK := hide (fun w => kitPick x md xI (by omega) w)
            have yb : 0 ≤ x % md ∧ x % md < md := ⟨Int.emod_nonneg _ (by omega), Int.emod_lt_of_pos _ (by omega)⟩
            obtain ⟨y, hy⟩ : ∃ y, x % md = y := ⟨_, rfl⟩
            rw [hy] at PK yb
            obtain ⟨z, hz⟩ : ∃ z, z = y - most := ⟨_, rfl⟩
            have we : IntKind.i64.wrap (y - most) = z := by rw [hz, IntKind.wrap_i64]; omega
            have zb : Hid (-most ≤ z ∧ z ≤ most) := by show -most ≤ z ∧ z ≤ most; omega
            obtain ⟨v, hv⟩ : ∃ v, v = z * 4294967296 := ⟨_, rfl⟩
            have wf : IntKind.i64.wrap (z * 4294967296) = v := by
              have := unhide zb
              rw [hv, IntKind.wrap_i64]
              omega
            have y0 : wr.cell? ⟨L + 1, 2, none⟩ = some (.slice (some ⟨L, 0, none⟩) nn nn) := Blk.cell (unhide HI2).choose_spec.2.2.2.1 2
            have HV : Hid (z * 4294967296 = v) := hv.symm
            have HK := hide (And.intro hk1 (And.intro hkt (And.intro ht hp)))
            have k1 : k ≤ 12 := Nat.le_trans (Nat.le_of_lt hkt) hn2.1.2
            clear hqe hm2 hmd hx hy hz hv hn2 yb xI hpe ht hk hk1
            go_wp2
            refine region_G (fun w' => w'.cell? ⟨L + 1, 2, none⟩ = some (.slice (some ⟨L, 0, none⟩) nn nn) ∧ w'.cell? ⟨b, o + t, none⟩ = some (.int .i64 x)) 19 (by kernel_rfl) ⟨y0, hc⟩ (fun hHeld => ?_)
            refine take_G (i := 0) (d := 34) (v := .pointer (some ⟨L + 1, 2, none⟩)) rfl rfl (by kernel_rfl) (by kernel_rfl) (by kernel_rfl) (by kernel_rfl) (by kernel_rfl) (Or.inl ⟨by rfl, ?_⟩) hHeld ?_
            · intro wS hSw
              obtain ⟨z0, z1⟩ := hSw
              clear hHeld
              go_simp
            (try simp only [Act.put, List.setIfInBounds_toArray, List.set_cons_zero, List.set_cons_succ])
            refine take_G (i := 1) (d := 35) (v := .slice (some ⟨L, 0, none⟩) nn nn) rfl rfl (by kernel_rfl) (by kernel_rfl) (by kernel_rfl) (by kernel_rfl) (by kernel_rfl) (Or.inl ⟨by rfl, ?_⟩) hHeld ?_
            · intro wS hSw
              obtain ⟨z0, z1⟩ := hSw
              clear hHeld
              go_simp
            (try simp only [Act.put, List.setIfInBounds_toArray, List.set_cons_zero, List.set_cons_succ])
            refine take_G (i := 2) (d := 36) (v := .int .i64 (i : Int)) rfl rfl (by kernel_rfl) (by kernel_rfl) (by kernel_rfl) (by kernel_rfl) (by kernel_rfl) (Or.inl ⟨by rfl, ?_⟩) hHeld ?_
            · intro wS hSw
              obtain ⟨z0, z1⟩ := hSw
              clear hHeld
              go_simp
            (try simp only [Act.put, List.setIfInBounds_toArray, List.set_cons_zero, List.set_cons_succ])
            refine take_G (i := 3) (d := 37) (v := .int .i64 (n : Int)) rfl rfl (by kernel_rfl) (by kernel_rfl) (by kernel_rfl) (by kernel_rfl) (by kernel_rfl) (Or.inl ⟨by rfl, ?_⟩) hHeld ?_
            · intro wS hSw
              obtain ⟨z0, z1⟩ := hSw
              clear hHeld
              go_simp
            (try simp only [Act.put, List.setIfInBounds_toArray, List.set_cons_zero, List.set_cons_succ])
            refine take_G (i := 4) (d := 38) (v := .int .i64 (q : Int)) rfl rfl (by kernel_rfl) (by kernel_rfl) (by kernel_rfl) (by kernel_rfl) (by kernel_rfl) (Or.inl ⟨by rfl, ?_⟩) hHeld ?_
            · intro wS hSw
              obtain ⟨z0, z1⟩ := hSw
              clear hHeld
              go_simp
            (try simp only [Act.put, List.setIfInBounds_toArray, List.set_cons_zero, List.set_cons_succ])
            refine take_G (i := 5) (d := 39) (v := .int .i64 (k : Int)) rfl rfl (by kernel_rfl) (by kernel_rfl) (by kernel_rfl) (by kernel_rfl) (by kernel_rfl) (Or.inl ⟨by rfl, ?_⟩) hHeld ?_
            · intro wS hSw
              obtain ⟨z0, z1⟩ := hSw
              clear hHeld
              go_simp
            (try simp only [Act.put, List.setIfInBounds_toArray, List.set_cons_zero, List.set_cons_succ])
            refine take_G (i := 6) (d := 40) (v := .int .i64 (p : Int)) rfl rfl (by kernel_rfl) (by kernel_rfl) (by kernel_rfl) (by kernel_rfl) (by kernel_rfl) (Or.inl ⟨by rfl, ?_⟩) hHeld ?_
            · intro wS hSw
              obtain ⟨z0, z1⟩ := hSw
              clear hHeld
              go_simp
            (try simp only [Act.put, List.setIfInBounds_toArray, List.set_cons_zero, List.set_cons_succ])
            refine take_G (i := 7) (d := 41) (v := .slice (some ⟨b, o, none⟩) ln cap) rfl rfl (by kernel_rfl) (by kernel_rfl) (by kernel_rfl) (by kernel_rfl) (by kernel_rfl) (Or.inl ⟨by rfl, ?_⟩) hHeld ?_
            · intro wS hSw
              obtain ⟨z0, z1⟩ := hSw
              clear hHeld
              go_simp
            (try simp only [Act.put, List.setIfInBounds_toArray, List.set_cons_zero, List.set_cons_succ])
            refine take_G (i := 8) (d := 42) (v := .int .i64 (t : Int)) rfl rfl (by kernel_rfl) (by kernel_rfl) (by kernel_rfl) (by kernel_rfl) (by kernel_rfl) (Or.inl ⟨by rfl, ?_⟩) hHeld ?_
            · intro wS hSw
              obtain ⟨z0, z1⟩ := hSw
              clear hHeld
              go_simp
            (try simp only [Act.put, List.setIfInBounds_toArray, List.set_cons_zero, List.set_cons_succ])
            refine take_G (i := 9) (d := 43) (v := .pointer (some ⟨b, o + t, none⟩)) rfl rfl (by kernel_rfl) (by kernel_rfl) (by kernel_rfl) (by kernel_rfl) (by kernel_rfl) (Or.inl ⟨by rfl, ?_⟩) hHeld ?_
            · intro wS hSw
              obtain ⟨z0, z1⟩ := hSw
              clear hHeld
              go_simp
            (try simp only [Act.put, List.setIfInBounds_toArray, List.set_cons_zero, List.set_cons_succ])
            refine take_G (i := 10) (d := 44) (v := .int .i64 x) rfl rfl (by kernel_rfl) (by kernel_rfl) (by kernel_rfl) (by kernel_rfl) (by kernel_rfl) (Or.inl ⟨by rfl, ?_⟩) hHeld ?_
            · intro wS hSw
              obtain ⟨z0, z1⟩ := hSw
              clear hHeld
              go_simp
            (try simp only [Act.put, List.setIfInBounds_toArray, List.set_cons_zero, List.set_cons_succ])
            refine take_G (i := 11) (d := 45) (v := .int .i64 most) rfl rfl (by kernel_rfl) (by kernel_rfl) (by kernel_rfl) (by kernel_rfl) (by kernel_rfl) (Or.inl ⟨by rfl, ?_⟩) hHeld ?_
            · intro wS hSw
              obtain ⟨z0, z1⟩ := hSw
              clear hHeld
              go_simp
            (try simp only [Act.put, List.setIfInBounds_toArray, List.set_cons_zero, List.set_cons_succ])
            refine take_G (i := 12) (d := 46) (v := .int .i64 m2) rfl rfl (by kernel_rfl) (by kernel_rfl) (by kernel_rfl) (by kernel_rfl) (by kernel_rfl) (Or.inl ⟨by rfl, ?_⟩) hHeld ?_
            · intro wS hSw
              obtain ⟨z0, z1⟩ := hSw
              clear hHeld
              go_simp
            (try simp only [Act.put, List.setIfInBounds_toArray, List.set_cons_zero, List.set_cons_succ])
            refine take_G (i := 13) (d := 47) (v := .int .i64 md) rfl rfl (by kernel_rfl) (by kernel_rfl) (by kernel_rfl) (by kernel_rfl) (by kernel_rfl) (Or.inl ⟨by rfl, ?_⟩) hHeld ?_
            · intro wS hSw
              obtain ⟨z0, z1⟩ := hSw
              clear hHeld
              go_simp
            (try simp only [Act.put, List.setIfInBounds_toArray, List.set_cons_zero, List.set_cons_succ])
            refine take_G (i := 15) (d := 49) (v := .int .i64 most) rfl rfl (by kernel_rfl) (by kernel_rfl) (by kernel_rfl) (by kernel_rfl) (by kernel_rfl) (Or.inl ⟨by rfl, ?_⟩) hHeld ?_
            · intro wS hSw
              obtain ⟨z0, z1⟩ := hSw
              clear hHeld
              go_simp
            (try simp only [Act.put, List.setIfInBounds_toArray, List.set_cons_zero, List.set_cons_succ])
            have HI3 : Hid (UpI w n nn L most wr.drew) := unhide HI2
            clear HI2 hc y0
            refine step_G (i := 14) (by kernel_rfl) (fun K hK => ?_)
            refine wpOp_of rfl rfl ?_
            unfold Oper.wp
            go_simp
            refine (unhide PK _).mono ?_
            rintro e w6 ⟨rfl, k6⟩
            have hHeld : w6.cell? ⟨L + 1, 2, none⟩ = some (.slice (some ⟨L, 0, none⟩) nn nn) ∧ w6.cell? ⟨b, o + t, none⟩ = some (.int .i64 x) := ⟨k6.cell hHeld.1, k6.cell hHeld.2⟩
            have HI4 : Hid (UpI w n nn L most w6) := (unhide HI3).kp k6
            obtain ⟨old, f6⟩ : ∃ old, w6.cell? ⟨L, p, none⟩ = some (.int .i64 old) := by
              obtain ⟨a, _, _, h3, _⟩ := unhide HI4
              exact ⟨WZ a p, by rw [Blk.cell h3, ints_at nn _ p (unhide HK).2.2.2]⟩
            have f7 : w6.frozen? ⟨L, p, none⟩ = false := by
              obtain ⟨a, _, _, h3, _⟩ := unhide HI4
              exact Blk.free h3 p
            have R : Hid (UpI w n nn L most (w6.setCell ⟨L, p, none⟩ (.int .i64 v))) := by
              have := (unhide HI4).put i k p hlt (unhide HK).2.1 (by have := (unhide HK).1; omega) (unhide HPE) z (unhide zb)
              rw [unhide HV] at this
              exact this
            refine hK _ _ (fun _ => hHeld) ?_
            clear hK K k6 HI3 HI4
            (try simp only [Act.put, List.setIfInBounds_toArray, List.set_cons_zero, List.set_cons_succ])
            refine take_G (i := 16) (d := 50) (v := .int .i64 z) rfl rfl (by kernel_rfl) (by kernel_rfl) (by kernel_rfl) (by kernel_rfl) (by kernel_rfl) (Or.inl ⟨by rfl, ?_⟩) hHeld ?_
            · intro wS hSw
              obtain ⟨z0, z1⟩ := hSw
              clear hHeld
              go_simp
            (try simp only [Act.put, List.setIfInBounds_toArray, List.set_cons_zero, List.set_cons_succ])
            refine take_G (i := 17) (d := 51) (v := .int .i64 v) rfl rfl (by kernel_rfl) (by kernel_rfl) (by kernel_rfl) (by kernel_rfl) (by kernel_rfl) (Or.inl ⟨by rfl, ?_⟩) hHeld ?_
            · intro wS hSw
              obtain ⟨z0, z1⟩ := hSw
              clear hHeld
              go_simp
            (try simp only [Act.put, List.setIfInBounds_toArray, List.set_cons_zero, List.set_cons_succ])
            refine take_G (i := 18) (d := 52) (v := .pointer (some ⟨L, p, none⟩)) rfl rfl (by kernel_rfl) (by kernel_rfl) (by kernel_rfl) (by kernel_rfl) (by kernel_rfl) (Or.inl ⟨by rfl, ?_⟩) hHeld ?_
            · intro wS hSw
              obtain ⟨z0, z1⟩ := hSw
              clear hHeld
              go_simp
            (try simp only [Act.put, List.setIfInBounds_toArray, List.set_cons_zero, List.set_cons_succ])
            clear hHeld
            refine step_G (i := 19) (by kernel_rfl) (fun K hK => ?_)
            refine wpOp_of rfl rfl ?_
            unfold Oper.wp
            go_simp
            refine hK _ _ (fun h => absurd rfl h) ?_
            clear hK K
            (try simp only [Act.put, List.setIfInBounds_toArray, List.set_cons_zero, List.set_cons_succ])
            refine done_G (by kernel_rfl) ?_
            refine noPanic_normalE ?_
            clear f6 f7 PK wa wb wc wd we wf
            go_wp2
            go_roundw
            case rel => exact ⟨k + 1, t + 1, by have := (unhide HK).1; omega, (unhide HK).2.1, by go_num, by go_num, by have := unhide HPE; have := (unhide HK).2.2.1; omega, R⟩
            case measure => have := (unhide HK).2.1; simp [intOf]; omega
          · have dt : decide ((t : Int) < (ln : Int)) = false := decide_eq_false (by omega)
            have dk : decide ((k : Int) < (n : Int)) = true := decide_eq_true (by omega)
            have HK := hide (And.intro hk1 (And.intro hkt (And.intro ht hp)))
            have t1 : t ≤ 1000 := by omega
            have wt : wrap64 ((t : Int) + 1) = (t : Int) + 1 := wrap_id _ (by omega)
            have k1 : k ≤ 12 := by omega
            clear hqe hpe hn2 ht hp hk hk1
            go_wp2
            go_roundw
            case rel => exact ⟨k + 1, t + 1, by have := (unhide HK).1; omega, (unhide HK).2.1, by go_num, by go_num, by have := unhide HPE; have := (unhide HK).2.2.1; omega, HI2⟩
            case measure => have := (unhide HK).2.1; simp [intOf]; omega
        · obtain rfl : k = n := by omega
          have hq : t ≤ (i + 1) * k := by rw [Nat.add_mul, Nat.one_mul]; exact ht
          clear ht
          go_wp2
          go_roundw
          case rel => exact ⟨i + 1, t, hlt, by go_num, rfl, hq, HI2⟩
          case measure => simp [intOf]; omega
    · obtain rfl : i = n := by omega
      obtain ⟨a, ha, h2, h3, h4, h5, h6⟩ := unhide HI
      have c0 : wr.cell? ⟨L + 1, 0, none⟩ = some (.int .i64 i) := Blk.cell h4 0
      have c1 : wr.cell? ⟨L + 1, 1, none⟩ = some (.int .i64 i) := Blk.cell h4 1
      have c2 : wr.cell? ⟨L + 1, 2, none⟩ = some (.slice (some ⟨L, 0, none⟩) nn nn) := Blk.cell h4 2
      have e0 : wr.cell? ⟨w.heap.size, 0, none⟩ = some (.int .i64 0) := Blk.cell h2 0
      have e1 : wr.cell? ⟨w.heap.size, 1, none⟩ = some (.int .i64 0) := Blk.cell h2 1
      have e2 : wr.cell? ⟨w.heap.size, 2, none⟩ = some (.slice none 0 0) := Blk.cell h2 2
      have f := Blk.free h2
      have R := hide (And.intro ha (And.intro h2 (And.intro h3 h5)))
      have hL2 := hide h6
      clear ha h2 h3 h4 h5 h6 hq0 HI
      go_wp2
      obtain ⟨ha, h2, h3, h5⟩ := unhide R
      have P := putM h2 (.int .i64 i) (.int .i64 i) (.slice (some ⟨L, 0, none⟩) nn nn)
      generalize (((wr.setCell ⟨w.heap.size, 0, none⟩ (.int .i64 i)).setCell ⟨w.heap.size, 1, none⟩ (.int .i64 i)).setCell ⟨w.heap.size, 2, none⟩ (.slice (some ⟨L, 0, none⟩) nn nn)) = wE at *
      have c0 : wE.cell? ⟨w.heap.size, 0, none⟩ = some (.int .i64 i) := Blk.cell P.1 0
      have c1 : wE.cell? ⟨w.heap.size, 1, none⟩ = some (.int .i64 i) := Blk.cell P.1 1
      have c2 : wE.cell? ⟨w.heap.size, 2, none⟩ = some (.slice (some ⟨L, 0, none⟩) nn nn) := Blk.cell P.1 2
      refine bodyPost_ret (v := .agg #[.int .i64 i, .int .i64 i, .slice (some ⟨L, 0, none⟩) nn nn]) (by simp [results, Try.results18, go_sem, c0, c1, c2]) rfl ?_
      have := unhide hL2
      exact ⟨a, ha, L, nn, rfl, Nat.le_refl _, by omega, Own.of (Blk.keep h3 P.2 (by omega)), h5.mod P.2 (Nat.le_refl _)⟩

end Go.Proofs.Ytopaakjildmjcaa


/- PolyNought. -/
namespace Go.Proofs.Ytopaakjildmjcaa
open Go.RowKit Go.Shelf Go.Proofs.Wd
set_option linter.unusedVariables false
set_option linter.unusedSimpArgs false
set_option maxRecDepth 10000

theorem wz_I64 {most : Int} {n : Nat} {a : Nat → Int} (h : UpW most n a) (hm : most ≤ 20) : ∀ j, j < n * n → I64 (WZ a j) := fun j hj => by
  have := h.1 j hj
  unfold WZ I64
  omega
theorem wz_low {most : Int} {n : Nat} {a : Nat → Int} (h : UpW most n a) : ∀ i k, i < n → k < n → k ≤ i → WZ a (i * n + k) = 0 := fun i k hi hk hle => by
  unfold WZ
  rw [h.2 i k hi hk hle]
  rfl
theorem upO_sq {n nn : Nat} {A : Nat → Int} (hn : 1 ≤ n ∧ n ≤ 12) (hnn : n * n = nn) : upO n n nn A = upTo A n n := by
  unfold upO
  rw [if_pos (by rw [← hnn]; exact sqA_of hn)]
  rfl
theorem term_up {most : Int} {n : Nat} {a : Nat → Int} (h : UpW most n a) (m : Nat) (h1 : 1 ≤ m) (hm : m ≤ 1000) : upTo (termZ (WZ a) n m) n n = true :=
  (upTo_true _ n n).2 fun i hi j hj => term_nought (WZ a) n (wz_low h) m hm i j hi (by omega) (by omega)
theorem flow_still {n : Nat} {a : Nat → Int} (hn : 1 ≤ n) (p : Nat) : flowZ (WZ a) n 0 p = diagZ oneZ n p := by
  show horZ (termZ (WZ a) n) (n - 1) 0 (n - 1) p = _
  rw [hor_zero _ (n - 1) (fun i _ p => term_fx _ _ _ _) (n - 1) p (Nat.le_refl _), Nat.sub_self]
  rfl

set_option maxRecDepth 50000 in
set_option maxHeartbeats 16000000 in
theorem lawPolyNought (x t : Int) (hx : I64 x) (ht : I64 t) (ao : Option Addr) (ln cap : Nat) (L : Nat → Int) (hL : ∀ i, i < ln → I64 (L i)) (w : World) (hr : Row w ao ln L) :
    Calls Try.prog 4 #[.int .i64 x, .slice ao ln cap, .int .i64 t] w fun e w' => e = .returned (.bool true) ∧ Kp w w' := by
  have HT := hide ht
  have HL := hide hL
  have HR := hide hr
  have K1 := hide (lawPolyKnown w)
  have PK := hide (fun w => kitPick x 6 hx (by omega) w)
  have pb : 0 ≤ x % 6 ∧ x % 6 < 6 := by omega
  obtain ⟨ps, hps⟩ : ∃ p, x % 6 = p := ⟨_, rfl⟩
  rw [hps] at PK pb
  obtain ⟨n, hn⟩ : ∃ n : Nat, (n : Int) = 1 + ps := ⟨(1 + ps).toNat, by omega⟩
  have n6 : 1 ≤ n ∧ n ≤ 6 := by omega
  have wn : wrap64 (1 + ps) = (n : Int) := by rw [← hn]; exact wrap_id _ (by omega)
  have wn1 : wrap64 ((n : Int) + 1) = ((n + 1 : Nat) : Int) := by rw [wrap_id _ (by omega)]; omega
  have wn2 : wrap64 ((n : Int) + 2) = ((n + 1 + 1 : Nat) : Int) := by rw [wrap_id _ (by omega)]; omega
  have k2 := mul12n n n ⟨n6.1, by omega⟩ ⟨n6.1, by omega⟩
  have UPR := hide (fun w hr => lawUpper n 20 ⟨n6.1, by omega⟩ (by omega) ao ln cap L (unhide HL) w hr)
  have HPL : Hid (∀ i k, i < n → k < n → i * n + k < n * n) := fun i k hi hk => place_in i k n n hi hk
  obtain ⟨nn, hnn⟩ : ∃ nn, n * n = nn := ⟨_, rfl⟩
  rw [hnn] at k2 UPR HPL
  have wnn : wrap64 ((n : Int) * (n : Int)) = (nn : Int) := wrapP n n nn hnn (by omega)
  have NN := hide hnn
  have HN := hide (And.intro n6 k2)
  clear hx ht hL hr hps hn pb k2 hnn n6
  go_enter Try.func4, Try.ntmps4
  go_wp2_with fail
  refine (unhide K1).mono ?_
  rintro e w1 ⟨rfl, k1⟩
  have W1 := hide k1
  clear k1 K1
  go_wp2_with fail
  refine (unhide PK _).mono ?_
  rintro e w2 ⟨rfl, k2⟩
  have W2 : Hid (Kp w w2) := (unhide W1).trans k2
  clear k2 W1 PK
  go_wp2_with fail
  refine (unhide UPR _ ((unhide HR).kp (unhide W2))).mono ?_
  rintro e w3 ⟨a, ha, hv⟩
  have HA := hide ha
  obtain ⟨Ba, ca, rfl, hca, S3⟩ := ((ST.nil w).kp (unhide W2)).ownM hv
  have HC := hide hca
  have S3 := hide (S3.box #[.int .i64 n, .int .i64 n, .slice (some ⟨Ba, 0, none⟩) nn ca] 26)
  obtain ⟨Ax, hAx⟩ : ∃ Ax, w3.heap.size = Ax := ⟨_, rfl⟩
  rw [hAx] at S3
  clear ha hv hca W2 UPR HR
  generalize hw4 : w3.alloc (.cells #[.int .i64 n, .int .i64 n, .slice (some ⟨Ba, 0, none⟩) nn ca] 26) = w4 at S3
  have N4 := hide (unitNew w4)
  go_wp2_with fail
  (try rw [hAx])
  (try rw [hw4])
  clear hAx hw4
  refine (unhide N4).mono ?_
  rintro e w5 ⟨rfl, u5, g5⟩
  have S5 : Hid (ST w [([w4.heap.size], UO w4.heap.size (fun _ => True) 0)] _ w5) := (unhide S3).push (Kp.of g5) ⟨false, 0, trivial, by omega, by omega, u5⟩ (uo_dep _ _ _) (by simp) (fun q hq => by simp at hq; subst hq; exact ⟨Nat.le_refl _, Blk.lt u5⟩)
  generalize w4.heap.size = U at *
  clear u5 g5 N4 S3
  have S5 := hide S5
  obtain ⟨c0, n0, _, q1, q2, hu⟩ := (unhide S5).unit []
  have T5 := hide (polyTerms_ok U n nn Ba 0 ca (n + 1) c0 n0 ⟨q1, by omega⟩ (WZ a) ⟨(unhide HN).1.1, by have := unhide HN; omega⟩ (unhide NN) (by have := unhide HN; omega) (unhide HC) (by have := wz_I64 (unhide HA) (by omega); rw [unhide NN] at this; exact this) w5 hu ((unhide S5).own (B := Ba) (len := nn) (Z := WZ a) (by simp)).at0 ((unhide S5).ownNe (B := Ba) (len := nn) (Z := WZ a) (by simp) (c := ([U], UO U (fun _ => True) 0)) (by simp) (V := U) (by simp)))
  have HQ := hide (And.intro q1 q2)
  obtain ⟨x0, x1, x2⟩ := (unhide S5).cells (b := Ax) (x := .int .i64 n) (y := .int .i64 n) (z := .slice (some ⟨Ba, 0, none⟩) nn ca) (T := 26) (by simp)
  clear hu q1 q2
  go_wp2_with fail
  refine (unhide T5).mono ?_
  intro e w6 hv
  obtain ⟨Lb, l, rfl, hl, S6⟩ := (unhide S5).terms [] (unhide HQ) trivial hv
  have S6 := hide S6
  have HLL := hide hl
  clear hv hl S5 T5 HQ x0 x1 x2
  have FL : Hid (∀ (d : Int) (t : Int) (es' fs' : List Ob) wx, I64 t → 0 ≤ d → d ≤ 1000000 → ST w (([U], UO U (fun _ => True) d) :: es') fs' wx → ([Ba], Own Ba nn (WZ a)) ∈ fs' → Calls Try.prog 12 #[.pointer (some ⟨U, 0, none⟩), .agg #[.int .i64 n, .int .i64 n, .slice (some ⟨Ba, 0, none⟩) nn ca], .int .i64 t] wx fun e w' => ∃ B cp, e = .returned (.tuple #[.agg #[.int .i64 n, .int .i64 n, .slice (some ⟨B, 0, none⟩) nn cp], .int .i64 0]) ∧ nn ≤ cp ∧ ST w (([U], UO U (fun _ => True) (d + 200000)) :: es') (([B], Own B nn (flowZ (WZ a) n t)) :: fs') w') := by
    intro d t es' fs' wx ht hd0 hd S hf
    obtain ⟨c0, n0, _, q1, q2, hu⟩ := S.unit []
    have hI := wz_I64 (unhide HA) (by omega)
    have hF := polyFlow_ok U n Ba 0 ca c0 n0 t ht ⟨q1, by omega⟩ (WZ a) ⟨(unhide HN).1.1, by have := unhide HN; omega⟩ (by rw [unhide NN]; exact unhide HC) hI (upW_up (unhide HA)) wx hu (by rw [unhide NN]; exact (S.own hf).at0) (S.ownNe hf (c := ([U], UO U (fun _ => True) d)) (by simp) (V := U) (by simp))
    rw [unhide NN] at hF
    refine hF.mono ?_
    rintro e w' ⟨ao2, cp, B, rfl, h1, h2, h3, ⟨cnt, q3, q4, hu2⟩, hm⟩
    obtain ⟨rfl, hb⟩ := h3.resolve_left (by have := unhide HN; omega)
    exact ⟨B, cp, rfl, h1, S.tellU [] (MkL.one hm) ⟨_, cnt, trivial, by omega, by omega, hu2⟩ (uo_dep _ _ _) (by simp) hb (own_depL _ _ _) (fun q hq => by simp at hq; subst hq; exact ⟨h2, hb.lt⟩)⟩
  obtain ⟨x0, x1, x2⟩ := (unhide S6).cells (b := Ax) (x := .int .i64 n) (y := .int .i64 n) (z := .slice (some ⟨Ba, 0, none⟩) nn ca) (T := 26) (by simp)
  have F6 := hide (unhide FL _ t _ _ w6 (unhide HT) (by omega) (by omega) (unhide S6) (by simp))
  go_wp2_with fail
  refine (unhide F6).mono ?_
  rintro e w7 ⟨Bf, cf, rfl, hcf, S7⟩
  have S7 := hide (S7.box #[.int .i64 n, .int .i64 n, .slice (some ⟨Bf, 0, none⟩) nn cf] 26)
  have HCF := hide hcf
  obtain ⟨Fx, hFx⟩ : ∃ Fx, w7.heap.size = Fx := ⟨_, rfl⟩
  rw [hFx] at S7
  generalize hw8 : w7.alloc (.cells #[.int .i64 n, .int .i64 n, .slice (some ⟨Bf, 0, none⟩) nn cf] 26) = w8 at S7
  clear hcf S6 F6 x0 x1 x2
  obtain ⟨x0, x1, x2⟩ := (unhide S7).cells (b := Ax) (x := .int .i64 n) (y := .int .i64 n) (z := .slice (some ⟨Ba, 0, none⟩) nn ca) (T := 26) (by simp)
  have F8 := hide (unhide FL _ 0 _ _ w8 (by unfold I64; omega) (by omega) (by omega) (unhide S7) (by simp))
  go_wp2_with fail
  (try rw [hFx])
  (try rw [hw8])
  clear hFx hw8
  refine (unhide F8).mono ?_
  rintro e w9 ⟨Bs, cs, rfl, hcs, S9⟩
  have S9 := hide (S9.box #[.int .i64 n, .int .i64 n, .slice (some ⟨Bs, 0, none⟩) nn cs] 26)
  have HCS := hide hcs
  obtain ⟨Sx, hSx⟩ : ∃ Sx, w9.heap.size = Sx := ⟨_, rfl⟩
  rw [hSx] at S9
  generalize hw10 : w9.alloc (.cells #[.int .i64 n, .int .i64 n, .slice (some ⟨Bs, 0, none⟩) nn cs] 26) = w10 at S9
  clear hcs S7 F8 x0 x1 x2 FL
  have E10 : Hid (Calls Try.prog 8 #[.int .i64 n] w10 fun e w' => MatP n n nn (diagZ oneZ n) 0 (Kp w10) w10 e w') := by
    have := matEye_ok n ⟨(unhide HN).1.1, by have := unhide HN; omega⟩ w10
    rw [unhide NN] at this
    exact this
  go_wp2_with fail
  (try rw [hSx])
  (try rw [hw10])
  clear hSx hw10
  refine (unhide E10).mono ?_
  intro e w11 hv
  obtain ⟨Be, ce, rfl, hce, S11⟩ := (unhide S9).matK (by have := unhide HN; omega) hv
  have S11 := hide (S11.box #[.int .i64 n, .int .i64 n, .slice (some ⟨Be, 0, none⟩) nn ce] 26)
  have HCE := hide hce
  obtain ⟨Ex, hEx⟩ : ∃ Ex, w11.heap.size = Ex := ⟨_, rfl⟩
  rw [hEx] at S11
  generalize hw12 : w11.alloc (.cells #[.int .i64 n, .int .i64 n, .slice (some ⟨Be, 0, none⟩) nn ce] 26) = w12 at S11
  clear hv hce S9 E10
  have CW : Hid (∀ wx, Kp w12 wx → (wx.cell? ⟨Ax, 0, none⟩ = some (.int .i64 n) ∧ wx.cell? ⟨Ax, 1, none⟩ = some (.int .i64 n) ∧ wx.cell? ⟨Ax, 2, none⟩ = some (.slice (some ⟨Ba, 0, none⟩) nn ca)) ∧ (wx.cell? ⟨Fx, 0, none⟩ = some (.int .i64 n) ∧ wx.cell? ⟨Fx, 1, none⟩ = some (.int .i64 n) ∧ wx.cell? ⟨Fx, 2, none⟩ = some (.slice (some ⟨Bf, 0, none⟩) nn cf)) ∧ (wx.cell? ⟨Sx, 0, none⟩ = some (.int .i64 n) ∧ wx.cell? ⟨Sx, 1, none⟩ = some (.int .i64 n) ∧ wx.cell? ⟨Sx, 2, none⟩ = some (.slice (some ⟨Bs, 0, none⟩) nn cs)) ∧ (wx.cell? ⟨Ex, 0, none⟩ = some (.int .i64 n) ∧ wx.cell? ⟨Ex, 1, none⟩ = some (.int .i64 n) ∧ wx.cell? ⟨Ex, 2, none⟩ = some (.slice (some ⟨Be, 0, none⟩) nn ce))) := fun wx k => by
    have S := (unhide S11).kp k
    exact ⟨S.cells (T := 26) (by simp), S.cells (T := 26) (by simp), S.cells (T := 26) (by simp), S.cells (T := 26) (by simp)⟩
  have RW : Hid (∀ wx, Kp w12 wx → Row wx (some ⟨Ba, 0, none⟩) nn (WZ a) ∧ Row wx (some ⟨Bf, 0, none⟩) nn (flowZ (WZ a) n t) ∧ Row wx (some ⟨Bs, 0, none⟩) nn (diagZ oneZ n) ∧ Row wx (some ⟨Be, 0, none⟩) nn (diagZ oneZ n)) := fun wx k => by
    have S := (unhide S11).kp k
    exact ⟨(S.own (B := Ba) (len := nn) (Z := WZ a) (by simp)).row, (S.own (B := Bf) (len := nn) (Z := flowZ (WZ a) n t) (by simp)).row, rowCongr (S.own (B := Bs) (len := nn) (Z := flowZ (WZ a) n 0) (by simp)).row (fun p _ => flow_still (unhide HN).1.1 p), (S.own (B := Be) (len := nn) (Z := diagZ oneZ n) (by simp)).row⟩
  have TW : Hid (∀ wx i x, Kp w12 wx → l[i]? = some x → wx.cell? ⟨Lb, i * 3, none⟩ = some (.int .i64 n) ∧ wx.cell? ⟨Lb, i * 3 + 1, none⟩ = some (.int .i64 n) ∧ wx.cell? ⟨Lb, i * 3 + 2, none⟩ = some (.slice (some ⟨x.1, 0, none⟩) nn x.2) ∧ Row wx (some ⟨x.1, 0, none⟩) nn (termZ (WZ a) n i) ∧ nn ≤ x.2) := fun wx i x k hx => terms_get ((unhide S11).kp k) (base := w5.heap.size) (Lb := Lb) (n := n) (nn := nn) (m := n + 1 + 1) (A := WZ a) (l := l) (by simp) hx (unhide HLL)
  have KW : Hid (Kp w w12) := (unhide S11).keep
  have AU : upO n n nn (WZ a) = true := by rw [upO_sq ⟨(unhide HN).1.1, by have := unhide HN; omega⟩ (unhide NN)]; exact upW_up (unhide HA)
  clear S11
  obtain ⟨⟨x0, x1, x2⟩, ⟨x3, x4, x5⟩, ⟨x6, x7, x8⟩, ⟨x9, xa, xb⟩⟩ := unhide CW w12 (Kp.refl _)
  go_wp2_with fail
  refine (polyUpper n n (some ⟨Ba, 0, none⟩) nn ca (WZ a) w12 (unhide RW w12 (Kp.refl _)).1).mono ?_
  rintro e w13 ⟨rfl, g13⟩
  have K13 : Hid (Kp w12 w13) := Kp.of g13
  rw [AU]
  clear x0 x1 x2 x3 x4 x5 x6 x7 x8 x9 xa xb g13 AU
  obtain ⟨_, ⟨x3, x4, x5⟩, ⟨x6, x7, x8⟩, ⟨x9, xa, xb⟩⟩ := unhide CW w13 (unhide K13)
  have SM := hide (kitSameM n n (some ⟨Bs, 0, none⟩) (some ⟨Be, 0, none⟩) nn cs ce (diagZ oneZ n) (by have := unhide HN; omega) w13 (unhide RW w13 (unhide K13)).2.2.1 (unhide RW w13 (unhide K13)).2.2.2)
  go_wp2_with fail
  refine (unhide SM).mono ?_
  rintro e w14 ⟨rfl, k14⟩
  have K14 : Hid (Kp w12 w14) := (unhide K13).trans k14
  clear x3 x4 x5 x6 x7 x8 x9 xa xb k14 SM K13
  obtain ⟨_, ⟨x3, x4, x5⟩, _, _⟩ := unhide CW w14 (unhide K14)
  go_wp2_with fail
  clear x3 x4 x5
  go_loopw [18] (fun i wr => ∃ m : Nat, 1 ≤ m ∧ m ≤ n + 1 + 1 ∧ i = .int .i64 m ∧ Hid (Kp w12 wr)) (fun i _ => n + 1 + 1 - (intOf i).toNat)
  case atStart => exact ⟨1, Nat.le_refl _, by omega, by go_num, K14⟩
  case round =>
    obtain ⟨m, hm1, hm, rfl, HK⟩ := hrel
    clear K14
    by_cases hlt : m < n + 1 + 1
    · obtain ⟨⟨b, cb⟩, hxb⟩ : ∃ x, l[m]? = some x := ⟨_, List.getElem?_eq_getElem (by have := unhide HLL; omega)⟩
      obtain ⟨y0, y1, y2, hrow, hcb⟩ := unhide TW wr m _ (unhide HK) hxb
      have UT : upO n n nn (termZ (WZ a) n m) = true := by
        rw [upO_sq ⟨(unhide HN).1.1, by have := unhide HN; omega⟩ (unhide NN)]
        exact term_up (unhide HA) m hm1 (by have := (unhide HN).1.2; omega)
      have UP := hide (polyUpper n n (some ⟨b, 0, none⟩) nn cb (termZ (WZ a) n m) wr hrow)
      rw [UT] at UP
      have m9 : m ≤ 8 := by have := (unhide HN).1.2; omega
      clear hrow hcb UT
      go_wp2_with fail
      refine (unhide UP).mono ?_
      rintro e w15 ⟨rfl, g15⟩
      have K15 : Hid (Kp w12 w15) := (unhide HK).grown g15
      clear g15 UP y0 y1 y2 HK
      obtain ⟨_, _, y2, hrow, _⟩ := unhide TW w15 m _ (unhide K15) hxb
      have HROW := hide hrow
      clear hrow
      go_wp2_with fail
      go_loop [19] (fun i => ∃ k : Nat, k ≤ nn ∧ i = .int .i64 k) (fun i => nn - (intOf i).toNat)
      case atStart => exact ⟨0, Nat.zero_le _, rfl⟩
      case round =>
        obtain ⟨k, hk, rfl⟩ := hrel
        have nn1 := (unhide HN).2.2
        by_cases hkn : k < nn
        · have kc : w15.cell? ⟨b, k, none⟩ = some (.int .i64 (termZ (WZ a) n m k)) := by
            obtain ⟨b', o', e, hc⟩ := (unhide HROW).at hkn
            cases e
            rw [Nat.zero_add] at hc
            exact hc
          by_cases hmn : n ≤ m
          · have z : termZ (WZ a) n m k = 0 := by
              have hp := place_lt k n n (by rw [unhide NN]; exact hkn)
              have hd := term_nought (WZ a) n (wz_low (unhide HA)) m (by omega) (k / n) (k % n) hp.1 hp.2 (Nat.lt_of_lt_of_le hp.2 (Nat.le_trans hmn (Nat.le_add_left _ _)))
              rw [place_eq] at hd
              exact hd
            rw [z] at kc
            have i0 : (0 : Int) ≤ (k : Int) := Int.natCast_nonneg _
            have i1 : (k : Int) < (nn : Int) := Int.ofNat_lt.2 hkn
            clear z
            go_wp2
            go_round
            case rel => exact ⟨k + 1, by omega, by go_num⟩
            case measure => simp [intOf]; omega
          · go_wp2
            go_round
            case rel => exact ⟨k + 1, by omega, by go_num⟩
            case measure => simp [intOf]; omega
        · obtain rfl : k = nn := by omega
          go_wp2
          go_roundw
          case rel => first | exact ⟨m + 1, by omega, by omega, by go_num⟩ | exact ⟨m + 1, by omega, by omega, by go_num, K15⟩
          case measure => simp [intOf]; omega
    · obtain rfl : m = n + 1 + 1 := by omega
      go_wp2_with fail
      go_loopw [20] (fun i wr => ∃ j : Nat, j ≤ n ∧ i = .int .i64 j ∧ Hid (Kp w12 wr)) (fun i _ => n - (intOf i).toNat)
      case atStart => exact ⟨0, Nat.zero_le _, rfl, HK⟩
      case round =>
        obtain ⟨i, hi, rfl, HK2⟩ := hrel
        have n6 := (unhide HN).1.2
        by_cases hin : i < n
        · go_wp2_with fail
          go_loopw [21] (fun t wr => ∃ k : Nat, k ≤ i + 1 ∧ t = .int .i64 k ∧ Hid (Kp w12 wr)) (fun t _ => i + 1 - (intOf t).toNat)
          case atStart => exact ⟨0, Nat.zero_le _, rfl, HK2⟩
          case round =>
            obtain ⟨k, hk, rfl, HK3⟩ := hrel
            by_cases hki : k ≤ i
            · have hp := unhide HPL i k hin (by omega)
              obtain ⟨_, ⟨x3, x4, x5⟩, _, ⟨x9, xa, xb⟩⟩ := unhide CW _ (unhide HK3)
              obtain ⟨_, r1, _, r2⟩ := unhide RW _ (unhide HK3)
              have ef : flowZ (WZ a) n t (i * n + k) = diagZ oneZ n (i * n + k) := flow_low (WZ a) n t ⟨(unhide HN).1.1, by omega⟩ (wz_low (unhide HA)) i k hin (by omega) hki
              obtain ⟨p, hpe⟩ : ∃ p, i * n + k = p := ⟨_, rfl⟩
              obtain ⟨q, hqe⟩ : ∃ q, i * n = q := ⟨_, rfl⟩
              have nn1 := (unhide HN).2.2
              rw [hpe] at hp ef
              rw [hqe] at hpe
              have wa : IntKind.i64.wrap ((i : Int) * (n : Int)) = (q : Int) := wrapPi i n q hqe (by omega)
              have wb : IntKind.i64.wrap ((q : Int) + (k : Int)) = (p : Int) := wrapAi q k p hpe (by omega)
              have c1 : wr.cell? ⟨Bf, p, none⟩ = some (.int .i64 (diagZ oneZ n p)) := by
                obtain ⟨b', o', e, hc⟩ := r1.at hp
                cases e
                rw [Nat.zero_add, ef] at hc
                exact hc
              have c2 : wr.cell? ⟨Be, p, none⟩ = some (.int .i64 (diagZ oneZ n p)) := by
                obtain ⟨b', o', e, hc⟩ := r2.at hp
                cases e
                rw [Nat.zero_add] at hc
                exact hc
              generalize diagZ oneZ n p = z at *
              have i0 : (0 : Int) ≤ (p : Int) := Int.natCast_nonneg _
              have i1 : (p : Int) < (nn : Int) := Int.ofNat_lt.2 hp
              clear r1 r2 ef hpe hqe x3 x4 x9 xa
              go_wp2_with fail
              go_region_held3 (fun w' => w'.cell? ⟨Fx, 2, none⟩ = some (.slice (some ⟨Bf, 0, none⟩) nn cf) ∧ w'.cell? ⟨Bf, p, none⟩ = some (.int .i64 z) ∧ w'.cell? ⟨Ex, 2, none⟩ = some (.slice (some ⟨Be, 0, none⟩) nn ce) ∧ w'.cell? ⟨Be, p, none⟩ = some (.int .i64 z)) (simp [go_sem, *]) (fail)
              go_wp2
              go_roundw
              case rel => exact ⟨k + 1, by omega, by go_num, show Hid (Kp w12 wr.drew) from (show Kp w12 wr.drew from unhide HK3)⟩
              case measure => simp [intOf]; omega
            · obtain rfl : k = i + 1 := by omega
              go_wp2
              go_roundw
              case rel => exact ⟨i + 1, hin, by go_num, HK3⟩
              case measure => simp [intOf]; omega
        · obtain rfl : i = n := by omega
          go_wp2
          go_ret
          exact ⟨rfl, (unhide KW).trans (unhide HK2)⟩
end Go.Proofs.Ytopaakjildmjcaa

/- Flows of at most three rows of small whole numbers, exactly: of what form they are, and their products. -/
namespace Go.Proofs.Wd
open Go.Proofs.Ytopaakjildmjcaa
set_option linter.unusedVariables false
set_option linter.unusedSimpArgs false
set_option maxRecDepth 10000

/-- Halves by halves, in quarters: exactly. -/
theorem mul_quart (x y : Int) (hx : -100000000 ≤ x ∧ x ≤ 100000000) (hy : -100000000 ≤ y ∧ y ≤ 100000000) (h : -100000000 ≤ x * y ∧ x * y ≤ 100000000) : mulN (x * 2147483648) (y * 2147483648) = x * y * 1073741824 ∧ mulC (x * 2147483648) (y * 2147483648) = false := by
  have e1 := fx_all _ (half_Fx x (by omega))
  have e2 := fx_all _ (half_Fx y (by omega))
  have e3 := fx_all (x * y * 1073741824) (by unfold Fx; omega)
  have e4 : rdiv (x * 2147483648 * (y * 2147483648)) 4294967296 = x * y * 1073741824 := by
    have := rdiv_mul (x * y * 1073741824) 4294967296 (by omega)
    rwa [show x * y * 1073741824 * 4294967296 = x * 2147483648 * (y * 2147483648) by grind] at this
  unfold mulN mulC cutB
  rw [e1.1, e2.1, e4, e3.2.1, e3.2.2.1, e1.2.2.2, e2.2.2.2]
  exact ⟨rfl, rfl⟩
theorem add_quart (x y : Int) (hx : -400000000 ≤ x ∧ x ≤ 400000000) (hy : -400000000 ≤ y ∧ y ≤ 400000000) : addN (x * 1073741824) (y * 1073741824) = (x + y) * 1073741824 ∧ addC (x * 1073741824) (y * 1073741824) = false := by
  have e1 := fx_all (x * 1073741824) (by unfold Fx; omega)
  have e2 := fx_all (y * 1073741824) (by unfold Fx; omega)
  have e3 := fx_all ((x + y) * 1073741824) (by unfold Fx; omega)
  unfold addN addC cutB
  rw [e1.1, e2.1, ← Int.add_mul, e3.2.1, e3.2.2.1, e1.2.2.2, e2.2.2.2]
  exact ⟨rfl, rfl⟩
theorem dot_quart (X Y x y : Nat → Int) : ∀ k, k ≤ 3 → (∀ i, i < k → X i = x i * 2147483648 ∧ Y i = y i * 2147483648) → (∀ i, i < k → (-100000000 ≤ x i ∧ x i ≤ 100000000) ∧ (-100000000 ≤ y i ∧ y i ≤ 100000000) ∧ -100000000 ≤ x i * y i ∧ x i * y i ≤ 100000000) →
    dotN X Y k = sI (fun i => x i * y i) k * 1073741824 ∧ dotC X Y k = false ∧ -((k : Int) * 100000000) ≤ sI (fun i => x i * y i) k ∧ sI (fun i => x i * y i) k ≤ (k : Int) * 100000000
  | 0, _, _, _ => ⟨rfl, rfl, by show -(0 : Int) ≤ 0; omega, by show (0 : Int) ≤ 0; omega⟩
  | k + 1, hk, hX, hB => by
    obtain ⟨h1, h2, h3, h4⟩ := dot_quart X Y x y k (by omega) (fun i hi => hX i (by omega)) (fun i hi => hB i (by omega))
    have b := hB k (by omega)
    have m := mul_quart (x k) (y k) b.1 b.2.1 b.2.2
    obtain ⟨s, hs⟩ : ∃ s, sI (fun i => x i * y i) k = s := ⟨_, rfl⟩
    obtain ⟨p, hp⟩ : ∃ p, x k * y k = p := ⟨_, rfl⟩
    rw [hs] at h1 h3 h4
    rw [hp] at m b
    have a := add_quart s p (by omega) (by omega)
    have e : sI (fun i => x i * y i) (k + 1) = s + p := by
      show sI (fun i => x i * y i) k + x k * y k = s + p
      rw [hs, hp]
    rw [e]
    refine ⟨?_, ?_, by omega, by omega⟩
    · show addN (dotN X Y k) (mulN (X k) (Y k)) = _
      rw [h1, (hX k (by omega)).1, (hX k (by omega)).2, m.1, a.1]
    · show (dotC X Y k || mulC (X k) (Y k) || addC (dotN X Y k) (mulN (X k) (Y k))) = false
      rw [h1, h2, (hX k (by omega)).1, (hX k (by omega)).2, m.1, m.2, a.2]
      rfl

/-- 2 in the diagonal, b, c, d above it. -/
def uni (n : Nat) (b c d : Int) : Nat → Int := fun p => if p / n = p % n then 2 else if n = 3 ∧ p = 2 then c else if p = 1 then b else if n = 3 ∧ p = 5 then d else 0
theorem uni_mul (n : Nat) (hn : 1 ≤ n ∧ n ≤ 3) (X Y : Nat → Int) (b c d b' c' d' m : Int) (hX : ∀ p, p < n * n → X p = uni n b c d p * 2147483648) (hY : ∀ p, p < n * n → Y p = uni n b' c' d' p * 2147483648)
    (hb : -10000 ≤ b ∧ b ≤ 10000) (hc : -10000000 ≤ c ∧ c ≤ 10000000) (hd : -10000 ≤ d ∧ d ≤ 10000) (hb' : -10000 ≤ b' ∧ b' ≤ 10000) (hc' : -10000000 ≤ c' ∧ c' ≤ 10000000) (hd' : -10000 ≤ d' ∧ d' ≤ 10000) (hm : b * d' = 2 * m) :
    (∀ p, p < n * n → mulZ X Y n n p = uni n (b + b') (c + c' + m) (d + d') p * 2147483648) ∧ ∀ p, p < n * n → mulG X Y n n p = false := by
  have bd := mul_bound b d' 10000 10000 hb hd'
  have key : ∀ p, p < n * n → (∀ i, i < n → (-100000000 ≤ uni n b c d (p / n * n + i) ∧ uni n b c d (p / n * n + i) ≤ 100000000) ∧ (-100000000 ≤ uni n b' c' d' (i * n + p % n) ∧ uni n b' c' d' (i * n + p % n) ≤ 100000000) ∧ -100000000 ≤ uni n b c d (p / n * n + i) * uni n b' c' d' (i * n + p % n) ∧ uni n b c d (p / n * n + i) * uni n b' c' d' (i * n + p % n) ≤ 100000000) ∧
      sI (fun i => uni n b c d (p / n * n + i) * uni n b' c' d' (i * n + p % n)) n = 2 * uni n (b + b') (c + c' + m) (d + d') p := by
    intro p hp
    have hc3 : n = 1 ∨ n = 2 ∨ n = 3 := by omega
    rcases hc3 with rfl | rfl | rfl
    · obtain rfl : p = 0 := by omega
      refine ⟨fun i hi => ?_, by simp [sI, uni]⟩
      obtain rfl : i = 0 := by omega
      simp [uni]
    · have h4 : p = 0 ∨ p = 1 ∨ p = 2 ∨ p = 3 := by omega
      rcases h4 with rfl | rfl | rfl | rfl
      all_goals
        refine ⟨fun i hi => ?_, by simp [sI, uni]; try omega⟩
        have hi2 : i = 0 ∨ i = 1 := by omega
        rcases hi2 with rfl | rfl <;> simp [uni] <;> omega
    · have h9 : p = 0 ∨ p = 1 ∨ p = 2 ∨ p = 3 ∨ p = 4 ∨ p = 5 ∨ p = 6 ∨ p = 7 ∨ p = 8 := by omega
      rcases h9 with rfl | rfl | rfl | rfl | rfl | rfl | rfl | rfl | rfl
      all_goals
        refine ⟨fun i hi => ?_, by simp [sI, uni]; try omega⟩
        have hi2 : i = 0 ∨ i = 1 ∨ i = 2 := by omega
        rcases hi2 with rfl | rfl | rfl <;> simp [uni] <;> omega
  have D : ∀ p, p < n * n → dotN (rowZ X n (p / n)) (colZ Y n (p % n)) n = 2 * uni n (b + b') (c + c' + m) (d + d') p * 1073741824 ∧ dotC (rowZ X n (p / n)) (colZ Y n (p % n)) n = false := fun p hp => by
    have hl := place_lt p n n hp
    obtain ⟨k1, k2⟩ := key p hp
    have q := dot_quart (rowZ X n (p / n)) (colZ Y n (p % n)) (fun i => uni n b c d (p / n * n + i)) (fun i => uni n b' c' d' (i * n + p % n)) n (by omega) (fun i hi => ⟨hX _ (place_in _ _ _ _ hl.1 hi), hY _ (place_in _ _ _ _ hi hl.2)⟩) k1
    rw [k2] at q
    exact ⟨q.1, q.2.1⟩
  exact ⟨fun p hp => by
    show dotN (rowZ X n (p / n)) (colZ Y n (p % n)) n = _
    rw [(D p hp).1]
    omega, fun p hp => (D p hp).2⟩

/-- The terms in halves. -/
def xH (a : Nat → Int) (n : Nat) : Nat → Nat → Int
  | 0 => fun p => if p / n = p % n then 2 else 0
  | 1 => fun p => 2 * a p
  | _ => fun p => if p = 2 then a 1 * a 5 else 0
theorem term_half (a : Nat → Int) (n : Nat) (hn : 1 ≤ n ∧ n ≤ 3) (h : UpW 9 n a) : (∀ i, i ≤ n - 1 → ∀ p, p < n * n → termZ (WZ a) n i p = xH a n i p * 2147483648) ∧ termC (WZ a) n (n - 1) = false := by
  have t0 : ∀ p, termZ (WZ a) n 0 p = xH a n 0 p * 2147483648 := fun p => by
    show (if p / n = p % n then (4294967296 : Int) else 0) = (if p / n = p % n then 2 else 0) * 2147483648
    split <;> rfl
  have t1 := term_one a n ⟨hn.1, by omega⟩ h
  have e1 : ∀ p, p < n * n → termZ (WZ a) n 1 p = xH a n 1 p * 2147483648 := fun p hp => by
    rw [t1.1 p hp]
    show a p * 4294967296 = 2 * a p * 2147483648
    omega
  have hc3 : n = 1 ∨ n = 2 ∨ n = 3 := by omega
  rcases hc3 with rfl | rfl | rfl
  · exact ⟨fun i hi p hp => by
      obtain rfl : i = 0 := by omega
      exact t0 p, rfl⟩
  · exact ⟨fun i hi p hp => by
      rcases (show i = 0 ∨ i = 1 by omega) with rfl | rfl
      · exact t0 p
      · exact e1 p hp, t1.2⟩
  · have t2 := term_two a h
    exact ⟨fun i hi p hp => by
      rcases (show i = 0 ∨ i = 1 ∨ i = 2 by omega) with rfl | rfl | rfl
      · exact t0 p
      · exact e1 p hp
      · exact t2.1 p hp, t2.2⟩

theorem flow_uni (a : Nat → Int) (n : Nat) (hn : 1 ≤ n ∧ n ≤ 3) (h : UpW 9 n a) (y : Int) (hy : -200 ≤ y ∧ y ≤ 200) :
    (∀ p, p < n * n → flowZ (WZ a) n (y * 4294967296) p = uni n (2 * (a 1 * y)) (2 * (a 2 * y) + a 1 * a 5 * (y * y)) (2 * (a 5 * y)) p * 2147483648) ∧ flowC (WZ a) n (y * 4294967296) = false := by
  obtain ⟨T, TC⟩ := term_half a n hn h
  have B : ∀ p, p < n * n → -9 ≤ a p ∧ a p ≤ 9 := h.1
  have Z : ∀ i k, i < n → k < n → k ≤ i → a (i * n + k) = 0 := h.2
  have key : (∀ i, i ≤ n - 1 → ∀ p, p < n * n → -1000000000 ≤ xH a n i p ∧ xH a n i p ≤ 1000000000) ∧ (∀ k, k ≤ n - 1 → ∀ p, p < n * n → (-1000000000 ≤ hH (xH a n) (n - 1) y k p ∧ hH (xH a n) (n - 1) y k p ≤ 1000000000) ∧ -1000000000 ≤ hH (xH a n) (n - 1) y k p * y ∧ hH (xH a n) (n - 1) y k p * y ≤ 1000000000) ∧
      ∀ p, p < n * n → hH (xH a n) (n - 1) y (n - 1) p = uni n (2 * (a 1 * y)) (2 * (a 2 * y) + a 1 * a 5 * (y * y)) (2 * (a 5 * y)) p := by
    have hc3 : n = 1 ∨ n = 2 ∨ n = 3 := by omega
    rcases hc3 with rfl | rfl | rfl
    · refine ⟨fun i hi p hp => ?_, fun k hk p hp => ?_, fun p hp => ?_⟩
      · obtain rfl : i = 0 := by omega
        obtain rfl : p = 0 := by omega
        simp [xH]
      · obtain rfl : k = 0 := by omega
        obtain rfl : p = 0 := by omega
        simp [hH, xH]
        omega
      · obtain rfl : p = 0 := by omega
        simp [hH, xH, uni]
    · have b1 := B 1 (by omega)
      have z0 := Z 0 0 (by omega) (by omega) (by omega)
      have z2 := Z 1 0 (by omega) (by omega) (by omega)
      have z3 := Z 1 1 (by omega) (by omega) (by omega)
      simp at z0 z2 z3
      have m1 := mul_bound (a 1) y 9 200 b1 hy
      have m2 := mul_bound (a 1 * y) y 1800 200 m1 hy
      have e1 : 2 * a 1 * y = 2 * (a 1 * y) := Int.mul_assoc _ _ _
      have e2 : 2 * (a 1 * y) * y = 2 * (a 1 * y * y) := Int.mul_assoc _ _ _
      refine ⟨fun i hi p hp => ?_, fun k hk p hp => ?_, fun p hp => ?_⟩
      · rcases (show p = 0 ∨ p = 1 ∨ p = 2 ∨ p = 3 by omega) with rfl | rfl | rfl | rfl <;> rcases (show i = 0 ∨ i = 1 by omega) with rfl | rfl <;> simp [xH, z0, z2, z3] <;> omega
      · rcases (show p = 0 ∨ p = 1 ∨ p = 2 ∨ p = 3 by omega) with rfl | rfl | rfl | rfl <;> rcases (show k = 0 ∨ k = 1 by omega) with rfl | rfl <;> simp [hH, xH, z0, z2, z3, e1, e2] <;> omega
      · rcases (show p = 0 ∨ p = 1 ∨ p = 2 ∨ p = 3 by omega) with rfl | rfl | rfl | rfl <;> simp [hH, xH, uni, z0, z2, z3, e1]
    · have b1 := B 1 (by omega)
      have b2 := B 2 (by omega)
      have b5 := B 5 (by omega)
      have z0 := Z 0 0 (by omega) (by omega) (by omega)
      have z3 := Z 1 0 (by omega) (by omega) (by omega)
      have z4 := Z 1 1 (by omega) (by omega) (by omega)
      have z6 := Z 2 0 (by omega) (by omega) (by omega)
      have z7 := Z 2 1 (by omega) (by omega) (by omega)
      have z8 := Z 2 2 (by omega) (by omega) (by omega)
      simp at z0 z3 z4 z6 z7 z8
      have m15 := mul_bound (a 1) (a 5) 9 9 b1 b5
      obtain ⟨q, hq⟩ : ∃ q, a 1 * a 5 = q := ⟨_, rfl⟩
      rw [hq] at m15
      have qy := mul_bound q y 81 200 m15 hy
      have w1 := mul_bound (a 1) y 9 200 b1 hy
      have w2 := mul_bound (a 2) y 9 200 b2 hy
      have w5 := mul_bound (a 5) y 9 200 b5 hy
      have v1 := mul_bound (a 1 * y) y 1800 200 w1 hy
      have v2 := mul_bound (a 2 * y) y 1800 200 w2 hy
      have v5 := mul_bound (a 5 * y) y 1800 200 w5 hy
      have vq := mul_bound (q * y) y 16200 200 qy hy
      have vq2 := mul_bound (q * y * y) y 3240000 200 vq hy
      have e1 : 2 * a 1 * y = 2 * (a 1 * y) := Int.mul_assoc _ _ _
      have e2 : 2 * a 2 * y = 2 * (a 2 * y) := Int.mul_assoc _ _ _
      have e5 : 2 * a 5 * y = 2 * (a 5 * y) := Int.mul_assoc _ _ _
      have f1 : 2 * (a 1 * y) * y = 2 * (a 1 * y * y) := Int.mul_assoc _ _ _
      have f2 : (q * y + 2 * a 2) * y = q * y * y + 2 * (a 2 * y) := by grind
      have f3 : (q * y * y + 2 * (a 2 * y)) * y = q * y * y * y + 2 * (a 2 * y * y) := by grind
      have f5 : 2 * (a 5 * y) * y = 2 * (a 5 * y * y) := Int.mul_assoc _ _ _
      have g2 : q * (y * y) = q * y * y := (Int.mul_assoc _ _ _).symm
      refine ⟨fun i hi p hp => ?_, fun k hk p hp => ?_, fun p hp => ?_⟩
      · rcases (show p = 0 ∨ p = 1 ∨ p = 2 ∨ p = 3 ∨ p = 4 ∨ p = 5 ∨ p = 6 ∨ p = 7 ∨ p = 8 by omega) with rfl | rfl | rfl | rfl | rfl | rfl | rfl | rfl | rfl <;> rcases (show i = 0 ∨ i = 1 ∨ i = 2 by omega) with rfl | rfl | rfl <;> simp [xH, z0, z3, z4, z6, z7, z8, hq] <;> omega
      · rcases (show p = 0 ∨ p = 1 ∨ p = 2 ∨ p = 3 ∨ p = 4 ∨ p = 5 ∨ p = 6 ∨ p = 7 ∨ p = 8 by omega) with rfl | rfl | rfl | rfl | rfl | rfl | rfl | rfl | rfl <;> rcases (show k = 0 ∨ k = 1 ∨ k = 2 by omega) with rfl | rfl | rfl <;> simp [hH, xH, z0, z3, z4, z6, z7, z8, hq, e1, e2, e5, f1, f2, f3, f5] <;> omega
      · rcases (show p = 0 ∨ p = 1 ∨ p = 2 ∨ p = 3 ∨ p = 4 ∨ p = 5 ∨ p = 6 ∨ p = 7 ∨ p = 8 by omega) with rfl | rfl | rfl | rfl | rfl | rfl | rfl | rfl | rfl <;> simp [hH, xH, uni, z0, z3, z4, z6, z7, z8, hq, e1, e2, e5, f2, g2] <;> omega
  obtain ⟨k1, k2, k3⟩ := key
  obtain ⟨r1, r2⟩ := hor_half (termZ (WZ a) n) (xH a n) (n - 1) (n * n) y (by omega) T k1 k2 (n - 1) (Nat.le_refl _)
  refine ⟨fun p hp => ?_, ?_⟩
  · show horZ (termZ (WZ a) n) (n - 1) (y * 4294967296) (n - 1) p = _
    rw [r1 p hp, k3 p hp]
  · show (termC (WZ a) n (n - 1) || horC (termZ (WZ a) n) (n - 1) (y * 4294967296) (n * n) (n - 1)) = false
    rw [TC, r2]
    rfl

/-- Flows one behind the other. -/
theorem flow_mul (a : Nat → Int) (n : Nat) (hn : 1 ≤ n ∧ n ≤ 3) (h : UpW 9 n a) (s t : Int) (hs : -100 ≤ s ∧ s ≤ 100) (ht : -100 ≤ t ∧ t ≤ 100) :
    (∀ p, p < n * n → mulZ (flowZ (WZ a) n (s * 4294967296)) (flowZ (WZ a) n (t * 4294967296)) n n p = flowZ (WZ a) n ((s + t) * 4294967296) p) ∧ ∀ p, p < n * n → mulG (flowZ (WZ a) n (s * 4294967296)) (flowZ (WZ a) n (t * 4294967296)) n n p = false := by
  by_cases h3 : n = 3
  · subst h3
    have b1 := h.1 1 (by omega)
    have b2 := h.1 2 (by omega)
    have b5 := h.1 5 (by omega)
    have m15 := mul_bound (a 1) (a 5) 9 9 b1 b5
    have ss := mul_bound s s 100 100 hs hs
    have tt := mul_bound t t 100 100 ht ht
    have w1 := mul_bound (a 1) s 9 100 b1 hs
    have w2 := mul_bound (a 2) s 9 100 b2 hs
    have w5 := mul_bound (a 5) s 9 100 b5 hs
    have v1 := mul_bound (a 1) t 9 100 b1 ht
    have v2 := mul_bound (a 2) t 9 100 b2 ht
    have v5 := mul_bound (a 5) t 9 100 b5 ht
    have q1 := mul_bound (a 1 * a 5) (s * s) 81 10000 m15 ss
    have q2 := mul_bound (a 1 * a 5) (t * t) 81 10000 m15 tt
    obtain ⟨r1, r2⟩ := uni_mul 3 hn (flowZ (WZ a) 3 (s * 4294967296)) (flowZ (WZ a) 3 (t * 4294967296)) _ _ _ _ _ _ (2 * (a 1 * s * (a 5 * t))) (flow_uni a 3 hn h s (by omega)).1 (flow_uni a 3 hn h t (by omega)).1 (by omega) (by omega) (by omega) (by omega) (by omega) (by omega) (by grind)
    refine ⟨fun p hp => ?_, r2⟩
    rw [r1 p hp, (flow_uni a 3 hn h (s + t) (by omega)).1 p hp]
    have e1 : 2 * (a 1 * s) + 2 * (a 1 * t) = 2 * (a 1 * (s + t)) := by grind
    have e2 : 2 * (a 2 * s) + a 1 * a 5 * (s * s) + (2 * (a 2 * t) + a 1 * a 5 * (t * t)) + 2 * (a 1 * s * (a 5 * t)) = 2 * (a 2 * (s + t)) + a 1 * a 5 * ((s + t) * (s + t)) := by grind
    have e5 : 2 * (a 5 * s) + 2 * (a 5 * t) = 2 * (a 5 * (s + t)) := by grind
    rw [e1, e2, e5]
  · have uc : ∀ b c d p, uni n b c d p = uni n b 0 0 p := fun b c d p => by
      unfold uni
      simp [h3]
    have fs : ∀ y, -200 ≤ y ∧ y ≤ 200 → ∀ p, p < n * n → flowZ (WZ a) n (y * 4294967296) p = uni n (2 * ((if n = 2 then a 1 else 0) * y)) 0 0 p * 2147483648 := fun y hy p hp => by
      rw [(flow_uni a n hn h y hy).1 p hp, uc]
      by_cases h2 : n = 2
      · rw [if_pos h2]
      · rw [if_neg h2]
        obtain rfl : n = 1 := by omega
        obtain rfl : p = 0 := by omega
        simp [uni]
    have bb : -9 ≤ (if n = 2 then a 1 else 0) ∧ (if n = 2 then a 1 else 0) ≤ 9 := by
      split
      · rename_i h2
        subst h2
        exact h.1 1 (by omega)
      · omega
    generalize (if n = 2 then a 1 else 0) = b at *
    have w1 := mul_bound b s 9 100 bb hs
    have v1 := mul_bound b t 9 100 bb ht
    obtain ⟨r1, r2⟩ := uni_mul n hn (flowZ (WZ a) n (s * 4294967296)) (flowZ (WZ a) n (t * 4294967296)) _ _ _ _ _ _ 0 (fs s (by omega)) (fs t (by omega)) (by omega) (by omega) (by omega) (by omega) (by omega) (by omega) (by omega)
    refine ⟨fun p hp => ?_, r2⟩
    rw [r1 p hp, fs (s + t) (by omega) p hp, Int.mul_add b, Int.mul_add]
    rfl
theorem flow_nought (a : Nat → Int) (n : Nat) (hn : 1 ≤ n ∧ n ≤ 3) (h : UpW 9 n a) (p : Nat) (hp : p < n * n) : flowZ (WZ a) n (0 * 4294967296) p = diagZ oneZ n p := by
  rw [(flow_uni a n hn h 0 (by omega)).1 p hp]
  show uni n _ _ _ p * 2147483648 = (if p / n = p % n then (4294967296 : Int) else 0)
  unfold uni
  simp
  split <;> simp

end Go.Proofs.Wd

/- PolyLine's ways: a list of matrices of one number each, gathered by append; their polynomial in whole numbers. -/
namespace Go.Proofs.Ytopaakjildmjcaa
open Go.RowKit Go.Shelf Go.Proofs.Wd
set_option linter.unusedVariables false
set_option linter.unusedSimpArgs false
set_option maxRecDepth 10000

/-- Powers, and the sum. -/
def powN (t : Int) : Nat → Int
  | 0 => 1
  | k + 1 => powN t k * t
def wantN (C : Nat → Int) (t : Int) : Nat → Int
  | 0 => 0
  | k + 1 => wantN C t k + C k * powN t k
theorem pow_bound (t : Int) (ht : -20 ≤ t ∧ t ≤ 20) : ∀ k, k ≤ 4 → -160000 ≤ powN t k ∧ powN t k ≤ 160000 := by
  have b0 : powN t 0 = 1 := rfl
  have b1 : powN t 1 = 1 * t := rfl
  have e2 : powN t 2 = 1 * t * t := rfl
  have e3 : powN t 3 = 1 * t * t * t := rfl
  have e4 : powN t 4 = 1 * t * t * t * t := rfl
  rw [Int.one_mul] at b1 e2 e3 e4
  have m2 := mul_bound t t 20 20 ht ht
  have m3 := mul_bound (t * t) t 400 20 m2 ht
  have m4 := mul_bound (t * t * t) t 8000 20 m3 ht
  intro k hk
  rcases (show k = 0 ∨ k = 1 ∨ k = 2 ∨ k = 3 ∨ k = 4 by omega) with rfl | rfl | rfl | rfl | rfl
  · rw [b0]; omega
  · rw [b1]; omega
  · rw [e2]; omega
  · rw [e3]; omega
  · rw [e4]; omega
theorem want_bound (C : Nat → Int) (t : Int) (ht : -20 ≤ t ∧ t ≤ 20) (hC : ∀ i, -20 ≤ C i ∧ C i ≤ 20) : ∀ k : Nat, k ≤ 4 → -((k : Int) * 3200000) ≤ wantN C t k ∧ wantN C t k ≤ (k : Int) * 3200000
  | 0, _ => by
    simp [wantN]
  | k + 1, hk => by
    have h := want_bound C t ht hC k (by omega)
    have m := mul_bound (C k) (powN t k) 20 160000 (hC k) (pow_bound t ht k (by omega))
    show _ ≤ wantN C t k + C k * powN t k ∧ wantN C t k + C k * powN t k ≤ _
    omega
theorem want_tight (C : Nat → Int) (t : Int) (ht : -20 ≤ t ∧ t ≤ 20) (hC : ∀ i, -20 ≤ C i ∧ C i ≤ 20) (k : Nat) (hk : k ≤ 4) : -1000000 ≤ wantN C t k ∧ wantN C t k ≤ 1000000 := by
  have b1 : powN t 1 = 1 * t := rfl
  have e2 : powN t 2 = 1 * t * t := rfl
  have e3 : powN t 3 = 1 * t * t * t := rfl
  rw [Int.one_mul] at b1 e2 e3
  have m2 := mul_bound t t 20 20 ht ht
  have m3 := mul_bound (t * t) t 400 20 m2 ht
  rw [← b1] at ht
  rw [← e2] at m2
  rw [← e3] at m3
  have c0 := hC 0
  have c1 := mul_bound (C 1) (powN t 1) 20 20 (hC 1) ht
  have c2 := mul_bound (C 2) (powN t 2) 20 400 (hC 2) m2
  have c3 := mul_bound (C 3) (powN t 3) 20 8000 (hC 3) m3
  have z1 : wantN C t 1 = 0 + C 0 * 1 := rfl
  have z2 : wantN C t 2 = wantN C t 1 + C 1 * powN t 1 := rfl
  have z3 : wantN C t 3 = wantN C t 2 + C 2 * powN t 2 := rfl
  have z4 : wantN C t 4 = wantN C t 3 + C 3 * powN t 3 := rfl
  rcases (show k = 0 ∨ k = 1 ∨ k = 2 ∨ k = 3 ∨ k = 4 by omega) with rfl | rfl | rfl | rfl | rfl
  · show -1000000 ≤ (0 : Int) ∧ (0 : Int) ≤ 1000000
    omega
  all_goals omega
/-- By Horner's way. -/
theorem want_hor (C : Nat → Int) (t : Int) (ht : -20 ≤ t ∧ t ≤ 20) (hC : ∀ i, -20 ≤ C i ∧ C i ≤ 20) (n : Nat) (hn : n ≤ 3) :
    (∀ k, k ≤ n → (-1000000000 ≤ hH (fun i _ => 2 * C i) n t k 0 ∧ hH (fun i _ => 2 * C i) n t k 0 ≤ 1000000000) ∧ -1000000000 ≤ hH (fun i _ => 2 * C i) n t k 0 * t ∧ hH (fun i _ => 2 * C i) n t k 0 * t ≤ 1000000000) ∧ hH (fun i _ => 2 * C i) n t n 0 = 2 * wantN C t (n + 1) := by
  have step : ∀ k, k ≤ 3 → k ≤ n → -(40 * ((22 : Int) ^ k)) ≤ hH (fun i _ => 2 * C i) n t k 0 ∧ hH (fun i _ => 2 * C i) n t k 0 ≤ 40 * ((22 : Int) ^ k) := by
    intro k
    induction k with
    | zero =>
      intro _ _
      show _ ≤ 2 * C n ∧ 2 * C n ≤ _
      have := hC n
      omega
    | succ k ih =>
      intro h3 hkn
      have h := ih (by omega) (by omega)
      have m := mul_bound _ t (40 * 22 ^ k) 20 h ht
      have c := hC (n - (k + 1))
      show _ ≤ hH (fun i _ => 2 * C i) n t k 0 * t + 2 * C (n - (k + 1)) ∧ hH (fun i _ => 2 * C i) n t k 0 * t + 2 * C (n - (k + 1)) ≤ _
      have p1 : (1 : Int) ≤ 22 ^ k := by
        rcases (show k = 0 ∨ k = 1 ∨ k = 2 by omega) with rfl | rfl | rfl <;> decide
      rw [Int.pow_succ]
      omega
  refine ⟨fun k hk => ?_, ?_⟩
  · have h := step k (by omega) hk
    have p : (22 : Int) ^ k ≤ 10648 := by
      rcases (show k = 0 ∨ k = 1 ∨ k = 2 ∨ k = 3 by omega) with rfl | rfl | rfl | rfl <;> decide
    have m := mul_bound _ t 425920 20 (show -425920 ≤ hH (fun i _ => 2 * C i) n t k 0 ∧ hH (fun i _ => 2 * C i) n t k 0 ≤ 425920 by omega) ht
    omega
  · rcases (show n = 0 ∨ n = 1 ∨ n = 2 ∨ n = 3 by omega) with rfl | rfl | rfl | rfl
    · simp [hH, wantN, powN]
    · simp [hH, wantN, powN]
      grind
    · simp [hH, wantN, powN]
      grind
    · simp [hH, wantN, powN]
      grind
theorem line_val (C : Nat → Int) (t : Int) (ht : -20 ≤ t ∧ t ≤ 20) (hC : ∀ i, -20 ≤ C i ∧ C i ≤ 20) (n : Nat) (hn : n ≤ 3) : horZ (fun i _ => C i * 4294967296) n (t * 4294967296) n 0 = wantN C t (n + 1) * 4294967296 := by
  obtain ⟨k1, k2⟩ := want_hor C t ht hC n hn
  have h := (hor_half (fun i _ => C i * 4294967296) (fun i _ => 2 * C i) n 1 t (by omega) (fun i _ p _ => by show C i * 4294967296 = 2 * C i * 2147483648; omega) (fun i _ p _ => by have := hC i; show _ ≤ 2 * C i ∧ 2 * C i ≤ _; omega) (fun k hk p hp => by
    obtain rfl : p = 0 := by omega
    exact k1 k hk) n (Nat.le_refl _)).1 0 (by omega)
  rw [h, k2]
  omega

/-- A list of such. -/
def oneMV (C : Nat → Int) (i : Nat) (B cp : Nat) : MV := ⟨1, 1, some ⟨B, 0, none⟩, 1, cp, fun _ => C i * 4294967296⟩
def LnF (base : Nat) (v : Value) (C : Nat → Int) (l : List MV) (W : World) : Prop :=
  MLs W base v l ∧ ∀ i x, l[i]? = some x → ∃ B cp, x = oneMV C i B cp ∧ 1 ≤ cp ∧ base ≤ B ∧ Own B 1 (fun _ => C i * 4294967296) W
def blkM (x : MV) : Nat := (x.ao.map fun a => a.block).getD 0
theorem LnF.kp {base : Nat} {v : Value} {C : Nat → Int} {l : List MV} {W W' : World} (h : LnF base v C l W) (k : Kp W W') : LnF base v C l W' :=
  ⟨h.1.kp k, fun i x hx => let ⟨B, cp, e, h1, h2, cur, h3, h4⟩ := h.2 i x hx; ⟨B, cp, e, h1, h2, cur, Blk.kp h3 k, h4⟩⟩
theorem lnF_dep (base g n c : Nat) (C : Nat → Int) (l : List MV) : DepL (g :: l.map blkM) (LnF base (.slice (some ⟨g, 0, none⟩) n c) C l) := fun W W' h ⟨h1, h2⟩ =>
  ⟨h1.blk fun g' cs e _ hb => (h g' (by cases e; simp)).trans hb, fun i x hx => by
    obtain ⟨B, cp, rfl, a1, a2, cur, a3, a4⟩ := h2 i x hx
    exact ⟨B, cp, rfl, a1, a2, cur, (h B (List.mem_cons_of_mem _ (List.mem_map.2 ⟨_, List.mem_of_getElem? hx, rfl⟩))).trans a3, a4⟩⟩
theorem LnF.app {base : Nat} {v v' : Value} {C : Nat → Int} {l : List MV} {W wa w4 : World} {B cp k : Nat} (h : LnF base v C l W) (g : Kp W wa) (hk : l.length = k) (hB : base ≤ B) (hcp : 1 ≤ cp) (ho : Own B 1 (fun _ => C k * 4294967296) wa)
    (hown : w4.ownsRow base 26 3 v' (k + 1) (flat l ++ (oneMV C k B cp).cells.toList)) (hg : wa.grownBy w4 v.ownBlock) : LnF base v' C (l ++ [oneMV C k B cp]) w4 := by
  have hw := h.kp g
  have ne : ∀ b Z, Own b 1 Z wa → some b ≠ v.ownBlock := fun b Z ⟨cur, h1, _⟩ e => by
    rcases hw.1.2 with ⟨e2, _⟩ | ⟨g', cap, cur2, rfl, hb, hg2, r⟩
    · rw [e2] at e
      cases e
    · cases e
      exact blk_ne h1 (show Blk g' cur2 26 wa from hg2) (by decide +kernel) rfl
  have keep : ∀ b Z, Own b 1 Z wa → Own b 1 Z w4 := fun b Z hb => by
    have n1 := ne b Z hb
    obtain ⟨cur, h1, h2⟩ := hb
    exact ⟨cur, Blk.by h1 hg n1, h2⟩
  refine ⟨?_, fun i x hx => ?_⟩
  · unfold MLs
    rw [flat_snoc, List.length_append, hk]
    exact hown
  · rw [List.getElem?_append] at hx
    split at hx
    · obtain ⟨B', cp', e, a1, a2, a3⟩ := hw.2 i x hx
      exact ⟨B', cp', e, a1, a2, keep _ _ a3⟩
    · rename_i hi
      have : i = l.length := by
        rcases Nat.lt_or_ge (i - l.length) 1 with h1 | h1
        · omega
        · rw [List.getElem?_eq_none (by simpa using h1)] at hx; cases hx
      subst this
      rw [Nat.sub_self] at hx
      cases hx
      rw [hk]
      exact ⟨B, cp, rfl, hcp, hB, keep _ _ ho⟩
theorem LnF.openL {base n : Nat} {v : Value} {C : Nat → Int} {l : List MV} {W : World} (h : LnF base v C l W) (hl : l.length = n) (hn : 1 ≤ n) : ∃ g c, v = .slice (some ⟨g, 0, none⟩) n c ∧ n ≤ c ∧ base ≤ g ∧ ∃ cur, Blk g cur 26 W := by
  obtain ⟨ao, cap, e, hM, hc, _⟩ := h.1.mats
  rcases h.1.2 with ⟨e2, e3⟩ | ⟨g', cap', cur, e2, hb, hg, r⟩
  · have : l.length = 0 := by simpa using e3
    omega
  · rw [e2] at e
    cases e
    exact ⟨g', cap, by rw [e2, hl], by omega, hb, cur, hg⟩

end Go.Proofs.Ytopaakjildmjcaa

/- PolyLine. -/
namespace Go.Proofs.Ytopaakjildmjcaa
open Go.RowKit Go.Shelf Go.Proofs.Wd
set_option linter.unusedVariables false
set_option linter.unusedSimpArgs false
set_option maxRecDepth 10000

def lineC (L : Nat → Int) : Nat → Int := fun i => L i % 41 - 20
def LnS (w : World) (L : Nat → Int) (k : Nat) (v : Value) (wr : World) : Prop := ∃ l : List MV, l.length = k ∧ LnF w.heap.size v (lineC L) l wr ∧ Kp w wr
theorem row_one {w : World} {b : Nat} {c : Int} (h : Blk b #[.int .i64 c] 3 w) : Row w (some ⟨b, 0, none⟩) 1 (fun _ => c) := Or.inr ⟨b, 0, rfl, fun i hi => by
  obtain rfl : i = 0 := by omega
  exact Blk.cell h 0⟩

theorem lineStep {w wb w4 : World} {L : Nat → Int} {v v' : Value} {l : List MV} {B cp k : Nat} (h : LnF w.heap.size v (lineC L) l wb ∧ Own B 1 (fun _ => lineC L k * 4294967296) wb ∧ w.heap.size ≤ B ∧ 1 ≤ cp ∧ l.length = k ∧ Kp w wb)
    (hown : w4.ownsRow w.heap.size 26 3 v' (k + 1) (flat l ++ (oneMV (lineC L) k B cp).cells.toList)) (hg : (wb.alloc (.cells (oneMV (lineC L) k B cp).cells 26)).grownBy w4 v.ownBlock) : LnS w L (k + 1) v' w4 := by
  obtain ⟨h1, h2, h3, h4, h5, h6⟩ := h
  have ga : Grown wb (wb.alloc (.cells (oneMV (lineC L) k B cp).cells 26)) := (Grown.refl _).alloc _ _
  have own : Own B 1 (fun _ => lineC L k * 4294967296) (wb.alloc (.cells (oneMV (lineC L) k B cp).cells 26)) := by
    obtain ⟨cur, a1, a2⟩ := h2
    exact ⟨cur, Blk.grown a1 ga, a2⟩
  refine ⟨l ++ [oneMV (lineC L) k B cp], by rw [List.length_append, h5]; rfl, h1.app (Kp.of ga) h5 h3 h4 own hown hg, (h6.grown ga).by hg (fun j e => ?_)⟩
  rcases h1.1.2 with ⟨e2, _⟩ | ⟨g', cap, cur2, rfl, hb, hg2, r⟩
  · rw [e2] at e
    cases e
  · cases e
    exact hb

set_option maxRecDepth 50000 in
set_option maxHeartbeats 16000000 in
theorem lawPolyLine (ao : Option Addr) (ln cap : Nat) (L : Nat → Int) (t0 : Int) (ht : I64 t0) (hL : ∀ i, i < ln → I64 (L i)) (w : World) (hr : Row w ao ln L) :
    Calls Try.prog 6 #[.slice ao ln cap, .int .i64 t0] w fun e w' => e = .returned (.bool true) ∧ Kp w w' := by
  have HR := hide hr
  have HL := hide hL
  have K1 := hide (lawPolyAwake w)
  have PT := hide (fun w => kitPick t0 41 ht (by omega) w)
  have tb : 0 ≤ t0 % 41 ∧ t0 % 41 < 41 := by omega
  obtain ⟨tp, htp⟩ : ∃ s, t0 % 41 = s := ⟨_, rfl⟩
  rw [htp] at PT tb
  obtain ⟨t, hte⟩ : ∃ t, t = tp - 20 := ⟨_, rfl⟩
  have t20 : -20 ≤ t ∧ t ≤ 20 := by omega
  have wt1 : wrap64 (tp - 20) = t := by rw [hte]; exact wrap_id _ (by omega)
  obtain ⟨T, hT⟩ : ∃ T, T = t * 4294967296 := ⟨_, rfl⟩
  have wt2 : wrap64 (t * 4294967296) = T := by rw [hT]; exact wrap_id _ (by omega)
  obtain ⟨V, hV⟩ : ∃ V, V = 7 * t := ⟨_, rfl⟩
  have wt3 : wrap64 (7 * t) = V := by rw [hV]; exact wrap_id _ (by omega)
  have HT : Hid (T = t * 4294967296 ∧ I64 T ∧ I64 V ∧ (-20 ≤ t ∧ t ≤ 20)) := ⟨hT, by unfold I64; omega, by unfold I64; omega, t20⟩
  have HC : Hid (∀ i, -20 ≤ lineC L i ∧ lineC L i ≤ 20) := fun i => by unfold lineC; omega
  clear ht hL hr tb htp hte hT hV t20
  by_cases h0 : ln = 0
  · subst h0
    go_enter Try.func6, Try.ntmps6
    go_wp2_with fail
    refine (unhide K1).mono ?_
    rintro e w1 ⟨rfl, k1⟩
    have W1 := hide k1
    clear k1 K1
    go_wp2
    go_ret
    exact ⟨rfl, unhide W1⟩
  by_cases h4 : 4 < ln
  · have d4 : decide ((4 : Int) < (ln : Int)) = true := decide_eq_true (by omega)
    have d0 : ((ln : Int) == 0) = false := by simp; omega
    go_enter Try.func6, Try.ntmps6
    go_wp2_with fail
    refine (unhide K1).mono ?_
    rintro e w1 ⟨rfl, k1⟩
    have W1 := hide k1
    clear k1 K1
    go_wp2
    go_ret
    exact ⟨rfl, unhide W1⟩
  have d4 : decide ((4 : Int) < (ln : Int)) = false := decide_eq_false (by omega)
  have d0 : ((ln : Int) == 0) = false := by simp; omega
  have HN : Hid (1 ≤ ln ∧ ln ≤ 4) := ⟨by omega, by omega⟩
  go_enter Try.func6, Try.ntmps6
  go_wp2_with fail
  refine (unhide K1).mono ?_
  rintro e w1 ⟨rfl, k1⟩
  have W1 := hide k1
  clear k1 K1
  go_wp2_with fail
  refine (unhide PT _).mono ?_
  rintro e w2 ⟨rfl, k2⟩
  have W2 : Hid (Kp w w2) := (unhide W1).trans k2
  have L0 : Hid (LnS w L 0 (.slice none 0 0) w2) := ⟨[], rfl, ⟨MLs.nil _ _, fun i x hx => by cases hx⟩, unhide W2⟩
  clear k2 W1 PT W2
  go_wp2_with fail
  simp only [wt1]
  clear wt1
  obtain ⟨i0, hi, hz0, hz1, hz2⟩ := info_parts Try.infoMat
  go_loopw [6, 7, 8, 9] (fun v a b i wr => ∃ k : Nat, k ≤ ln ∧ i = .int .i64 k ∧ a = .int .i64 (wantN (lineC L) t k) ∧ b = .int .i64 (powN t k) ∧ Hid (LnS w L k v wr)) (fun _ _ _ i _ => ln - (intOf i).toNat)
  case atStart => exact ⟨0, Nat.zero_le _, rfl, rfl, rfl, L0⟩
  case round =>
    obtain ⟨k, hk, rfl, rfl, rfl, HI⟩ := hrel
    clear L0
    by_cases hlt : k < ln
    · obtain ⟨b, o, rfl, hc⟩ := ((unhide HR).kp (unhide HI).choose_spec.2.2).at hlt
      have xI := unhide HL k hlt
      obtain ⟨x, hx⟩ : ∃ x, L k = x := ⟨_, rfl⟩
      rw [hx] at hc xI
      have PK := hide (fun w => kitPick x 41 xI (by omega) w)
      have yb : 0 ≤ x % 41 ∧ x % 41 < 41 := by omega
      have ec : Hid (lineC L k = x % 41 - 20) := by show lineC L k = _; unfold lineC; rw [hx]
      obtain ⟨y, hy⟩ : ∃ y, x % 41 = y := ⟨_, rfl⟩
      rw [hy] at PK yb ec
      obtain ⟨c, hcc⟩ : ∃ c, c = y - 20 := ⟨_, rfl⟩
      have wc : wrap64 (y - 20) = c := by rw [hcc]; exact wrap_id _ (by omega)
      have ec2 : Hid (lineC L k = c) := by show lineC L k = c; rw [unhide ec, hcc]
      have cb : Hid (-20 ≤ c ∧ c ≤ 20) := by show -20 ≤ c ∧ c ≤ 20; omega
      have k4 : k ≤ 3 := by have := unhide HN; omega
      have j0 : (0 : Int) ≤ (k : Int) := Int.natCast_nonneg _
      have j1 : (k : Int) < (ln : Int) := Int.ofNat_lt.2 hlt
      have pb := pow_bound t (unhide HT).2.2.2 k (by omega)
      have wb := want_bound (lineC L) t (unhide HT).2.2.2 (unhide HC) k (by omega)
      have E1 : Hid (wantN (lineC L) t (k + 1) = wantN (lineC L) t k + c * powN t k) := by
        show wantN (lineC L) t k + lineC L k * powN t k = _
        rw [unhide ec2]
      have E2 : Hid (powN t (k + 1) = powN t k * t) := rfl
      generalize hwk : wantN (lineC L) t k = wk at *
      generalize hpk : powN t k = pk at *
      have cp := mul_bound c pk 20 160000 (unhide cb) pb
      have pt := mul_bound pk t 160000 20 pb (unhide HT).2.2.2
      obtain ⟨m1, hm1⟩ : ∃ m, m = c * pk := ⟨_, rfl⟩
      obtain ⟨m2, hm2⟩ : ∃ m, m = wk + m1 := ⟨_, rfl⟩
      obtain ⟨m3, hm3⟩ : ∃ m, m = pk * t := ⟨_, rfl⟩
      have v1 : wrap64 (c * pk) = m1 := by rw [hm1]; exact wrap_id _ (by omega)
      have v2 : wrap64 (wk + m1) = m2 := by rw [hm2]; exact wrap_id _ (by omega)
      have v3 : wrap64 (pk * t) = m3 := by rw [hm3]; exact wrap_id _ (by omega)
      have R1 : Hid (wantN (lineC L) t (k + 1) = m2 ∧ powN t (k + 1) = m3) := ⟨by rw [unhide E1, hm2, hm1], by rw [unhide E2, hm3]⟩
      clear E1 E2 hwk hpk cp pt hm1 hm2 hm3 pb wb hcc hy yb ec hx xI
      go_wp2_with fail
      refine (unhide PK _).mono ?_
      rintro e wa ⟨rfl, ka⟩
      obtain ⟨l, hl, hLn, hkp⟩ := unhide HI
      have S1 := hide (And.intro (hLn.kp ka) (And.intro hl (hkp.trans ka)))
      clear ka PK HI hc hLn hl hkp
      have O1 := hide (lawOfP 1 (some ⟨wa.heap.size, 0, none⟩) 1 1 (fun _ => c) (by omega) (by omega) (fun i _ => by have := unhide cb; omega) _ (row_one (Blk.new wa #[.int .i64 c] 3)))
      have GA : Hid (Grown wa (wa.alloc (.cells #[.int .i64 c] 3))) := (Grown.refl _).alloc _ _
      go_wp2_with fail
      refine (unhide O1).mono ?_
      rintro e wb ⟨B, cp, rfl, hcp, hB, own, kb⟩
      have KB : Hid (Kp wa wb) := (Kp.of (unhide GA)).trans kb
      have eo : Own B 1 (fun _ => lineC L k * 4294967296) wb := own.congr (fun i _ => by rw [unhide ec2])
      have bB : w.heap.size ≤ B := by
        have q1 := (unhide S1).2.2.2.2.2
        have q2 := (unhide GA).2.2
        omega
      have S2 : Hid (LnF w.heap.size u6 (lineC L) l wb ∧ Own B 1 (fun _ => lineC L k * 4294967296) wb ∧ w.heap.size ≤ B ∧ 1 ≤ cp ∧ l.length = k ∧ Kp w wb) := ⟨(unhide S1).1.kp (unhide KB), eo, bB, hcp, (unhide S1).2.1, (unhide S1).2.2.trans (unhide KB)⟩
      have OW : Hid ((wb.alloc (.cells (oneMV (lineC L) k B cp).cells 26)).ownsRow w.heap.size 26 3 u6 k (flat l)) := by
        have := ((unhide S2).1.1.kp (Kp.of ((Grown.refl wb).alloc (oneMV (lineC L) k B cp).cells 26)))
        unfold MLs at this
        rw [(unhide S2).2.2.2.2.1] at this
        exact this
      have NW := hide (news_mat (w := wb.alloc (.cells (oneMV (lineC L) k B cp).cells 26)) (x := oneMV (lineC L) k B cp) (Blk.new wb _ _))
      have B1 : Hid (k + 1 ≤ maxLen) := by show k + 1 ≤ maxLen; unfold maxLen; omega
      have B2 : Hid ((k + 1) * 40 ≤ 140737488355328) := by show (k + 1) * 40 ≤ 140737488355328; omega
      have B3 : Hid (w.heap.size ≤ (wb.alloc (.cells (oneMV (lineC L) k B cp).cells 26)).heap.size) := by
        have := (unhide S2).2.2.2.2.2.2.2.2
        show _ ≤ _
        simp
        omega
      have B4 : Hid (k + 1 ≤ ln) := hlt
      clear own eo bB hB hcp kb O1 S1
      go_wp2_with (at_builtin; refine wpList_append_own _ rfl _ _ 30 rfl w.heap.size 26 i0 (.agg #[.int .i64 0, .int .i64 0, .slice none 0 0]) 3 40 Try.underlying30 hi hz0 hz1 hz2 rfl (by decide) u6 k (flat l) rfl (unhide OW) ⟨wb.heap.size, 0, none⟩ 1 1 (oneMV (lineC L) k B cp).cells.toList rfl rfl (unhide NW) (cells_oneMV _) (unhide B1) (unhide B2) (unhide B3) ?_; intro v' w4 hown hgrow _; have S4 : Hid (LnS w L (k + 1) v' w4) := lineStep (unhide S2) hown hgrow; clear hown hgrow)
      go_roundw
      case rel => exact ⟨k + 1, unhide B4, by go_num, by rw [(unhide R1).1]; first | rfl | rw [v2], by rw [(unhide R1).2]; first | rfl | rw [v3], S4⟩
      case measure => have := unhide B4; simp [intOf]; omega
    · obtain rfl : k = ln := by omega
      obtain ⟨l, hl, hLn, hkp⟩ := unhide HI
      obtain ⟨g, cg, rfl, hcg, hg, cur, hcur⟩ := hLn.openL hl (unhide HN).1
      have HLEN := hide hl
      have HCG := hide hcg
      have bb : ∀ q ∈ (g :: l.map blkM), q < wr.heap.size := fun q hq => by
        rcases List.mem_cons.1 hq with rfl | hq
        · exact Blk.lt hcur
        · obtain ⟨y, hy, rfl⟩ := List.mem_map.1 hq
          obtain ⟨i, hi⟩ := List.getElem?_of_mem hy
          obtain ⟨B, cp, rfl, _, _, h3⟩ := hLn.2 i y hi
          exact h3.lt
      have S0 : Hid (ST w [] [(g :: l.map blkM, LnF w.heap.size (.slice (some ⟨g, 0, none⟩) k cg) (lineC L) l)] wr) := ((ST.nil w).kp hkp).fact hLn (lnF_dep _ _ _ _ _ _) (fun q hq => ⟨bb q hq, fun h => absurd h List.not_mem_nil⟩)
      have N4 := hide (unitNew wr)
      have WN : Hid (-1000000 ≤ wantN (lineC L) t k ∧ wantN (lineC L) t k ≤ 1000000) := want_tight (lineC L) t (unhide HT).2.2.2 (unhide HC) k (unhide HN).2
      clear hl hLn hkp hcg hg hcur bb HI
      go_wp2_with fail
      refine (unhide N4).mono ?_
      rintro e w5 ⟨rfl, u5, g5⟩
      have S5 : Hid (ST w [([wr.heap.size], UO wr.heap.size (fun _ => True) 0)] _ w5) := (unhide S0).push (Kp.of g5) ⟨false, 0, trivial, by omega, by omega, u5⟩ (uo_dep _ _ _) (by simp) (fun q hq => by simp at hq; subst hq; exact ⟨Nat.le_refl _, Blk.lt u5⟩)
      generalize wr.heap.size = U at *
      clear u5 g5 N4 S0
      have AT : Hid (∀ (d t : Int) (m : Nat) (es' fs' : List Ob) wx, I64 t → 0 ≤ d → d ≤ 1000000 → 1 ≤ m → m ≤ k → ST w (([U], UO U (fun _ => True) d) :: es') fs' wx → (g :: l.map blkM, LnF w.heap.size (.slice (some ⟨g, 0, none⟩) k cg) (lineC L) l) ∈ fs' → Calls Try.prog 13 #[.pointer (some ⟨U, 0, none⟩), .slice (some ⟨g, 0, none⟩) m cg, .int .i64 t] wx fun e w' => ∃ B cp, e = .returned (.tuple #[.agg #[.int .i64 1, .int .i64 1, .slice (some ⟨B, 0, none⟩) 1 cp], .int .i64 0]) ∧ 1 ≤ cp ∧ ST w (([U], UO U (fun _ => True) (d + 100000)) :: es') (([B], Own B 1 (fun _ => horZ (fun i _ => lineC L i * 4294967296) (m - 1) t (m - 1) 0)) :: fs') w') := by
        intro d t m es' fs' wx ht hd0 hd hm1 hm S hf
        obtain ⟨c0, n0, _, q1, q2, hu⟩ := S.unit []
        have hLn : LnF w.heap.size (.slice (some ⟨g, 0, none⟩) k cg) (lineC L) l wx := S.get hf
        obtain ⟨ao, cap, e0, hM, hcp, hoff⟩ := hLn.1.mats
        rw [unhide HLEN] at e0 hM hcp
        cases e0
        obtain ⟨r, rfl⟩ : ∃ r, m = r + 1 := ⟨m - 1, by omega⟩
        have k4 := unhide HN
        have el : ∀ i, i ≤ r → ∃ B cp, ixM l i = oneMV (lineC L) i B cp ∧ 1 ≤ cp ∧ w.heap.size ≤ B ∧ Own B 1 (fun _ => lineC L i * 4294967296) wx := fun i hi => by
          obtain ⟨x, hx⟩ : ∃ x, l[i]? = some x := ⟨_, List.getElem?_eq_getElem (by have := unhide HLEN; omega)⟩
          rw [ixM_at hx]
          exact hLn.2 i x hx
        have cI : ∀ i, I64 (lineC L i * 4294967296) := fun i => by have := unhide HC i; unfold I64; omega
        have eZ : ∀ i, i ≤ r → ∀ p, p < 1 → (ixM l i).Z p = lineC L i * 4294967296 := fun i hi p _ => by
          obtain ⟨B, cp, e, _⟩ := el i hi
          rw [e]
          rfl
        have A := polyAt_ok U 1 1 1 r cg (some ⟨g, 0, none⟩) c0 n0 t ⟨q1, by omega⟩ ht (by omega) (by omega) rfl (by omega) (by omega) (ixM l) (fun i hi => by
            obtain ⟨B, cp, e, _⟩ := el i hi
            rw [e]
            exact ⟨rfl, rfl, rfl⟩) (fun i hi j hj => by rw [eZ i hi j hj]; exact cI i) wx hu (hM.sub (by omega)) (fun i hi => by
            obtain ⟨B, cp, e, _, _, ho⟩ := el i hi
            rw [e]
            exact ho.row) (fun i hi => by
            obtain ⟨B, cp, e, _, _, cur, ho, _⟩ := el i hi
            rw [e]
            intro _ a ha
            cases ha
            exact blk_ne ho hu (by decide +kernel)) (fun _ a ha => by
            cases ha
            obtain ⟨_, cur, hg⟩ := hLn.1.has
            exact blk_ne hg hu (by decide +kernel))
        refine A.mono ?_
        rintro e w' ⟨ao2, cp, B, rfl, h1, h2, h3, ⟨cnt, q3, q4, hu2⟩, hm⟩
        obtain ⟨rfl, hb⟩ := h3.resolve_left (by omega)
        have hz := (hor_congr (fun i => (ixM l i).Z) (fun i _ => lineC L i * 4294967296) r t 1 eZ r).1
        exact ⟨B, cp, rfl, h1, S.tellU [] (MkL.one hm) ⟨_, cnt, trivial, by omega, by omega, hu2⟩ (uo_dep _ _ _) (by simp) (hb.congr (fun i hi => by
          obtain rfl : i = 0 := by omega
          exact hz 0 hi)) (own_depL _ _ _) (fun q hq => by simp at hq; subst hq; exact ⟨h2, hb.lt⟩)⟩
      have S5 := hide S5
      have VB : Hid (∀ m r : Nat, m = r + 1 → horZ (fun i _ => lineC L i * 4294967296) r 0 r 0 = lineC L 0 * 4294967296) := fun m r _ => by
        rw [hor_zero (fun i _ => lineC L i * 4294967296) r (fun i _ p => by have := unhide HC i; unfold Fx; omega) r 0 (Nat.le_refl _), Nat.sub_self]
      have F1 := hide (unhide AT _ T k _ _ w5 (unhide HT).2.1 (by omega) (by omega) (unhide HN).1 (Nat.le_refl _) (unhide S5) (by simp))
      go_wp2_with fail
      refine (unhide F1).mono ?_
      rintro e w6 ⟨BX, cX, rfl, hcX, S6⟩
      have S6 := hide (S6.box #[.int .i64 1, .int .i64 1, .slice (some ⟨BX, 0, none⟩) 1 cX] 26)
      obtain ⟨Xx, hXx⟩ : ∃ q, w6.heap.size = q := ⟨_, rfl⟩
      rw [hXx] at S6
      generalize hw7 : w6.alloc (.cells #[.int .i64 1, .int .i64 1, .slice (some ⟨BX, 0, none⟩) 1 cX] 26) = w7 at S6
      have F2 := hide (unhide AT _ 0 k _ _ w7 (by unfold I64; omega) (by omega) (by omega) (unhide HN).1 (Nat.le_refl _) (unhide S6) (by simp))
      clear hcX S5 F1
      go_wp2_with fail
      (try rw [hXx])
      (try rw [hw7])
      clear hXx hw7
      refine (unhide F2).mono ?_
      rintro e w8 ⟨BY, cY, rfl, hcY, S8⟩
      have S8 := hide (S8.box #[.int .i64 1, .int .i64 1, .slice (some ⟨BY, 0, none⟩) 1 cY] 26)
      obtain ⟨Yx, hYx⟩ : ∃ q, w8.heap.size = q := ⟨_, rfl⟩
      rw [hYx] at S8
      generalize hw9 : w8.alloc (.cells #[.int .i64 1, .int .i64 1, .slice (some ⟨BY, 0, none⟩) 1 cY] 26) = w9 at S8
      have F3 := hide (unhide AT _ V 1 _ _ w9 (unhide HT).2.2.1 (by omega) (by omega) (by omega) (unhide HN).1 (unhide S8) (by simp))
      have SL : ∀ w : World, (Instr.sliceAt 30 (.slice (some ⟨g, 0, none⟩) k cg) none (some (.int .i64 1)) none).run Try.prog w = .ok (.slice (some ⟨g, 0, none⟩) 1 cg) w := fun w => slice_toM (some ⟨g, 0, none⟩) k cg 1 (by have := unhide HCG; have := (unhide HN).1; omega) w
      clear hcY S6 F2
      go_wp2_with fail
      (try rw [hYx])
      (try rw [hw9])
      clear hYx hw9 SL
      refine (unhide F3).mono ?_
      rintro e w10 ⟨BZ, cZ, rfl, hcZ, S10⟩
      have S10 := hide (S10.box #[.int .i64 1, .int .i64 1, .slice (some ⟨BZ, 0, none⟩) 1 cZ] 26)
      obtain ⟨Zx, hZx⟩ : ∃ q, w10.heap.size = q := ⟨_, rfl⟩
      rw [hZx] at S10
      generalize hw11 : w10.alloc (.cells #[.int .i64 1, .int .i64 1, .slice (some ⟨BZ, 0, none⟩) 1 cZ] 26) = w11 at S10
      clear hcZ S8 F3 AT
      obtain ⟨B0, c0, hB0⟩ : ∃ B c, l[0]? = some (oneMV (lineC L) 0 B c) := by
        have hLn := (unhide S10).get (f := (g :: l.map blkM, LnF w.heap.size (.slice (some ⟨g, 0, none⟩) k cg) (lineC L) l)) (by simp)
        obtain ⟨x, hx⟩ : ∃ x, l[0]? = some x := ⟨_, List.getElem?_eq_getElem (by have := unhide HLEN; have := (unhide HN).1; omega)⟩
        obtain ⟨B, cp, e, _⟩ := hLn.2 0 x hx
        exact ⟨B, cp, by rw [hx, e]⟩
      have CW : Hid (∀ wx, Kp w11 wx → (wx.cell? ⟨Xx, 0, none⟩ = some (.int .i64 1) ∧ wx.cell? ⟨Xx, 1, none⟩ = some (.int .i64 1) ∧ wx.cell? ⟨Xx, 2, none⟩ = some (.slice (some ⟨BX, 0, none⟩) 1 cX)) ∧ (wx.cell? ⟨Yx, 0, none⟩ = some (.int .i64 1) ∧ wx.cell? ⟨Yx, 1, none⟩ = some (.int .i64 1) ∧ wx.cell? ⟨Yx, 2, none⟩ = some (.slice (some ⟨BY, 0, none⟩) 1 cY)) ∧ (wx.cell? ⟨Zx, 0, none⟩ = some (.int .i64 1) ∧ wx.cell? ⟨Zx, 1, none⟩ = some (.int .i64 1) ∧ wx.cell? ⟨Zx, 2, none⟩ = some (.slice (some ⟨BZ, 0, none⟩) 1 cZ)) ∧ (wx.cell? ⟨g, 0, none⟩ = some (.int .i64 1) ∧ wx.cell? ⟨g, 1, none⟩ = some (.int .i64 1) ∧ wx.cell? ⟨g, 2, none⟩ = some (.slice (some ⟨B0, 0, none⟩) 1 c0))) := fun wx q => by
        have S := (unhide S10).kp q
        have hLn := S.get (f := (g :: l.map blkM, LnF w.heap.size (.slice (some ⟨g, 0, none⟩) k cg) (lineC L) l)) (by simp)
        obtain ⟨ao2, cap2, e0, hM, _, _⟩ := hLn.1.mats
        rw [unhide HLEN] at e0 hM
        cases e0
        obtain ⟨b, o, e1, m0, m1, m2⟩ := hM.at (k := 0) (unhide HN).1
        cases e1
        rw [ixM_at hB0] at m0 m1 m2
        exact ⟨S.cells (T := 26) (by simp), S.cells (T := 26) (by simp), S.cells (T := 26) (by simp), m0, m1, m2⟩
      have RW : Hid (∀ wx, Kp w11 wx → Row wx (some ⟨BX, 0, none⟩) 1 (fun _ => wantN (lineC L) t k * 4294967296) ∧ Row wx (some ⟨BY, 0, none⟩) 1 (fun _ => lineC L 0 * 4294967296) ∧ Row wx (some ⟨BZ, 0, none⟩) 1 (fun _ => lineC L 0 * 4294967296) ∧ Row wx (some ⟨B0, 0, none⟩) 1 (fun _ => lineC L 0 * 4294967296)) := fun wx q => by
        have S := (unhide S10).kp q
        have hLn := S.get (f := (g :: l.map blkM, LnF w.heap.size (.slice (some ⟨g, 0, none⟩) k cg) (lineC L) l)) (by simp)
        have k1 := unhide HN
        obtain ⟨r, hrk⟩ : ∃ r, k = r + 1 := ⟨k - 1, by omega⟩
        have o1 := (S.own (B := BX) (len := 1) (Z := fun _ => horZ (fun i _ => lineC L i * 4294967296) (k - 1) T (k - 1) 0) (by simp)).row
        have o2 := (S.own (B := BY) (len := 1) (Z := fun _ => horZ (fun i _ => lineC L i * 4294967296) (k - 1) 0 (k - 1) 0) (by simp)).row
        have o3 := (S.own (B := BZ) (len := 1) (Z := fun _ => horZ (fun i _ => lineC L i * 4294967296) (1 - 1) V (1 - 1) 0) (by simp)).row
        refine ⟨rowCongr o1 (fun i _ => ?_), rowCongr o2 (fun i _ => ?_), o3, ?_⟩
        · show horZ (fun i _ => lineC L i * 4294967296) (k - 1) T (k - 1) 0 = wantN (lineC L) t k * 4294967296
          rw [(unhide HT).1, line_val (lineC L) t (unhide HT).2.2.2 (unhide HC) (k - 1) (by omega), show k - 1 + 1 = k by omega]
        · show horZ (fun i _ => lineC L i * 4294967296) (k - 1) 0 (k - 1) 0 = lineC L 0 * 4294967296
          exact unhide VB k (k - 1) (by omega)
        · obtain ⟨B, cp, e, _, _, ho⟩ := hLn.2 0 _ hB0
          unfold oneMV at e
          injection e with _ _ e1
          cases e1
          exact ho.row
      have KW : Hid (Kp w w11) := (unhide S10).keep
      clear S10 hB0 VB
      obtain ⟨⟨x0, x1, x2⟩, ⟨x3, x4, x5⟩, ⟨x6, x7, x8⟩, ⟨x9, xa, xb⟩⟩ := unhide CW w11 (Kp.refl _)
      have gx1 := heap_gt x0
      have gx2 := heap_gt x3
      have gx3 := heap_gt x6
      have gx4 := heap_gt x9
      have k4 := unhide HN
      generalize hWN : wantN (lineC L) t k = W0 at *
      have kpos : (0 : Int) < (k : Int) := by omega
      have kp1 : 0 < k := by omega
      have kp2 : ¬ k = 0 := by omega
      have kp3 : ¬ (k : Int) ≤ 0 := by omega
      have KD : Hid (Kp w11 (w11.alloc (.cells #[.int .i64 W0] 3)).drew) := (show Kp w11 (w11.alloc (.cells #[.int .i64 W0] 3)) from (Kp.refl _).alloc _ _)
      have T1 : Hid (Calls Try.prog 11 #[.int .i64 1, .slice (some ⟨w11.heap.size, 0, none⟩) 1 1] (w11.alloc (.cells #[.int .i64 W0] 3)).drew fun e w' => OwnM 1 1 (fun _ => W0 * 4294967296) (w11.alloc (.cells #[.int .i64 W0] 3)).drew e w') := lawOfP 1 (some ⟨w11.heap.size, 0, none⟩) 1 1 (fun _ => W0) (by omega) (by omega) (fun i _ => unhide WN) _ (row_one (show Blk w11.heap.size #[.int .i64 W0] 3 (w11.alloc (.cells #[.int .i64 W0] 3)).drew from Blk.new w11 _ _))
      clear k4
      go_wp2_with fail
      (try rw [hZx])
      (try rw [hw11])
      clear hZx hw11
      go_region_held3 (fun w' => w'.cell? ⟨Xx, 0, none⟩ = some (.int .i64 1) ∧ w'.cell? ⟨Xx, 1, none⟩ = some (.int .i64 1) ∧ w'.cell? ⟨Xx, 2, none⟩ = some (.slice (some ⟨BX, 0, none⟩) 1 cX) ∧ w'.cell? ⟨Yx, 0, none⟩ = some (.int .i64 1) ∧ w'.cell? ⟨Yx, 1, none⟩ = some (.int .i64 1) ∧ w'.cell? ⟨Yx, 2, none⟩ = some (.slice (some ⟨BY, 0, none⟩) 1 cY) ∧ w'.cell? ⟨Zx, 0, none⟩ = some (.int .i64 1) ∧ w'.cell? ⟨Zx, 1, none⟩ = some (.int .i64 1) ∧ w'.cell? ⟨Zx, 2, none⟩ = some (.slice (some ⟨BZ, 0, none⟩) 1 cZ) ∧ w'.cell? ⟨g, 0, none⟩ = some (.int .i64 1) ∧ w'.cell? ⟨g, 1, none⟩ = some (.int .i64 1) ∧ w'.cell? ⟨g, 2, none⟩ = some (.slice (some ⟨B0, 0, none⟩) 1 c0))
          (simp [go_sem, *])
          (first
            | (go_at_call 11; refine (unhide T1).mono ?_; clear T1; rintro e w12 ⟨B12, c12, rfl, _, _, own12, k12⟩; have K12 : Hid (Kp w11 w12) := ((unhide KD).trans k12); have R12 := hide own12.row; obtain ⟨⟨y0, y1, y2⟩, ⟨y3, y4, y5⟩, ⟨y6, y7, y8⟩, ⟨y9, ya, yb⟩⟩ := unhide CW w12 (unhide K12); have gy1 := heap_gt y0; have gy2 := heap_gt y3; have gy3 := heap_gt y6; have gy4 := heap_gt y9; clear own12 k12 KD)
            | (go_at_call_of 16 BX; refine (kitSameM 1 1 (some ⟨BX, 0, none⟩) (some ⟨B12, 0, none⟩) 1 cX c12 (fun _ => W0 * 4294967296) (by omega) _ (unhide RW _ (unhide K12)).1 (unhide R12)).mono ?_; clear R12; rintro e w13 ⟨rfl, k13⟩; have K13 : Hid (Kp w11 w13) := ((unhide K12).trans k13); obtain ⟨⟨z0, z1, z2⟩, ⟨z3, z4, z5⟩, ⟨z6, z7, z8⟩, ⟨z9, za, zb⟩⟩ := unhide CW w13 (unhide K13); have gz1 := heap_gt z0; have gz2 := heap_gt z3; have gz3 := heap_gt z6; have gz4 := heap_gt z9; clear k13)
            | (go_at_call_of 16 BY; refine (kitSameM 1 1 (some ⟨BY, 0, none⟩) (some ⟨B0, 0, none⟩) 1 cY c0 (fun _ => lineC L 0 * 4294967296) (by omega) _ (unhide RW _ (unhide K13)).2.1 (unhide RW _ (unhide K13)).2.2.2).mono ?_; rintro e w14 ⟨rfl, k14⟩; have K14 : Hid (Kp w11 w14) := ((unhide K13).trans k14); obtain ⟨⟨v0, v1, v2⟩, ⟨v3, v4, v5⟩, ⟨v6, v7, v8⟩, ⟨v9, va, vb⟩⟩ := unhide CW w14 (unhide K14); have gv1 := heap_gt v0; have gv2 := heap_gt v3; have gv3 := heap_gt v6; have gv4 := heap_gt v9; clear k14)
            | (go_at_call_of 16 BZ; refine (kitSameM 1 1 (some ⟨BZ, 0, none⟩) (some ⟨B0, 0, none⟩) 1 cZ c0 (fun _ => lineC L 0 * 4294967296) (by omega) _ (unhide RW _ (unhide K14)).2.2.1 (unhide RW _ (unhide K14)).2.2.2).mono ?_; rintro e w15 ⟨rfl, k15⟩; have K15 : Hid (Kp w11 w15) := ((unhide K14).trans k15); obtain ⟨⟨t0, t1, t2⟩, ⟨t3, t4, t5⟩, ⟨t6, t7, t8⟩, ⟨t9, ta, tb⟩⟩ := unhide CW w15 (unhide K15); have gt1 := heap_gt t0; have gt2 := heap_gt t3; have gt3 := heap_gt t6; have gt4 := heap_gt t9; clear k15))
      go_wp2
      go_ret
      exact ⟨rfl, (unhide KW).trans (unhide K15)⟩

end Go.Proofs.Ytopaakjildmjcaa

/- The statement PolyLine holds for every input: the law returns true, and its arguments read afterwards as before. No condition. -/
namespace Go.Proofs.Ytopaakjildmjcaa.polyLine
open Go.ChangeShapes Go.WideShapes Go.ChangeAt Go.RowKit Go.Joins Go.Proofs.Wd
set_option linter.unusedVariables false
set_option linter.unusedSimpArgs false
set_option maxRecDepth 10000

theorem own : ownKnob Try.prog.godebug = none := by kernel_rfl

set_option maxRecDepth 100000 in
theorem lifted (os : Os) (started : os.Started) (H : Type) (enc : TypeId × Value → H) :
    ReturnsInHanded {} Try.checked os 6 .any (Rows.polyLineSpec.pre6 enc Try.prog Try.f6 Rows.polyLineRow.domain false) (Rows.polyLineSpec.post enc Try.prog Try.f6 false true false false) := by
  refine returnsInHanded_of_change (C := Try.checked) own started (by kernel_rfl) Try.func6
    (ChangeSpec.witness6 (enc := enc) (C := Try.checked) false ⟨#[], #[.slice none 0 0, .int .i64 0], []⟩ 8 (by kernel_rfl) (by kernel_rfl) (by kernel_rfl) (by kernel_rfl)) ?_
  intro W base args ds gs before hval0 hW hcnd _
  have hval : ∀ (j : Nat) t v, Try.f6.params[j]? = some t → args[j]? = some v → Value.okWide Try.prog W .any base t v := hval0
  have hW' := hW
  obtain ⟨p, q, hA0, hV, rfl, hfz, hnd⟩ := hW
  have hA : DataW.TrodAll enc Try.prog W 0 (fun _ => true) true Try.f6.params.toList args.toList ds p := hA0
  rw [Try.params6] at hA hval
  obtain ⟨v0, vs0, d0, ds0, p0, q0, hargs, rfl, rfl, h0, r0⟩ := trodAll_cons hA
  obtain ⟨v1, vs1, d1, ds1, p1, q1, rfl, rfl, rfl, h1, r1⟩ := trodAll_cons r0
  obtain ⟨rfl, rfl, rfl⟩ := trodAll_nil r1
  obtain rfl : args = #[v0, v1] := by cases args; simp_all
  obtain ⟨rfl, rfl⟩ := trodVars_none hV
  have hlt := hW'.lt
  have k0 := h0
  obtain ⟨fuel0, t0⟩ := h0
  obtain ⟨ao0, ln0, lc0, rfl⟩ := okWide_slice Try.underlying24 (hval 0 24 v0 rfl rfl)
  obtain ⟨ya0, yl0, yc0, Z0, e0, le0, lm0, row0, num0, nil0⟩ := open_row0 t0
  cases e0
  obtain ⟨a1, rfl, rfl, rfl, wa1⟩ := open_int Try.underlying3 (hval 1 3 v1 rfl rfl) h1
  clear hA0 hval0
  refine (lawPolyLine ao0 ln0 lc0 Z0 a1 (i64_wf wa1) num0 W row0).mono fun e W' ⟨he, hg⟩ => ?_
  subst he
  exact ⟨_, rfl, post_of_kp (pa := p0 ++ ([] ++ ([]))) (pv := []) hW' (fun _ => (trodAll_cons_mk (shut_bool Try.underlying4 _) trodAll_mk0)) (trodAll_cons_mk (WideElems.Trod_stays laid (by kernel_rfl) (of_decide_eq_true (by kernel_rfl)) k0 (fun x hx => hg.same (hlt x (by simp [hx]))) (fun x hx => by simpa using hlt x (by simp [hx]))) (trodAll_cons_mk (shut_int Try.underlying3 wa1) trodAll_mk0)) rfl hg⟩

end Go.Proofs.Ytopaakjildmjcaa.polyLine
namespace Go.Proofs.Ytopaakjildmjcaa
theorem polyLine_holds : Rows.PolyLineSaid :=
  OpenClaim.holds_of_wide 6 Try.f6 rfl rfl rfl rfl rfl rfl rfl ⟨rfl, rfl, rfl, rfl, rfl⟩ rfl rfl rfl rfl rfl (by kernel_rfl) Try.func6 (by kernel_rfl)
    (of_decide_eq_true (by kernel_rfl)) (by unfold Func.isWrapper; first | (rw [if_pos (by decide +kernel)]; kernel_rfl) | (rw [if_neg (by decide +kernel)]; exact ⟨rfl, rfl⟩))
    (fun os started H enc _ => polyLine.lifted os started H enc)
#print axioms polyLine_holds
end Go.Proofs.Ytopaakjildmjcaa
