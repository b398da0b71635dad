/- PickA PolyW PolyN PolyM2 PolyG PolyGroupLaw, one after another. -/
import Derived.Test.YtopaakjildmjcaaRowA
import Derived.Test.YtopaakjildmjcaaPolyBas2
import Derived.Test.YtopaakjildmjcaaPolyBase
import Derived.BigQuiet
import Derived.Test.YtopaakjildmjcaaRows
import Derived.Test.YtopaakjildmjcaaRowL
import Derived.ProofKit
import Derived.OpenShut
import Derived.Lib.SmallJoins
/- The laws' kit: Pick. -/
namespace Go.Proofs.Ytopaakjildmjcaa
open Go.RowKit Go.Proofs.Wd
set_option linter.unusedVariables false
set_option linter.unusedSimpArgs false
set_option maxRecDepth 10000

theorem tmod_of (x n : Int) (hn : 0 < n) : (0 ≤ x.tmod n → x.tmod n = x % n) ∧ (x.tmod n < 0 → x.tmod n + n = x % n) ∧ -n < x.tmod n ∧ x.tmod n < n := by
  have e := @Int.tmod_eq_emod x n
  have h1 := Int.emod_nonneg x (show n ≠ 0 by omega)
  have h2 := Int.emod_lt_of_pos x hn
  have h3 : (n.natAbs : Int) = n := by omega
  rw [e]
  split <;> omega
theorem wrap_id (y : Int) (h : -9223372036854775808 ≤ y ∧ y ≤ 9223372036854775807) : wrap64 y = y := by
  unfold wrap64
  omega

set_option maxHeartbeats 1000000 in
theorem kitPick (x n : Int) (hx : I64 x) (hn : 0 < n ∧ n ≤ 4611686018427387904) (w : World) : Calls Try.prog 17 #[.int .i64 x, .int .i64 n] w fun e w' => e = .returned (.int .i64 (x % n)) ∧ Kp w w' := by
  obtain ⟨h0, h1⟩ := hn
  have c0 : ¬ n ≤ 0 := by omega
  have T := hide (tmod_of x n h0)
  unfold I64 at hx
  go_enter Try.func17, Try.ntmps17
  go_wp2
  · rename_i hh
    go_ret
    exact ⟨congrArg (fun v => Ending.returned (Value.int .i64 v)) ((wrap_id _ (by have := unhide T; omega)).trans ((unhide T).2.1 hh)), Kp.refl _⟩
  · rename_i hh
    go_ret
    exact ⟨congrArg (fun v => Ending.returned (Value.int .i64 v)) ((unhide T).1 hh), Kp.refl _⟩

end Go.Proofs.Ytopaakjildmjcaa

/- The laws' helper upper: a strictly upper matrix of whole numbers. -/
namespace Go.Proofs.Ytopaakjildmjcaa
open Go.RowKit Go.Shelf Go.Proofs.Wd
set_option linter.unusedVariables false
set_option linter.unusedSimpArgs false
set_option maxRecDepth 10000

def UpI (w : World) (n nn L : Nat) (most : Int) (wr : World) : Prop :=
  ∃ a, UpW most n a ∧ Blk w.heap.size #[.int .i64 0, .int .i64 0, .slice none 0 0] 26 wr ∧ Blk L (ints nn (WZ a)) 3 wr ∧ Blk (L + 1) #[.int .i64 n, .int .i64 n, .slice (some ⟨L, 0, none⟩) nn nn] 26 wr ∧ Kp w wr ∧ w.heap.size + 1 ≤ L
theorem UpI.kp {w : World} {n nn L : Nat} {most : Int} {wr w' : World} (h : UpI w n nn L most wr) (k : Kp wr w') : UpI w n nn L most w' :=
  let ⟨a, h1, h2, h3, h4, h5, h6⟩ := h
  ⟨a, h1, Blk.kp h2 k, Blk.kp h3 k, Blk.kp h4 k, h5.trans k, h6⟩
theorem UpI.put {w : World} {n nn L : Nat} {most : Int} {wr : World} (h : UpI w n nn L most wr) (i k p : Nat) (hi : i < n) (hk : k < n) (hik : i < k) (hp : i * n + k = p) (z : Int) (hz : -most ≤ z ∧ z ≤ most) : UpI w n nn L most (wr.setCell ⟨L, p, none⟩ (.int .i64 (z * 4294967296))) := by
  obtain ⟨a, h1, h2, h3, h4, h5, h6⟩ := h
  have q : Mod L wr (wr.setCell ⟨L, p, none⟩ (.int .i64 (z * 4294967296))) := (Mod.refl _ _).setCell _ _
  refine ⟨fun j => if j = p then z else a j, ⟨fun j hj => ?_, fun i' k' hi' hk' hle => ?_⟩, Blk.keep h2 q (by omega), ?_, Blk.keep h4 q (by omega), h5.mod q (by omega), h6⟩
  · show -most ≤ (if j = p then z else a j) ∧ (if j = p then z else a j) ≤ most
    split
    · exact hz
    · exact h1.1 j hj
  · show (if i' * n + k' = p then z else a (i' * n + k')) = 0
    rw [if_neg ?_]
    · exact h1.2 i' k' hi' hk' hle
    · intro e
      rw [← hp] at e
      have d := congrArg (· / n) e
      have m := congrArg (· % n) e
      simp only [place_div _ _ _ hk', place_div _ _ _ hk, place_mod _ _ _ hk', place_mod _ _ _ hk] at d m
      omega
  · have := Blk.setI h3 p (z * 4294967296)
    rw [show ints nn (WZ fun j => if j = p then z else a j) = ints nn (fun j => if j = p then z * 4294967296 else WZ a j) from ints_congr _ _ _ fun j _ => by
      show (if j = p then z else a j) * 4294967296 = _
      split <;> rfl]
    exact this

set_option maxRecDepth 50000 in
set_option maxHeartbeats 8000000 in
theorem lawUpper (n : Nat) (most : Int) (hn : 1 ≤ n ∧ n ≤ 12) (hm : 0 ≤ most ∧ most ≤ 20) (ao : Option Addr) (ln cap : Nat) (A : Nat → Int) (hA : ∀ i, i < ln → I64 (A i)) (w : World) (hr : Row w ao ln A) :
    Calls Try.prog 18 #[.int .i64 n, .int .i64 most, .slice ao ln cap] w fun e w' => ∃ a, UpW most n a ∧ OwnM n (n * n) (WZ a) w e w' := by
  have k2 := mul12n n n hn hn
  have HP : Hid (∀ i k, i < n → k < n → i * n + k < n * n) := fun i k hi hk => place_in i k n n hi hk
  obtain ⟨nn, hnn⟩ : ∃ nn, n * n = nn := ⟨_, rfl⟩
  rw [hnn] at k2 HP
  rw [hnn]
  have MK := make_ints nn (by omega)
  have w1 : wrap64 ((n : Int) * (n : Int)) = (nn : Int) := wrapP n n nn hnn (by omega)
  have b1 : Blk w.heap.size #[.int .i64 0, .int .i64 0, .slice none 0 0] 26 (w.alloc (.cells #[.int .i64 0, .int .i64 0, .slice none 0 0] 26)) := Blk.new w _ _
  have HB : Hid (Grown w (w.alloc (.cells #[.int .i64 0, .int .i64 0, .slice none 0 0] 26)) ∧ Blk w.heap.size #[.int .i64 0, .int .i64 0, .slice none 0 0] 26 (w.alloc (.cells #[.int .i64 0, .int .i64 0, .slice none 0 0] 26)) ∧ (w.alloc (.cells #[.int .i64 0, .int .i64 0, .slice none 0 0] 26)).heap.size = w.heap.size + 1) := ⟨(Grown.refl _).alloc _ _, b1, by simp⟩
  have HR := hide hr
  have HA := hide hA
  have HN := hide (And.intro hn (And.intro hm k2))
  clear hr hA hn hm k2 hnn b1
  go_enter Try.func18, Try.ntmps18
  go_wp2_with fail
  have I0 : Hid (UpI w n nn (w.heap.size + 1) most (((w.alloc (.cells #[.int .i64 0, .int .i64 0, .slice none 0 0] 26)).alloc (.cells (ints nn fun _ => 0) 3)).alloc (.cells #[.int .i64 n, .int .i64 n, .slice (some ⟨w.heap.size + 1, 0, none⟩) nn nn] 26))) := by
    obtain ⟨g1, b1, hs⟩ := unhide HB
    have g2 : Grown (w.alloc (.cells #[.int .i64 0, .int .i64 0, .slice none 0 0] 26)) (((w.alloc (.cells #[.int .i64 0, .int .i64 0, .slice none 0 0] 26)).alloc (.cells (ints nn fun _ => 0) 3)).alloc (.cells #[.int .i64 n, .int .i64 n, .slice (some ⟨w.heap.size + 1, 0, none⟩) nn nn] 26)) := ((Grown.refl _).alloc _ _).alloc _ _
    refine ⟨fun _ => 0, ⟨fun p _ => by have := (unhide HN).2.1; show -most ≤ 0 ∧ 0 ≤ most; omega, fun i k _ _ _ => rfl⟩, Blk.grown b1 g2, ?_, ?_, Kp.of (gtrans g1 g2), by omega⟩
    · have := Blk.grown (Blk.new (w.alloc (.cells #[.int .i64 0, .int .i64 0, .slice none 0 0] 26)) (ints nn fun _ => 0) 3) ((Grown.refl _).alloc #[.int .i64 n, .int .i64 n, .slice (some ⟨w.heap.size + 1, 0, none⟩) nn nn] 26)
      rw [hs] at this
      exact this
    · have := blk_new2 (w.alloc (.cells #[.int .i64 0, .int .i64 0, .slice none 0 0] 26)) (.cells (ints nn fun _ => 0) 3) #[.int .i64 n, .int .i64 n, .slice (some ⟨w.heap.size + 1, 0, none⟩) nn nn] 26
      rw [hs] at this
      exact this
  clear MK HB w1
  generalize (((w.alloc (.cells #[.int .i64 0, .int .i64 0, .slice none 0 0] 26)).alloc (.cells (ints nn fun _ => 0) 3)).alloc (.cells #[.int .i64 n, .int .i64 n, .slice (some ⟨w.heap.size + 1, 0, none⟩) nn nn] 26)) = w5 at *
  generalize w.heap.size + 1 = L at *
  go_loopw [8, 9] (fun t i wr => ∃ j q : Nat, j ≤ n ∧ i = .int .i64 j ∧ t = .int .i64 q ∧ q ≤ j * n ∧ Hid (UpI w n nn L most wr)) (fun _ i _ => n - (intOf i).toNat)
  case atStart => exact ⟨0, 0, Nat.zero_le _, rfl, rfl, Nat.zero_le _, I0⟩
  case round =>
    obtain ⟨i, q0, hi, rfl, rfl, hq0, HI⟩ := hrel
    clear I0
    by_cases hlt : i < n
    · have i12 : i ≤ 11 := by have := (unhide HN).1; omega
      have wi : wrap64 ((i : Int) + 1) = ((i + 1 : Nat) : Int) := by rw [wrap_id _ (by omega)]; omega
      go_wp2_with fail
      go_loopw [8, 10] (fun t k wr => ∃ j q : Nat, i + 1 ≤ j ∧ j ≤ n ∧ k = .int .i64 j ∧ t = .int .i64 q ∧ q ≤ i * n + j ∧ Hid (UpI w n nn L most wr)) (fun _ k _ => n - (intOf k).toNat)
      case atStart => exact ⟨i + 1, q0, Nat.le_refl _, by omega, by go_num, rfl, by omega, HI⟩
      case round =>
        obtain ⟨k, t, hk1, hk, rfl, rfl, ht, HI2⟩ := hrel
        clear HI wi
        by_cases hkt : k < n
        · have hp := unhide HP i k hlt hkt
          obtain ⟨p, hpe⟩ : ∃ p, i * n + k = p := ⟨_, rfl⟩
          obtain ⟨q, hqe⟩ : ∃ q, i * n = q := ⟨_, rfl⟩
          have HPE := hide hpe
          have hn2 := unhide HN
          rw [hpe] at hp ht
          rw [hqe] at hpe
          by_cases htl : t < ln
          · have i0 : (0 : Int) ≤ (p : Int) := Int.natCast_nonneg _
            have i1 : (p : Int) < (nn : Int) := Int.ofNat_lt.2 hp
            have i2 : (0 : Int) ≤ (t : Int) := Int.natCast_nonneg _
            have i3 : (t : Int) < (ln : Int) := Int.ofNat_lt.2 htl
            have t1 : t ≤ 1000 := by omega
            have wa : IntKind.i64.wrap ((i : Int) * (n : Int)) = (q : Int) := wrapPi i n q hqe (by omega)
            have wb : IntKind.i64.wrap ((q : Int) + (k : Int)) = (p : Int) := wrapAi q k p hpe (by omega)
            obtain ⟨m2, hm2⟩ : ∃ m, m = 2 * most := ⟨_, rfl⟩
            have wc : IntKind.i64.wrap (2 * most) = m2 := by rw [hm2, IntKind.wrap_i64]; omega
            obtain ⟨md, hmd⟩ : ∃ m, m = m2 + 1 := ⟨_, rfl⟩
            have wd : IntKind.i64.wrap (m2 + 1) = md := by rw [hmd, IntKind.wrap_i64]; omega
            obtain ⟨b, o, rfl, hc⟩ := ((unhide HR).kp (unhide HI2).choose_spec.2.2.2.2.1).at htl
            have xI := unhide HA t htl
            obtain ⟨x, hx⟩ : ∃ x, A t = x := ⟨_, rfl⟩
            rw [hx] at hc xI
            have PK := hide (fun w => kitPick x md xI (by omega) w)
            have yb : 0 ≤ x % md ∧ x % md < md := ⟨Int.emod_nonneg _ (by omega), Int.emod_lt_of_pos _ (by omega)⟩
            obtain ⟨y, hy⟩ : ∃ y, x % md = y := ⟨_, rfl⟩
            rw [hy] at PK yb
            obtain ⟨z, hz⟩ : ∃ z, z = y - most := ⟨_, rfl⟩
            have we : IntKind.i64.wrap (y - most) = z := by rw [hz, IntKind.wrap_i64]; omega
            have zb : Hid (-most ≤ z ∧ z ≤ most) := by show -most ≤ z ∧ z ≤ most; omega
            obtain ⟨v, hv⟩ : ∃ v, v = z * 4294967296 := ⟨_, rfl⟩
            have wf : IntKind.i64.wrap (z * 4294967296) = v := by
              have := unhide zb
              rw [hv, IntKind.wrap_i64]
              omega
            have y0 : wr.cell? ⟨L + 1, 2, none⟩ = some (.slice (some ⟨L, 0, none⟩) nn nn) := Blk.cell (unhide HI2).choose_spec.2.2.2.1 2
            have HV : Hid (z * 4294967296 = v) := hv.symm
            have HK := hide (And.intro hk1 (And.intro hkt (And.intro ht hp)))
            have k1 : k ≤ 12 := Nat.le_trans (Nat.le_of_lt hkt) hn2.1.2
            clear hqe hm2 hmd hx hy hz hv hn2 yb xI hpe ht hk hk1
            go_wp2
            refine region_G (fun w' => w'.cell? ⟨L + 1, 2, none⟩ = some (.slice (some ⟨L, 0, none⟩) nn nn) ∧ w'.cell? ⟨b, o + t, none⟩ = some (.int .i64 x)) 19 (by kernel_rfl) ⟨y0, hc⟩ (fun hHeld => ?_)
            refine take_G (i := 0) (d := 34) (v := .pointer (some ⟨L + 1, 2, none⟩)) rfl rfl (by kernel_rfl) (by kernel_rfl) (by kernel_rfl) (by kernel_rfl) (by kernel_rfl) (Or.inl ⟨by rfl, ?_⟩) hHeld ?_
            · intro wS hSw
              obtain ⟨z0, z1⟩ := hSw
              clear hHeld
              go_simp
            (try simp only [Act.put, List.setIfInBounds_toArray, List.set_cons_zero, List.set_cons_succ])
            refine take_G (i := 1) (d := 35) (v := .slice (some ⟨L, 0, none⟩) nn nn) rfl rfl (by kernel_rfl) (by kernel_rfl) (by kernel_rfl) (by kernel_rfl) (by kernel_rfl) (Or.inl ⟨by rfl, ?_⟩) hHeld ?_
            · intro wS hSw
              obtain ⟨z0, z1⟩ := hSw
              clear hHeld
              go_simp
            (try simp only [Act.put, List.setIfInBounds_toArray, List.set_cons_zero, List.set_cons_succ])
            refine take_G (i := 2) (d := 36) (v := .int .i64 (i : Int)) rfl rfl (by kernel_rfl) (by kernel_rfl) (by kernel_rfl) (by kernel_rfl) (by kernel_rfl) (Or.inl ⟨by rfl, ?_⟩) hHeld ?_
            · intro wS hSw
              obtain ⟨z0, z1⟩ := hSw
              clear hHeld
              go_simp
            (try simp only [Act.put, List.setIfInBounds_toArray, List.set_cons_zero, List.set_cons_succ])
            refine take_G (i := 3) (d := 37) (v := .int .i64 (n : Int)) rfl rfl (by kernel_rfl) (by kernel_rfl) (by kernel_rfl) (by kernel_rfl) (by kernel_rfl) (Or.inl ⟨by rfl, ?_⟩) hHeld ?_
            · intro wS hSw
              obtain ⟨z0, z1⟩ := hSw
              clear hHeld
              go_simp
            (try simp only [Act.put, List.setIfInBounds_toArray, List.set_cons_zero, List.set_cons_succ])
            refine take_G (i := 4) (d := 38) (v := .int .i64 (q : Int)) rfl rfl (by kernel_rfl) (by kernel_rfl) (by kernel_rfl) (by kernel_rfl) (by kernel_rfl) (Or.inl ⟨by rfl, ?_⟩) hHeld ?_
            · intro wS hSw
              obtain ⟨z0, z1⟩ := hSw
              clear hHeld
              go_simp
            (try simp only [Act.put, List.setIfInBounds_toArray, List.set_cons_zero, List.set_cons_succ])
            refine take_G (i := 5) (d := 39) (v := .int .i64 (k : Int)) rfl rfl (by kernel_rfl) (by kernel_rfl) (by kernel_rfl) (by kernel_rfl) (by kernel_rfl) (Or.inl ⟨by rfl, ?_⟩) hHeld ?_
            · intro wS hSw
              obtain ⟨z0, z1⟩ := hSw
              clear hHeld
              go_simp
            (try simp only [Act.put, List.setIfInBounds_toArray, List.set_cons_zero, List.set_cons_succ])
            refine take_G (i := 6) (d := 40) (v := .int .i64 (p : Int)) rfl rfl (by kernel_rfl) (by kernel_rfl) (by kernel_rfl) (by kernel_rfl) (by kernel_rfl) (Or.inl ⟨by rfl, ?_⟩) hHeld ?_
            · intro wS hSw
              obtain ⟨z0, z1⟩ := hSw
              clear hHeld
              go_simp
            (try simp only [Act.put, List.setIfInBounds_toArray, List.set_cons_zero, List.set_cons_succ])
            refine take_G (i := 7) (d := 41) (v := .slice (some ⟨b, o, none⟩) ln cap) rfl rfl (by kernel_rfl) (by kernel_rfl) (by kernel_rfl) (by kernel_rfl) (by kernel_rfl) (Or.inl ⟨by rfl, ?_⟩) hHeld ?_
            · intro wS hSw
              obtain ⟨z0, z1⟩ := hSw
              clear hHeld
              go_simp
            (try simp only [Act.put, List.setIfInBounds_toArray, List.set_cons_zero, List.set_cons_succ])
            refine take_G (i := 8) (d := 42) (v := .int .i64 (t : Int)) rfl rfl (by kernel_rfl) (by kernel_rfl) (by kernel_rfl) (by kernel_rfl) (by kernel_rfl) (Or.inl ⟨by rfl, ?_⟩) hHeld ?_
            · intro wS hSw
              obtain ⟨z0, z1⟩ := hSw
              clear hHeld
              go_simp
            (try simp only [Act.put, List.setIfInBounds_toArray, List.set_cons_zero, List.set_cons_succ])
            refine take_G (i := 9) (d := 43) (v := .pointer (some ⟨b, o + t, none⟩)) rfl rfl (by kernel_rfl) (by kernel_rfl) (by kernel_rfl) (by kernel_rfl) (by kernel_rfl) (Or.inl ⟨by rfl, ?_⟩) hHeld ?_
            · intro wS hSw
              obtain ⟨z0, z1⟩ := hSw
              clear hHeld
              go_simp
            (try simp only [Act.put, List.setIfInBounds_toArray, List.set_cons_zero, List.set_cons_succ])
            refine take_G (i := 10) (d := 44) (v := .int .i64 x) rfl rfl (by kernel_rfl) (by kernel_rfl) (by kernel_rfl) (by kernel_rfl) (by kernel_rfl) (Or.inl ⟨by rfl, ?_⟩) hHeld ?_
            · intro wS hSw
              obtain ⟨z0, z1⟩ := hSw
              clear hHeld
              go_simp
            (try simp only [Act.put, List.setIfInBounds_toArray, List.set_cons_zero, List.set_cons_succ])
            refine take_G (i := 11) (d := 45) (v := .int .i64 most) rfl rfl (by kernel_rfl) (by kernel_rfl) (by kernel_rfl) (by kernel_rfl) (by kernel_rfl) (Or.inl ⟨by rfl, ?_⟩) hHeld ?_
            · intro wS hSw
              obtain ⟨z0, z1⟩ := hSw
              clear hHeld
              go_simp
            (try simp only [Act.put, List.setIfInBounds_toArray, List.set_cons_zero, List.set_cons_succ])
            refine take_G (i := 12) (d := 46) (v := .int .i64 m2) rfl rfl (by kernel_rfl) (by kernel_rfl) (by kernel_rfl) (by kernel_rfl) (by kernel_rfl) (Or.inl ⟨by rfl, ?_⟩) hHeld ?_
            · intro wS hSw
              obtain ⟨z0, z1⟩ := hSw
              clear hHeld
              go_simp
            (try simp only [Act.put, List.setIfInBounds_toArray, List.set_cons_zero, List.set_cons_succ])
            refine take_G (i := 13) (d := 47) (v := .int .i64 md) rfl rfl (by kernel_rfl) (by kernel_rfl) (by kernel_rfl) (by kernel_rfl) (by kernel_rfl) (Or.inl ⟨by rfl, ?_⟩) hHeld ?_
            · intro wS hSw
              obtain ⟨z0, z1⟩ := hSw
              clear hHeld
              go_simp
            (try simp only [Act.put, List.setIfInBounds_toArray, List.set_cons_zero, List.set_cons_succ])
            refine take_G (i := 15) (d := 49) (v := .int .i64 most) rfl rfl (by kernel_rfl) (by kernel_rfl) (by kernel_rfl) (by kernel_rfl) (by kernel_rfl) (Or.inl ⟨by rfl, ?_⟩) hHeld ?_
            · intro wS hSw
              obtain ⟨z0, z1⟩ := hSw
              clear hHeld
              go_simp
            (try simp only [Act.put, List.setIfInBounds_toArray, List.set_cons_zero, List.set_cons_succ])
            have HI3 : Hid (UpI w n nn L most wr.drew) := unhide HI2
            clear HI2 hc y0
            refine step_G (i := 14) (by kernel_rfl) (fun K hK => ?_)
            refine wpOp_of rfl rfl ?_
            unfold Oper.wp
            go_simp
            refine (unhide PK _).mono ?_
            rintro e w6 ⟨rfl, k6⟩
            have hHeld : w6.cell? ⟨L + 1, 2, none⟩ = some (.slice (some ⟨L, 0, none⟩) nn nn) ∧ w6.cell? ⟨b, o + t, none⟩ = some (.int .i64 x) := ⟨k6.cell hHeld.1, k6.cell hHeld.2⟩
            have HI4 : Hid (UpI w n nn L most w6) := (unhide HI3).kp k6
            obtain ⟨old, f6⟩ : ∃ old, w6.cell? ⟨L, p, none⟩ = some (.int .i64 old) := by
              obtain ⟨a, _, _, h3, _⟩ := unhide HI4
              exact ⟨WZ a p, by rw [Blk.cell h3, ints_at nn _ p (unhide HK).2.2.2]⟩
            have f7 : w6.frozen? ⟨L, p, none⟩ = false := by
              obtain ⟨a, _, _, h3, _⟩ := unhide HI4
              exact Blk.free h3 p
            have R : Hid (UpI w n nn L most (w6.setCell ⟨L, p, none⟩ (.int .i64 v))) := by
              have := (unhide HI4).put i k p hlt (unhide HK).2.1 (by have := (unhide HK).1; omega) (unhide HPE) z (unhide zb)
              rw [unhide HV] at this
              exact this
            refine hK _ _ (fun _ => hHeld) ?_
            clear hK K k6 HI3 HI4
            (try simp only [Act.put, List.setIfInBounds_toArray, List.set_cons_zero, List.set_cons_succ])
            refine take_G (i := 16) (d := 50) (v := .int .i64 z) rfl rfl (by kernel_rfl) (by kernel_rfl) (by kernel_rfl) (by kernel_rfl) (by kernel_rfl) (Or.inl ⟨by rfl, ?_⟩) hHeld ?_
            · intro wS hSw
              obtain ⟨z0, z1⟩ := hSw
              clear hHeld
              go_simp
            (try simp only [Act.put, List.setIfInBounds_toArray, List.set_cons_zero, List.set_cons_succ])
            refine take_G (i := 17) (d := 51) (v := .int .i64 v) rfl rfl (by kernel_rfl) (by kernel_rfl) (by kernel_rfl) (by kernel_rfl) (by kernel_rfl) (Or.inl ⟨by rfl, ?_⟩) hHeld ?_
            · intro wS hSw
              obtain ⟨z0, z1⟩ := hSw
              clear hHeld
              go_simp
            (try simp only [Act.put, List.setIfInBounds_toArray, List.set_cons_zero, List.set_cons_succ])
            refine take_G (i := 18) (d := 52) (v := .pointer (some ⟨L, p, none⟩)) rfl rfl (by kernel_rfl) (by kernel_rfl) (by kernel_rfl) (by kernel_rfl) (by kernel_rfl) (Or.inl ⟨by rfl, ?_⟩) hHeld ?_
            · intro wS hSw
              obtain ⟨z0, z1⟩ := hSw
              clear hHeld
              go_simp
            (try simp only [Act.put, List.setIfInBounds_toArray, List.set_cons_zero, List.set_cons_succ])
            clear hHeld
            refine step_G (i := 19) (by kernel_rfl) (fun K hK => ?_)
            refine wpOp_of rfl rfl ?_
            unfold Oper.wp
            go_simp
            refine hK _ _ (fun h => absurd rfl h) ?_
            clear hK K
            (try simp only [Act.put, List.setIfInBounds_toArray, List.set_cons_zero, List.set_cons_succ])
            refine done_G (by kernel_rfl) ?_
            refine noPanic_normalE ?_
            clear f6 f7 PK wa wb wc wd we wf
            go_wp2
            go_roundw
            case rel => exact ⟨k + 1, t + 1, by have := (unhide HK).1; omega, (unhide HK).2.1, by go_num, by go_num, by have := unhide HPE; have := (unhide HK).2.2.1; omega, R⟩
            case measure => have := (unhide HK).2.1; simp [intOf]; omega
          · have dt : decide ((t : Int) < (ln : Int)) = false := decide_eq_false (by omega)
            have dk : decide ((k : Int) < (n : Int)) = true := decide_eq_true (by omega)
            have HK := hide (And.intro hk1 (And.intro hkt (And.intro ht hp)))
            have t1 : t ≤ 1000 := by omega
            have wt : wrap64 ((t : Int) + 1) = (t : Int) + 1 := wrap_id _ (by omega)
            have k1 : k ≤ 12 := by omega
            clear hqe hpe hn2 ht hp hk hk1
            go_wp2
            go_roundw
            case rel => exact ⟨k + 1, t + 1, by have := (unhide HK).1; omega, (unhide HK).2.1, by go_num, by go_num, by have := unhide HPE; have := (unhide HK).2.2.1; omega, HI2⟩
            case measure => have := (unhide HK).2.1; simp [intOf]; omega
        · obtain rfl : k = n := by omega
          have hq : t ≤ (i + 1) * k := by rw [Nat.add_mul, Nat.one_mul]; exact ht
          clear ht
          go_wp2
          go_roundw
          case rel => exact ⟨i + 1, t, hlt, by go_num, rfl, hq, HI2⟩
          case measure => simp [intOf]; omega
    · obtain rfl : i = n := by omega
      obtain ⟨a, ha, h2, h3, h4, h5, h6⟩ := unhide HI
      have c0 : wr.cell? ⟨L + 1, 0, none⟩ = some (.int .i64 i) := Blk.cell h4 0
      have c1 : wr.cell? ⟨L + 1, 1, none⟩ = some (.int .i64 i) := Blk.cell h4 1
      have c2 : wr.cell? ⟨L + 1, 2, none⟩ = some (.slice (some ⟨L, 0, none⟩) nn nn) := Blk.cell h4 2
      have e0 : wr.cell? ⟨w.heap.size, 0, none⟩ = some (.int .i64 0) := Blk.cell h2 0
      have e1 : wr.cell? ⟨w.heap.size, 1, none⟩ = some (.int .i64 0) := Blk.cell h2 1
      have e2 : wr.cell? ⟨w.heap.size, 2, none⟩ = some (.slice none 0 0) := Blk.cell h2 2
      have f := Blk.free h2
      have R := hide (And.intro ha (And.intro h2 (And.intro h3 h5)))
      have hL2 := hide h6
      clear ha h2 h3 h4 h5 h6 hq0 HI
      go_wp2
      obtain ⟨ha, h2, h3, h5⟩ := unhide R
      have P := putM h2 (.int .i64 i) (.int .i64 i) (.slice (some ⟨L, 0, none⟩) nn nn)
      generalize (((wr.setCell ⟨w.heap.size, 0, none⟩ (.int .i64 i)).setCell ⟨w.heap.size, 1, none⟩ (.int .i64 i)).setCell ⟨w.heap.size, 2, none⟩ (.slice (some ⟨L, 0, none⟩) nn nn)) = wE at *
      have c0 : wE.cell? ⟨w.heap.size, 0, none⟩ = some (.int .i64 i) := Blk.cell P.1 0
      have c1 : wE.cell? ⟨w.heap.size, 1, none⟩ = some (.int .i64 i) := Blk.cell P.1 1
      have c2 : wE.cell? ⟨w.heap.size, 2, none⟩ = some (.slice (some ⟨L, 0, none⟩) nn nn) := Blk.cell P.1 2
      refine bodyPost_ret (v := .agg #[.int .i64 i, .int .i64 i, .slice (some ⟨L, 0, none⟩) nn nn]) (by simp [results, Try.results18, go_sem, c0, c1, c2]) rfl ?_
      have := unhide hL2
      exact ⟨a, ha, L, nn, rfl, Nat.le_refl _, by omega, Own.of (Blk.keep h3 P.2 (by omega)), h5.mod P.2 (Nat.le_refl _)⟩

end Go.Proofs.Ytopaakjildmjcaa


/- PolyNought. -/
namespace Go.Proofs.Ytopaakjildmjcaa
open Go.RowKit Go.Shelf Go.Proofs.Wd
set_option linter.unusedVariables false
set_option linter.unusedSimpArgs false
set_option maxRecDepth 10000

theorem wz_I64 {most : Int} {n : Nat} {a : Nat → Int} (h : UpW most n a) (hm : most ≤ 20) : ∀ j, j < n * n → I64 (WZ a j) := fun j hj => by
  have := h.1 j hj
  unfold WZ I64
  omega
theorem wz_low {most : Int} {n : Nat} {a : Nat → Int} (h : UpW most n a) : ∀ i k, i < n → k < n → k ≤ i → WZ a (i * n + k) = 0 := fun i k hi hk hle => by
  unfold WZ
  rw [h.2 i k hi hk hle]
  rfl
theorem upO_sq {n nn : Nat} {A : Nat → Int} (hn : 1 ≤ n ∧ n ≤ 12) (hnn : n * n = nn) : upO n n nn A = upTo A n n := by
  unfold upO
  rw [if_pos (by rw [← hnn]; exact sqA_of hn)]
  rfl
theorem term_up {most : Int} {n : Nat} {a : Nat → Int} (h : UpW most n a) (m : Nat) (h1 : 1 ≤ m) (hm : m ≤ 1000) : upTo (termZ (WZ a) n m) n n = true :=
  (upTo_true _ n n).2 fun i hi j hj => term_nought (WZ a) n (wz_low h) m hm i j hi (by omega) (by omega)
theorem flow_still {n : Nat} {a : Nat → Int} (hn : 1 ≤ n) (p : Nat) : flowZ (WZ a) n 0 p = diagZ oneZ n p := by
  show horZ (termZ (WZ a) n) (n - 1) 0 (n - 1) p = _
  rw [hor_zero _ (n - 1) (fun i _ p => term_fx _ _ _ _) (n - 1) p (Nat.le_refl _), Nat.sub_self]
  rfl

set_option maxRecDepth 50000 in
set_option maxHeartbeats 16000000 in
theorem lawPolyNought (x t : Int) (hx : I64 x) (ht : I64 t) (ao : Option Addr) (ln cap : Nat) (L : Nat → Int) (hL : ∀ i, i < ln → I64 (L i)) (w : World) (hr : Row w ao ln L) :
    Calls Try.prog 4 #[.int .i64 x, .slice ao ln cap, .int .i64 t] w fun e w' => e = .returned (.bool true) ∧ Kp w w' := by
  have HT := hide ht
  have HL := hide hL
  have HR := hide hr
  have K1 := hide (lawPolyKnown w)
  have PK := hide (fun w => kitPick x 6 hx (by omega) w)
  have pb : 0 ≤ x % 6 ∧ x % 6 < 6 := by omega
  obtain ⟨ps, hps⟩ : ∃ p, x % 6 = p := ⟨_, rfl⟩
  rw [hps] at PK pb
  obtain ⟨n, hn⟩ : ∃ n : Nat, (n : Int) = 1 + ps := ⟨(1 + ps).toNat, by omega⟩
  have n6 : 1 ≤ n ∧ n ≤ 6 := by omega
  have wn : wrap64 (1 + ps) = (n : Int) := by rw [← hn]; exact wrap_id _ (by omega)
  have wn1 : wrap64 ((n : Int) + 1) = ((n + 1 : Nat) : Int) := by rw [wrap_id _ (by omega)]; omega
  have wn2 : wrap64 ((n : Int) + 2) = ((n + 1 + 1 : Nat) : Int) := by rw [wrap_id _ (by omega)]; omega
  have k2 := mul12n n n ⟨n6.1, by omega⟩ ⟨n6.1, by omega⟩
  have UPR := hide (fun w hr => lawUpper n 20 ⟨n6.1, by omega⟩ (by omega) ao ln cap L (unhide HL) w hr)
  have HPL : Hid (∀ i k, i < n → k < n → i * n + k < n * n) := fun i k hi hk => place_in i k n n hi hk
  obtain ⟨nn, hnn⟩ : ∃ nn, n * n = nn := ⟨_, rfl⟩
  rw [hnn] at k2 UPR HPL
  have wnn : wrap64 ((n : Int) * (n : Int)) = (nn : Int) := wrapP n n nn hnn (by omega)
  have NN := hide hnn
  have HN := hide (And.intro n6 k2)
  clear hx ht hL hr hps hn pb k2 hnn n6
  go_enter Try.func4, Try.ntmps4
  go_wp2_with fail
  refine (unhide K1).mono ?_
  rintro e w1 ⟨rfl, k1⟩
  have W1 := hide k1
  clear k1 K1
  go_wp2_with fail
  refine (unhide PK _).mono ?_
  rintro e w2 ⟨rfl, k2⟩
  have W2 : Hid (Kp w w2) := (unhide W1).trans k2
  clear k2 W1 PK
  go_wp2_with fail
  refine (unhide UPR _ ((unhide HR).kp (unhide W2))).mono ?_
  rintro e w3 ⟨a, ha, hv⟩
  have HA := hide ha
  obtain ⟨Ba, ca, rfl, hca, S3⟩ := ((ST.nil w).kp (unhide W2)).ownM hv
  have HC := hide hca
  have S3 := hide (S3.box #[.int .i64 n, .int .i64 n, .slice (some ⟨Ba, 0, none⟩) nn ca] 26)
  obtain ⟨Ax, hAx⟩ : ∃ Ax, w3.heap.size = Ax := ⟨_, rfl⟩
  rw [hAx] at S3
  clear ha hv hca W2 UPR HR
  generalize hw4 : w3.alloc (.cells #[.int .i64 n, .int .i64 n, .slice (some ⟨Ba, 0, none⟩) nn ca] 26) = w4 at S3
  have N4 := hide (unitNew w4)
  go_wp2_with fail
  (try rw [hAx])
  (try rw [hw4])
  clear hAx hw4
  refine (unhide N4).mono ?_
  rintro e w5 ⟨rfl, u5, g5⟩
  have S5 : Hid (ST w [([w4.heap.size], UO w4.heap.size (fun _ => True) 0)] _ w5) := (unhide S3).push (Kp.of g5) ⟨false, 0, trivial, by omega, by omega, u5⟩ (uo_dep _ _ _) (by simp) (fun q hq => by simp at hq; subst hq; exact ⟨Nat.le_refl _, Blk.lt u5⟩)
  generalize w4.heap.size = U at *
  clear u5 g5 N4 S3
  have S5 := hide S5
  obtain ⟨c0, n0, _, q1, q2, hu⟩ := (unhide S5).unit []
  have T5 := hide (polyTerms_ok U n nn Ba 0 ca (n + 1) c0 n0 ⟨q1, by omega⟩ (WZ a) ⟨(unhide HN).1.1, by have := unhide HN; omega⟩ (unhide NN) (by have := unhide HN; omega) (unhide HC) (by have := wz_I64 (unhide HA) (by omega); rw [unhide NN] at this; exact this) w5 hu ((unhide S5).own (B := Ba) (len := nn) (Z := WZ a) (by simp)).at0 ((unhide S5).ownNe (B := Ba) (len := nn) (Z := WZ a) (by simp) (c := ([U], UO U (fun _ => True) 0)) (by simp) (V := U) (by simp)))
  have HQ := hide (And.intro q1 q2)
  obtain ⟨x0, x1, x2⟩ := (unhide S5).cells (b := Ax) (x := .int .i64 n) (y := .int .i64 n) (z := .slice (some ⟨Ba, 0, none⟩) nn ca) (T := 26) (by simp)
  clear hu q1 q2
  go_wp2_with fail
  refine (unhide T5).mono ?_
  intro e w6 hv
  obtain ⟨Lb, l, rfl, hl, S6⟩ := (unhide S5).terms [] (unhide HQ) trivial hv
  have S6 := hide S6
  have HLL := hide hl
  clear hv hl S5 T5 HQ x0 x1 x2
  have FL : Hid (∀ (d : Int) (t : Int) (es' fs' : List Ob) wx, I64 t → 0 ≤ d → d ≤ 1000000 → ST w (([U], UO U (fun _ => True) d) :: es') fs' wx → ([Ba], Own Ba nn (WZ a)) ∈ fs' → Calls Try.prog 12 #[.pointer (some ⟨U, 0, none⟩), .agg #[.int .i64 n, .int .i64 n, .slice (some ⟨Ba, 0, none⟩) nn ca], .int .i64 t] wx fun e w' => ∃ B cp, e = .returned (.tuple #[.agg #[.int .i64 n, .int .i64 n, .slice (some ⟨B, 0, none⟩) nn cp], .int .i64 0]) ∧ nn ≤ cp ∧ ST w (([U], UO U (fun _ => True) (d + 200000)) :: es') (([B], Own B nn (flowZ (WZ a) n t)) :: fs') w') := by
    intro d t es' fs' wx ht hd0 hd S hf
    obtain ⟨c0, n0, _, q1, q2, hu⟩ := S.unit []
    have hI := wz_I64 (unhide HA) (by omega)
    have hF := polyFlow_ok U n Ba 0 ca c0 n0 t ht ⟨q1, by omega⟩ (WZ a) ⟨(unhide HN).1.1, by have := unhide HN; omega⟩ (by rw [unhide NN]; exact unhide HC) hI (upW_up (unhide HA)) wx hu (by rw [unhide NN]; exact (S.own hf).at0) (S.ownNe hf (c := ([U], UO U (fun _ => True) d)) (by simp) (V := U) (by simp))
    rw [unhide NN] at hF
    refine hF.mono ?_
    rintro e w' ⟨ao2, cp, B, rfl, h1, h2, h3, ⟨cnt, q3, q4, hu2⟩, hm⟩
    obtain ⟨rfl, hb⟩ := h3.resolve_left (by have := unhide HN; omega)
    exact ⟨B, cp, rfl, h1, S.tellU [] (MkL.one hm) ⟨_, cnt, trivial, by omega, by omega, hu2⟩ (uo_dep _ _ _) (by simp) hb (own_depL _ _ _) (fun q hq => by simp at hq; subst hq; exact ⟨h2, hb.lt⟩)⟩
  obtain ⟨x0, x1, x2⟩ := (unhide S6).cells (b := Ax) (x := .int .i64 n) (y := .int .i64 n) (z := .slice (some ⟨Ba, 0, none⟩) nn ca) (T := 26) (by simp)
  have F6 := hide (unhide FL _ t _ _ w6 (unhide HT) (by omega) (by omega) (unhide S6) (by simp))
  go_wp2_with fail
  refine (unhide F6).mono ?_
  rintro e w7 ⟨Bf, cf, rfl, hcf, S7⟩
  have S7 := hide (S7.box #[.int .i64 n, .int .i64 n, .slice (some ⟨Bf, 0, none⟩) nn cf] 26)
  have HCF := hide hcf
  obtain ⟨Fx, hFx⟩ : ∃ Fx, w7.heap.size = Fx := ⟨_, rfl⟩
  rw [hFx] at S7
  generalize hw8 : w7.alloc (.cells #[.int .i64 n, .int .i64 n, .slice (some ⟨Bf, 0, none⟩) nn cf] 26) = w8 at S7
  clear hcf S6 F6 x0 x1 x2
  obtain ⟨x0, x1, x2⟩ := (unhide S7).cells (b := Ax) (x := .int .i64 n) (y := .int .i64 n) (z := .slice (some ⟨Ba, 0, none⟩) nn ca) (T := 26) (by simp)
  have F8 := hide (unhide FL _ 0 _ _ w8 (by unfold I64; omega) (by omega) (by omega) (unhide S7) (by simp))
  go_wp2_with fail
  (try rw [hFx])
  (try rw [hw8])
  clear hFx hw8
  refine (unhide F8).mono ?_
  rintro e w9 ⟨Bs, cs, rfl, hcs, S9⟩
  have S9 := hide (S9.box #[.int .i64 n, .int .i64 n, .slice (some ⟨Bs, 0, none⟩) nn cs] 26)
  have HCS := hide hcs
  obtain ⟨Sx, hSx⟩ : ∃ Sx, w9.heap.size = Sx := ⟨_, rfl⟩
  rw [hSx] at S9
  generalize hw10 : w9.alloc (.cells #[.int .i64 n, .int .i64 n, .slice (some ⟨Bs, 0, none⟩) nn cs] 26) = w10 at S9
  clear hcs S7 F8 x0 x1 x2 FL
  have E10 : Hid (Calls Try.prog 8 #[.int .i64 n] w10 fun e w' => MatP n n nn (diagZ oneZ n) 0 (Kp w10) w10 e w') := by
    have := matEye_ok n ⟨(unhide HN).1.1, by have := unhide HN; omega⟩ w10
    rw [unhide NN] at this
    exact this
  go_wp2_with fail
  (try rw [hSx])
  (try rw [hw10])
  clear hSx hw10
  refine (unhide E10).mono ?_
  intro e w11 hv
  obtain ⟨Be, ce, rfl, hce, S11⟩ := (unhide S9).matK (by have := unhide HN; omega) hv
  have S11 := hide (S11.box #[.int .i64 n, .int .i64 n, .slice (some ⟨Be, 0, none⟩) nn ce] 26)
  have HCE := hide hce
  obtain ⟨Ex, hEx⟩ : ∃ Ex, w11.heap.size = Ex := ⟨_, rfl⟩
  rw [hEx] at S11
  generalize hw12 : w11.alloc (.cells #[.int .i64 n, .int .i64 n, .slice (some ⟨Be, 0, none⟩) nn ce] 26) = w12 at S11
  clear hv hce S9 E10
  have CW : Hid (∀ wx, Kp w12 wx → (wx.cell? ⟨Ax, 0, none⟩ = some (.int .i64 n) ∧ wx.cell? ⟨Ax, 1, none⟩ = some (.int .i64 n) ∧ wx.cell? ⟨Ax, 2, none⟩ = some (.slice (some ⟨Ba, 0, none⟩) nn ca)) ∧ (wx.cell? ⟨Fx, 0, none⟩ = some (.int .i64 n) ∧ wx.cell? ⟨Fx, 1, none⟩ = some (.int .i64 n) ∧ wx.cell? ⟨Fx, 2, none⟩ = some (.slice (some ⟨Bf, 0, none⟩) nn cf)) ∧ (wx.cell? ⟨Sx, 0, none⟩ = some (.int .i64 n) ∧ wx.cell? ⟨Sx, 1, none⟩ = some (.int .i64 n) ∧ wx.cell? ⟨Sx, 2, none⟩ = some (.slice (some ⟨Bs, 0, none⟩) nn cs)) ∧ (wx.cell? ⟨Ex, 0, none⟩ = some (.int .i64 n) ∧ wx.cell? ⟨Ex, 1, none⟩ = some (.int .i64 n) ∧ wx.cell? ⟨Ex, 2, none⟩ = some (.slice (some ⟨Be, 0, none⟩) nn ce))) := fun wx k => by
    have S := (unhide S11).kp k
    exact ⟨S.cells (T := 26) (by simp), S.cells (T := 26) (by simp), S.cells (T := 26) (by simp), S.cells (T := 26) (by simp)⟩
  have RW : Hid (∀ wx, Kp w12 wx → Row wx (some ⟨Ba, 0, none⟩) nn (WZ a) ∧ Row wx (some ⟨Bf, 0, none⟩) nn (flowZ (WZ a) n t) ∧ Row wx (some ⟨Bs, 0, none⟩) nn (diagZ oneZ n) ∧ Row wx (some ⟨Be, 0, none⟩) nn (diagZ oneZ n)) := fun wx k => by
    have S := (unhide S11).kp k
    exact ⟨(S.own (B := Ba) (len := nn) (Z := WZ a) (by simp)).row, (S.own (B := Bf) (len := nn) (Z := flowZ (WZ a) n t) (by simp)).row, rowCongr (S.own (B := Bs) (len := nn) (Z := flowZ (WZ a) n 0) (by simp)).row (fun p _ => flow_still (unhide HN).1.1 p), (S.own (B := Be) (len := nn) (Z := diagZ oneZ n) (by simp)).row⟩
  have TW : Hid (∀ wx i x, Kp w12 wx → l[i]? = some x → wx.cell? ⟨Lb, i * 3, none⟩ = some (.int .i64 n) ∧ wx.cell? ⟨Lb, i * 3 + 1, none⟩ = some (.int .i64 n) ∧ wx.cell? ⟨Lb, i * 3 + 2, none⟩ = some (.slice (some ⟨x.1, 0, none⟩) nn x.2) ∧ Row wx (some ⟨x.1, 0, none⟩) nn (termZ (WZ a) n i) ∧ nn ≤ x.2) := fun wx i x k hx => terms_get ((unhide S11).kp k) (base := w5.heap.size) (Lb := Lb) (n := n) (nn := nn) (m := n + 1 + 1) (A := WZ a) (l := l) (by simp) hx (unhide HLL)
  have KW : Hid (Kp w w12) := (unhide S11).keep
  have AU : upO n n nn (WZ a) = true := by rw [upO_sq ⟨(unhide HN).1.1, by have := unhide HN; omega⟩ (unhide NN)]; exact upW_up (unhide HA)
  clear S11
  obtain ⟨⟨x0, x1, x2⟩, ⟨x3, x4, x5⟩, ⟨x6, x7, x8⟩, ⟨x9, xa, xb⟩⟩ := unhide CW w12 (Kp.refl _)
  go_wp2_with fail
  refine (polyUpper n n (some ⟨Ba, 0, none⟩) nn ca (WZ a) w12 (unhide RW w12 (Kp.refl _)).1).mono ?_
  rintro e w13 ⟨rfl, g13⟩
  have K13 : Hid (Kp w12 w13) := Kp.of g13
  rw [AU]
  clear x0 x1 x2 x3 x4 x5 x6 x7 x8 x9 xa xb g13 AU
  obtain ⟨_, ⟨x3, x4, x5⟩, ⟨x6, x7, x8⟩, ⟨x9, xa, xb⟩⟩ := unhide CW w13 (unhide K13)
  have SM := hide (kitSameM n n (some ⟨Bs, 0, none⟩) (some ⟨Be, 0, none⟩) nn cs ce (diagZ oneZ n) (by have := unhide HN; omega) w13 (unhide RW w13 (unhide K13)).2.2.1 (unhide RW w13 (unhide K13)).2.2.2)
  go_wp2_with fail
  refine (unhide SM).mono ?_
  rintro e w14 ⟨rfl, k14⟩
  have K14 : Hid (Kp w12 w14) := (unhide K13).trans k14
  clear x3 x4 x5 x6 x7 x8 x9 xa xb k14 SM K13
  obtain ⟨_, ⟨x3, x4, x5⟩, _, _⟩ := unhide CW w14 (unhide K14)
  go_wp2_with fail
  clear x3 x4 x5
  go_loopw [18] (fun i wr => ∃ m : Nat, 1 ≤ m ∧ m ≤ n + 1 + 1 ∧ i = .int .i64 m ∧ Hid (Kp w12 wr)) (fun i _ => n + 1 + 1 - (intOf i).toNat)
  case atStart => exact ⟨1, Nat.le_refl _, by omega, by go_num, K14⟩
  case round =>
    obtain ⟨m, hm1, hm, rfl, HK⟩ := hrel
    clear K14
    by_cases hlt : m < n + 1 + 1
    · obtain ⟨⟨b, cb⟩, hxb⟩ : ∃ x, l[m]? = some x := ⟨_, List.getElem?_eq_getElem (by have := unhide HLL; omega)⟩
      obtain ⟨y0, y1, y2, hrow, hcb⟩ := unhide TW wr m _ (unhide HK) hxb
      have UT : upO n n nn (termZ (WZ a) n m) = true := by
        rw [upO_sq ⟨(unhide HN).1.1, by have := unhide HN; omega⟩ (unhide NN)]
        exact term_up (unhide HA) m hm1 (by have := (unhide HN).1.2; omega)
      have UP := hide (polyUpper n n (some ⟨b, 0, none⟩) nn cb (termZ (WZ a) n m) wr hrow)
      rw [UT] at UP
      have m9 : m ≤ 8 := by have := (unhide HN).1.2; omega
      clear hrow hcb UT
      go_wp2_with fail
      refine (unhide UP).mono ?_
      rintro e w15 ⟨rfl, g15⟩
      have K15 : Hid (Kp w12 w15) := (unhide HK).grown g15
      clear g15 UP y0 y1 y2 HK
      obtain ⟨_, _, y2, hrow, _⟩ := unhide TW w15 m _ (unhide K15) hxb
      have HROW := hide hrow
      clear hrow
      go_wp2_with fail
      go_loop [19] (fun i => ∃ k : Nat, k ≤ nn ∧ i = .int .i64 k) (fun i => nn - (intOf i).toNat)
      case atStart => exact ⟨0, Nat.zero_le _, rfl⟩
      case round =>
        obtain ⟨k, hk, rfl⟩ := hrel
        have nn1 := (unhide HN).2.2
        by_cases hkn : k < nn
        · have kc : w15.cell? ⟨b, k, none⟩ = some (.int .i64 (termZ (WZ a) n m k)) := by
            obtain ⟨b', o', e, hc⟩ := (unhide HROW).at hkn
            cases e
            rw [Nat.zero_add] at hc
            exact hc
          by_cases hmn : n ≤ m
          · have z : termZ (WZ a) n m k = 0 := by
              have hp := place_lt k n n (by rw [unhide NN]; exact hkn)
              have hd := term_nought (WZ a) n (wz_low (unhide HA)) m (by omega) (k / n) (k % n) hp.1 hp.2 (Nat.lt_of_lt_of_le hp.2 (Nat.le_trans hmn (Nat.le_add_left _ _)))
              rw [place_eq] at hd
              exact hd
            rw [z] at kc
            have i0 : (0 : Int) ≤ (k : Int) := Int.natCast_nonneg _
            have i1 : (k : Int) < (nn : Int) := Int.ofNat_lt.2 hkn
            clear z
            go_wp2
            go_round
            case rel => exact ⟨k + 1, by omega, by go_num⟩
            case measure => simp [intOf]; omega
          · go_wp2
            go_round
            case rel => exact ⟨k + 1, by omega, by go_num⟩
            case measure => simp [intOf]; omega
        · obtain rfl : k = nn := by omega
          go_wp2
          go_roundw
          case rel => first | exact ⟨m + 1, by omega, by omega, by go_num⟩ | exact ⟨m + 1, by omega, by omega, by go_num, K15⟩
          case measure => simp [intOf]; omega
    · obtain rfl : m = n + 1 + 1 := by omega
      go_wp2_with fail
      go_loopw [20] (fun i wr => ∃ j : Nat, j ≤ n ∧ i = .int .i64 j ∧ Hid (Kp w12 wr)) (fun i _ => n - (intOf i).toNat)
      case atStart => exact ⟨0, Nat.zero_le _, rfl, HK⟩
      case round =>
        obtain ⟨i, hi, rfl, HK2⟩ := hrel
        have n6 := (unhide HN).1.2
        by_cases hin : i < n
        · go_wp2_with fail
          go_loopw [21] (fun t wr => ∃ k : Nat, k ≤ i + 1 ∧ t = .int .i64 k ∧ Hid (Kp w12 wr)) (fun t _ => i + 1 - (intOf t).toNat)
          case atStart => exact ⟨0, Nat.zero_le _, rfl, HK2⟩
          case round =>
            obtain ⟨k, hk, rfl, HK3⟩ := hrel
            by_cases hki : k ≤ i
            · have hp := unhide HPL i k hin (by omega)
              obtain ⟨_, ⟨x3, x4, x5⟩, _, ⟨x9, xa, xb⟩⟩ := unhide CW _ (unhide HK3)
              obtain ⟨_, r1, _, r2⟩ := unhide RW _ (unhide HK3)
              have ef : flowZ (WZ a) n t (i * n + k) = diagZ oneZ n (i * n + k) := flow_low (WZ a) n t ⟨(unhide HN).1.1, by omega⟩ (wz_low (unhide HA)) i k hin (by omega) hki
              obtain ⟨p, hpe⟩ : ∃ p, i * n + k = p := ⟨_, rfl⟩
              obtain ⟨q, hqe⟩ : ∃ q, i * n = q := ⟨_, rfl⟩
              have nn1 := (unhide HN).2.2
              rw [hpe] at hp ef
              rw [hqe] at hpe
              have wa : IntKind.i64.wrap ((i : Int) * (n : Int)) = (q : Int) := wrapPi i n q hqe (by omega)
              have wb : IntKind.i64.wrap ((q : Int) + (k : Int)) = (p : Int) := wrapAi q k p hpe (by omega)
              have c1 : wr.cell? ⟨Bf, p, none⟩ = some (.int .i64 (diagZ oneZ n p)) := by
                obtain ⟨b', o', e, hc⟩ := r1.at hp
                cases e
                rw [Nat.zero_add, ef] at hc
                exact hc
              have c2 : wr.cell? ⟨Be, p, none⟩ = some (.int .i64 (diagZ oneZ n p)) := by
                obtain ⟨b', o', e, hc⟩ := r2.at hp
                cases e
                rw [Nat.zero_add] at hc
                exact hc
              generalize diagZ oneZ n p = z at *
              have i0 : (0 : Int) ≤ (p : Int) := Int.natCast_nonneg _
              have i1 : (p : Int) < (nn : Int) := Int.ofNat_lt.2 hp
              clear r1 r2 ef hpe hqe x3 x4 x9 xa
              go_wp2_with fail
              go_region_held3 (fun w' => w'.cell? ⟨Fx, 2, none⟩ = some (.slice (some ⟨Bf, 0, none⟩) nn cf) ∧ w'.cell? ⟨Bf, p, none⟩ = some (.int .i64 z) ∧ w'.cell? ⟨Ex, 2, none⟩ = some (.slice (some ⟨Be, 0, none⟩) nn ce) ∧ w'.cell? ⟨Be, p, none⟩ = some (.int .i64 z)) (simp [go_sem, *]) (fail)
              go_wp2
              go_roundw
              case rel => exact ⟨k + 1, by omega, by go_num, show Hid (Kp w12 wr.drew) from (show Kp w12 wr.drew from unhide HK3)⟩
              case measure => simp [intOf]; omega
            · obtain rfl : k = i + 1 := by omega
              go_wp2
              go_roundw
              case rel => exact ⟨i + 1, hin, by go_num, HK3⟩
              case measure => simp [intOf]; omega
        · obtain rfl : i = n := by omega
          go_wp2
          go_ret
          exact ⟨rfl, (unhide KW).trans (unhide HK2)⟩
end Go.Proofs.Ytopaakjildmjcaa

/- Flows of at most three rows of small whole numbers, exactly: of what form they are, and their products. -/
namespace Go.Proofs.Wd
open Go.Proofs.Ytopaakjildmjcaa
set_option linter.unusedVariables false
set_option linter.unusedSimpArgs false
set_option maxRecDepth 10000

/-- Halves by halves, in quarters: exactly. -/
theorem mul_quart (x y : Int) (hx : -100000000 ≤ x ∧ x ≤ 100000000) (hy : -100000000 ≤ y ∧ y ≤ 100000000) (h : -100000000 ≤ x * y ∧ x * y ≤ 100000000) : mulN (x * 2147483648) (y * 2147483648) = x * y * 1073741824 ∧ mulC (x * 2147483648) (y * 2147483648) = false := by
  have e1 := fx_all _ (half_Fx x (by omega))
  have e2 := fx_all _ (half_Fx y (by omega))
  have e3 := fx_all (x * y * 1073741824) (by unfold Fx; omega)
  have e4 : rdiv (x * 2147483648 * (y * 2147483648)) 4294967296 = x * y * 1073741824 := by
    have := rdiv_mul (x * y * 1073741824) 4294967296 (by omega)
    rwa [show x * y * 1073741824 * 4294967296 = x * 2147483648 * (y * 2147483648) by grind] at this
  unfold mulN mulC cutB
  rw [e1.1, e2.1, e4, e3.2.1, e3.2.2.1, e1.2.2.2, e2.2.2.2]
  exact ⟨rfl, rfl⟩
theorem add_quart (x y : Int) (hx : -400000000 ≤ x ∧ x ≤ 400000000) (hy : -400000000 ≤ y ∧ y ≤ 400000000) : addN (x * 1073741824) (y * 1073741824) = (x + y) * 1073741824 ∧ addC (x * 1073741824) (y * 1073741824) = false := by
  have e1 := fx_all (x * 1073741824) (by unfold Fx; omega)
  have e2 := fx_all (y * 1073741824) (by unfold Fx; omega)
  have e3 := fx_all ((x + y) * 1073741824) (by unfold Fx; omega)
  unfold addN addC cutB
  rw [e1.1, e2.1, ← Int.add_mul, e3.2.1, e3.2.2.1, e1.2.2.2, e2.2.2.2]
  exact ⟨rfl, rfl⟩
theorem dot_quart (X Y x y : Nat → Int) : ∀ k, k ≤ 3 → (∀ i, i < k → X i = x i * 2147483648 ∧ Y i = y i * 2147483648) → (∀ i, i < k → (-100000000 ≤ x i ∧ x i ≤ 100000000) ∧ (-100000000 ≤ y i ∧ y i ≤ 100000000) ∧ -100000000 ≤ x i * y i ∧ x i * y i ≤ 100000000) →
    dotN X Y k = sI (fun i => x i * y i) k * 1073741824 ∧ dotC X Y k = false ∧ -((k : Int) * 100000000) ≤ sI (fun i => x i * y i) k ∧ sI (fun i => x i * y i) k ≤ (k : Int) * 100000000
  | 0, _, _, _ => ⟨rfl, rfl, by show -(0 : Int) ≤ 0; omega, by show (0 : Int) ≤ 0; omega⟩
  | k + 1, hk, hX, hB => by
    obtain ⟨h1, h2, h3, h4⟩ := dot_quart X Y x y k (by omega) (fun i hi => hX i (by omega)) (fun i hi => hB i (by omega))
    have b := hB k (by omega)
    have m := mul_quart (x k) (y k) b.1 b.2.1 b.2.2
    obtain ⟨s, hs⟩ : ∃ s, sI (fun i => x i * y i) k = s := ⟨_, rfl⟩
    obtain ⟨p, hp⟩ : ∃ p, x k * y k = p := ⟨_, rfl⟩
    rw [hs] at h1 h3 h4
    rw [hp] at m b
    have a := add_quart s p (by omega) (by omega)
    have e : sI (fun i => x i * y i) (k + 1) = s + p := by
      show sI (fun i => x i * y i) k + x k * y k = s + p
      rw [hs, hp]
    rw [e]
    refine ⟨?_, ?_, by omega, by omega⟩
    · show addN (dotN X Y k) (mulN (X k) (Y k)) = _
      rw [h1, (hX k (by omega)).1, (hX k (by omega)).2, m.1, a.1]
    · show (dotC X Y k || mulC (X k) (Y k) || addC (dotN X Y k) (mulN (X k) (Y k))) = false
      rw [h1, h2, (hX k (by omega)).1, (hX k (by omega)).2, m.1, m.2, a.2]
      rfl

/-- 2 in the diagonal, b, c, d above it. -/
def uni (n : Nat) (b c d : Int) : Nat → Int := fun p => if p / n = p % n then 2 else if n = 3 ∧ p = 2 then c else if p = 1 then b else if n = 3 ∧ p = 5 then d else 0
theorem uni_mul (n : Nat) (hn : 1 ≤ n ∧ n ≤ 3) (X Y : Nat → Int) (b c d b' c' d' m : Int) (hX : ∀ p, p < n * n → X p = uni n b c d p * 2147483648) (hY : ∀ p, p < n * n → Y p = uni n b' c' d' p * 2147483648)
    (hb : -10000 ≤ b ∧ b ≤ 10000) (hc : -10000000 ≤ c ∧ c ≤ 10000000) (hd : -10000 ≤ d ∧ d ≤ 10000) (hb' : -10000 ≤ b' ∧ b' ≤ 10000) (hc' : -10000000 ≤ c' ∧ c' ≤ 10000000) (hd' : -10000 ≤ d' ∧ d' ≤ 10000) (hm : b * d' = 2 * m) :
    (∀ p, p < n * n → mulZ X Y n n p = uni n (b + b') (c + c' + m) (d + d') p * 2147483648) ∧ ∀ p, p < n * n → mulG X Y n n p = false := by
  have bd := mul_bound b d' 10000 10000 hb hd'
  have key : ∀ p, p < n * n → (∀ i, i < n → (-100000000 ≤ uni n b c d (p / n * n + i) ∧ uni n b c d (p / n * n + i) ≤ 100000000) ∧ (-100000000 ≤ uni n b' c' d' (i * n + p % n) ∧ uni n b' c' d' (i * n + p % n) ≤ 100000000) ∧ -100000000 ≤ uni n b c d (p / n * n + i) * uni n b' c' d' (i * n + p % n) ∧ uni n b c d (p / n * n + i) * uni n b' c' d' (i * n + p % n) ≤ 100000000) ∧
      sI (fun i => uni n b c d (p / n * n + i) * uni n b' c' d' (i * n + p % n)) n = 2 * uni n (b + b') (c + c' + m) (d + d') p := by
    intro p hp
    have hc3 : n = 1 ∨ n = 2 ∨ n = 3 := by omega
    rcases hc3 with rfl | rfl | rfl
    · obtain rfl : p = 0 := by omega
      refine ⟨fun i hi => ?_, by simp [sI, uni]⟩
      obtain rfl : i = 0 := by omega
      simp [uni]
    · have h4 : p = 0 ∨ p = 1 ∨ p = 2 ∨ p = 3 := by omega
      rcases h4 with rfl | rfl | rfl | rfl
      all_goals
        refine ⟨fun i hi => ?_, by simp [sI, uni]; try omega⟩
        have hi2 : i = 0 ∨ i = 1 := by omega
        rcases hi2 with rfl | rfl <;> simp [uni] <;> omega
    · have h9 : p = 0 ∨ p = 1 ∨ p = 2 ∨ p = 3 ∨ p = 4 ∨ p = 5 ∨ p = 6 ∨ p = 7 ∨ p = 8 := by omega
      rcases h9 with rfl | rfl | rfl | rfl | rfl | rfl | rfl | rfl | rfl
      all_goals
        refine ⟨fun i hi => ?_, by simp [sI, uni]; try omega⟩
        have hi2 : i = 0 ∨ i = 1 ∨ i = 2 := by omega
        rcases hi2 with rfl | rfl | rfl <;> simp [uni] <;> omega
  have D : ∀ p, p < n * n → dotN (rowZ X n (p / n)) (colZ Y n (p % n)) n = 2 * uni n (b + b') (c + c' + m) (d + d') p * 1073741824 ∧ dotC (rowZ X n (p / n)) (colZ Y n (p % n)) n = false := fun p hp => by
    have hl := place_lt p n n hp
    obtain ⟨k1, k2⟩ := key p hp
    have q := dot_quart (rowZ X n (p / n)) (colZ Y n (p % n)) (fun i => uni n b c d (p / n * n + i)) (fun i => uni n b' c' d' (i * n + p % n)) n (by omega) (fun i hi => ⟨hX _ (place_in _ _ _ _ hl.1 hi), hY _ (place_in _ _ _ _ hi hl.2)⟩) k1
    rw [k2] at q
    exact ⟨q.1, q.2.1⟩
  exact ⟨fun p hp => by
    show dotN (rowZ X n (p / n)) (colZ Y n (p % n)) n = _
    rw [(D p hp).1]
    omega, fun p hp => (D p hp).2⟩

/-- The terms in halves. -/
def xH (a : Nat → Int) (n : Nat) : Nat → Nat → Int
  | 0 => fun p => if p / n = p % n then 2 else 0
  | 1 => fun p => 2 * a p
  | _ => fun p => if p = 2 then a 1 * a 5 else 0
theorem term_half (a : Nat → Int) (n : Nat) (hn : 1 ≤ n ∧ n ≤ 3) (h : UpW 9 n a) : (∀ i, i ≤ n - 1 → ∀ p, p < n * n → termZ (WZ a) n i p = xH a n i p * 2147483648) ∧ termC (WZ a) n (n - 1) = false := by
  have t0 : ∀ p, termZ (WZ a) n 0 p = xH a n 0 p * 2147483648 := fun p => by
    show (if p / n = p % n then (4294967296 : Int) else 0) = (if p / n = p % n then 2 else 0) * 2147483648
    split <;> rfl
  have t1 := term_one a n ⟨hn.1, by omega⟩ h
  have e1 : ∀ p, p < n * n → termZ (WZ a) n 1 p = xH a n 1 p * 2147483648 := fun p hp => by
    rw [t1.1 p hp]
    show a p * 4294967296 = 2 * a p * 2147483648
    omega
  have hc3 : n = 1 ∨ n = 2 ∨ n = 3 := by omega
  rcases hc3 with rfl | rfl | rfl
  · exact ⟨fun i hi p hp => by
      obtain rfl : i = 0 := by omega
      exact t0 p, rfl⟩
  · exact ⟨fun i hi p hp => by
      rcases (show i = 0 ∨ i = 1 by omega) with rfl | rfl
      · exact t0 p
      · exact e1 p hp, t1.2⟩
  · have t2 := term_two a h
    exact ⟨fun i hi p hp => by
      rcases (show i = 0 ∨ i = 1 ∨ i = 2 by omega) with rfl | rfl | rfl
      · exact t0 p
      · exact e1 p hp
      · exact t2.1 p hp, t2.2⟩

theorem flow_uni (a : Nat → Int) (n : Nat) (hn : 1 ≤ n ∧ n ≤ 3) (h : UpW 9 n a) (y : Int) (hy : -200 ≤ y ∧ y ≤ 200) :
    (∀ p, p < n * n → flowZ (WZ a) n (y * 4294967296) p = uni n (2 * (a 1 * y)) (2 * (a 2 * y) + a 1 * a 5 * (y * y)) (2 * (a 5 * y)) p * 2147483648) ∧ flowC (WZ a) n (y * 4294967296) = false := by
  obtain ⟨T, TC⟩ := term_half a n hn h
  have B : ∀ p, p < n * n → -9 ≤ a p ∧ a p ≤ 9 := h.1
  have Z : ∀ i k, i < n → k < n → k ≤ i → a (i * n + k) = 0 := h.2
  have key : (∀ i, i ≤ n - 1 → ∀ p, p < n * n → -1000000000 ≤ xH a n i p ∧ xH a n i p ≤ 1000000000) ∧ (∀ k, k ≤ n - 1 → ∀ p, p < n * n → (-1000000000 ≤ hH (xH a n) (n - 1) y k p ∧ hH (xH a n) (n - 1) y k p ≤ 1000000000) ∧ -1000000000 ≤ hH (xH a n) (n - 1) y k p * y ∧ hH (xH a n) (n - 1) y k p * y ≤ 1000000000) ∧
      ∀ p, p < n * n → hH (xH a n) (n - 1) y (n - 1) p = uni n (2 * (a 1 * y)) (2 * (a 2 * y) + a 1 * a 5 * (y * y)) (2 * (a 5 * y)) p := by
    have hc3 : n = 1 ∨ n = 2 ∨ n = 3 := by omega
    rcases hc3 with rfl | rfl | rfl
    · refine ⟨fun i hi p hp => ?_, fun k hk p hp => ?_, fun p hp => ?_⟩
      · obtain rfl : i = 0 := by omega
        obtain rfl : p = 0 := by omega
        simp [xH]
      · obtain rfl : k = 0 := by omega
        obtain rfl : p = 0 := by omega
        simp [hH, xH]
        omega
      · obtain rfl : p = 0 := by omega
        simp [hH, xH, uni]
    · have b1 := B 1 (by omega)
      have z0 := Z 0 0 (by omega) (by omega) (by omega)
      have z2 := Z 1 0 (by omega) (by omega) (by omega)
      have z3 := Z 1 1 (by omega) (by omega) (by omega)
      simp at z0 z2 z3
      have m1 := mul_bound (a 1) y 9 200 b1 hy
      have m2 := mul_bound (a 1 * y) y 1800 200 m1 hy
      have e1 : 2 * a 1 * y = 2 * (a 1 * y) := Int.mul_assoc _ _ _
      have e2 : 2 * (a 1 * y) * y = 2 * (a 1 * y * y) := Int.mul_assoc _ _ _
      refine ⟨fun i hi p hp => ?_, fun k hk p hp => ?_, fun p hp => ?_⟩
      · rcases (show p = 0 ∨ p = 1 ∨ p = 2 ∨ p = 3 by omega) with rfl | rfl | rfl | rfl <;> rcases (show i = 0 ∨ i = 1 by omega) with rfl | rfl <;> simp [xH, z0, z2, z3] <;> omega
      · rcases (show p = 0 ∨ p = 1 ∨ p = 2 ∨ p = 3 by omega) with rfl | rfl | rfl | rfl <;> rcases (show k = 0 ∨ k = 1 by omega) with rfl | rfl <;> simp [hH, xH, z0, z2, z3, e1, e2] <;> omega
      · rcases (show p = 0 ∨ p = 1 ∨ p = 2 ∨ p = 3 by omega) with rfl | rfl | rfl | rfl <;> simp [hH, xH, uni, z0, z2, z3, e1]
    · have b1 := B 1 (by omega)
      have b2 := B 2 (by omega)
      have b5 := B 5 (by omega)
      have z0 := Z 0 0 (by omega) (by omega) (by omega)
      have z3 := Z 1 0 (by omega) (by omega) (by omega)
      have z4 := Z 1 1 (by omega) (by omega) (by omega)
      have z6 := Z 2 0 (by omega) (by omega) (by omega)
      have z7 := Z 2 1 (by omega) (by omega) (by omega)
      have z8 := Z 2 2 (by omega) (by omega) (by omega)
      simp at z0 z3 z4 z6 z7 z8
      have m15 := mul_bound (a 1) (a 5) 9 9 b1 b5
      obtain ⟨q, hq⟩ : ∃ q, a 1 * a 5 = q := ⟨_, rfl⟩
      rw [hq] at m15
      have qy := mul_bound q y 81 200 m15 hy
      have w1 := mul_bound (a 1) y 9 200 b1 hy
      have w2 := mul_bound (a 2) y 9 200 b2 hy
      have w5 := mul_bound (a 5) y 9 200 b5 hy
      have v1 := mul_bound (a 1 * y) y 1800 200 w1 hy
      have v2 := mul_bound (a 2 * y) y 1800 200 w2 hy
      have v5 := mul_bound (a 5 * y) y 1800 200 w5 hy
      have vq := mul_bound (q * y) y 16200 200 qy hy
      have vq2 := mul_bound (q * y * y) y 3240000 200 vq hy
      have e1 : 2 * a 1 * y = 2 * (a 1 * y) := Int.mul_assoc _ _ _
      have e2 : 2 * a 2 * y = 2 * (a 2 * y) := Int.mul_assoc _ _ _
      have e5 : 2 * a 5 * y = 2 * (a 5 * y) := Int.mul_assoc _ _ _
      have f1 : 2 * (a 1 * y) * y = 2 * (a 1 * y * y) := Int.mul_assoc _ _ _
      have f2 : (q * y + 2 * a 2) * y = q * y * y + 2 * (a 2 * y) := by grind
      have f3 : (q * y * y + 2 * (a 2 * y)) * y = q * y * y * y + 2 * (a 2 * y * y) := by grind
      have f5 : 2 * (a 5 * y) * y = 2 * (a 5 * y * y) := Int.mul_assoc _ _ _
      have g2 : q * (y * y) = q * y * y := (Int.mul_assoc _ _ _).symm
      refine ⟨fun i hi p hp => ?_, fun k hk p hp => ?_, fun p hp => ?_⟩
      · rcases (show p = 0 ∨ p = 1 ∨ p = 2 ∨ p = 3 ∨ p = 4 ∨ p = 5 ∨ p = 6 ∨ p = 7 ∨ p = 8 by omega) with rfl | rfl | rfl | rfl | rfl | rfl | rfl | rfl | rfl <;> rcases (show i = 0 ∨ i = 1 ∨ i = 2 by omega) with rfl | rfl | rfl <;> simp [xH, z0, z3, z4, z6, z7, z8, hq] <;> omega
      · rcases (show p = 0 ∨ p = 1 ∨ p = 2 ∨ p = 3 ∨ p = 4 ∨ p = 5 ∨ p = 6 ∨ p = 7 ∨ p = 8 by omega) with rfl | rfl | rfl | rfl | rfl | rfl | rfl | rfl | rfl <;> rcases (show k = 0 ∨ k = 1 ∨ k = 2 by omega) with rfl | rfl | rfl <;> simp [hH, xH, z0, z3, z4, z6, z7, z8, hq, e1, e2, e5, f1, f2, f3, f5] <;> omega
      · rcases (show p = 0 ∨ p = 1 ∨ p = 2 ∨ p = 3 ∨ p = 4 ∨ p = 5 ∨ p = 6 ∨ p = 7 ∨ p = 8 by omega) with rfl | rfl | rfl | rfl | rfl | rfl | rfl | rfl | rfl <;> simp [hH, xH, uni, z0, z3, z4, z6, z7, z8, hq, e1, e2, e5, f2, g2] <;> omega
  obtain ⟨k1, k2, k3⟩ := key
  obtain ⟨r1, r2⟩ := hor_half (termZ (WZ a) n) (xH a n) (n - 1) (n * n) y (by omega) T k1 k2 (n - 1) (Nat.le_refl _)
  refine ⟨fun p hp => ?_, ?_⟩
  · show horZ (termZ (WZ a) n) (n - 1) (y * 4294967296) (n - 1) p = _
    rw [r1 p hp, k3 p hp]
  · show (termC (WZ a) n (n - 1) || horC (termZ (WZ a) n) (n - 1) (y * 4294967296) (n * n) (n - 1)) = false
    rw [TC, r2]
    rfl

/-- Flows one behind the other. -/
theorem flow_mul (a : Nat → Int) (n : Nat) (hn : 1 ≤ n ∧ n ≤ 3) (h : UpW 9 n a) (s t : Int) (hs : -100 ≤ s ∧ s ≤ 100) (ht : -100 ≤ t ∧ t ≤ 100) :
    (∀ p, p < n * n → mulZ (flowZ (WZ a) n (s * 4294967296)) (flowZ (WZ a) n (t * 4294967296)) n n p = flowZ (WZ a) n ((s + t) * 4294967296) p) ∧ ∀ p, p < n * n → mulG (flowZ (WZ a) n (s * 4294967296)) (flowZ (WZ a) n (t * 4294967296)) n n p = false := by
  by_cases h3 : n = 3
  · subst h3
    have b1 := h.1 1 (by omega)
    have b2 := h.1 2 (by omega)
    have b5 := h.1 5 (by omega)
    have m15 := mul_bound (a 1) (a 5) 9 9 b1 b5
    have ss := mul_bound s s 100 100 hs hs
    have tt := mul_bound t t 100 100 ht ht
    have w1 := mul_bound (a 1) s 9 100 b1 hs
    have w2 := mul_bound (a 2) s 9 100 b2 hs
    have w5 := mul_bound (a 5) s 9 100 b5 hs
    have v1 := mul_bound (a 1) t 9 100 b1 ht
    have v2 := mul_bound (a 2) t 9 100 b2 ht
    have v5 := mul_bound (a 5) t 9 100 b5 ht
    have q1 := mul_bound (a 1 * a 5) (s * s) 81 10000 m15 ss
    have q2 := mul_bound (a 1 * a 5) (t * t) 81 10000 m15 tt
    obtain ⟨r1, r2⟩ := uni_mul 3 hn (flowZ (WZ a) 3 (s * 4294967296)) (flowZ (WZ a) 3 (t * 4294967296)) _ _ _ _ _ _ (2 * (a 1 * s * (a 5 * t))) (flow_uni a 3 hn h s (by omega)).1 (flow_uni a 3 hn h t (by omega)).1 (by omega) (by omega) (by omega) (by omega) (by omega) (by omega) (by grind)
    refine ⟨fun p hp => ?_, r2⟩
    rw [r1 p hp, (flow_uni a 3 hn h (s + t) (by omega)).1 p hp]
    have e1 : 2 * (a 1 * s) + 2 * (a 1 * t) = 2 * (a 1 * (s + t)) := by grind
    have e2 : 2 * (a 2 * s) + a 1 * a 5 * (s * s) + (2 * (a 2 * t) + a 1 * a 5 * (t * t)) + 2 * (a 1 * s * (a 5 * t)) = 2 * (a 2 * (s + t)) + a 1 * a 5 * ((s + t) * (s + t)) := by grind
    have e5 : 2 * (a 5 * s) + 2 * (a 5 * t) = 2 * (a 5 * (s + t)) := by grind
    rw [e1, e2, e5]
  · have uc : ∀ b c d p, uni n b c d p = uni n b 0 0 p := fun b c d p => by
      unfold uni
      simp [h3]
    have fs : ∀ y, -200 ≤ y ∧ y ≤ 200 → ∀ p, p < n * n → flowZ (WZ a) n (y * 4294967296) p = uni n (2 * ((if n = 2 then a 1 else 0) * y)) 0 0 p * 2147483648 := fun y hy p hp => by
      rw [(flow_uni a n hn h y hy).1 p hp, uc]
      by_cases h2 : n = 2
      · rw [if_pos h2]
      · rw [if_neg h2]
        obtain rfl : n = 1 := by omega
        obtain rfl : p = 0 := by omega
        simp [uni]
    have bb : -9 ≤ (if n = 2 then a 1 else 0) ∧ (if n = 2 then a 1 else 0) ≤ 9 := by
      split
      · rename_i h2
        subst h2
        exact h.1 1 (by omega)
      · omega
    generalize (if n = 2 then a 1 else 0) = b at *
    have w1 := mul_bound b s 9 100 bb hs
    have v1 := mul_bound b t 9 100 bb ht
    obtain ⟨r1, r2⟩ := uni_mul n hn (flowZ (WZ a) n (s * 4294967296)) (flowZ (WZ a) n (t * 4294967296)) _ _ _ _ _ _ 0 (fs s (by omega)) (fs t (by omega)) (by omega) (by omega) (by omega) (by omega) (by omega) (by omega) (by omega)
    refine ⟨fun p hp => ?_, r2⟩
    rw [r1 p hp, fs (s + t) (by omega) p hp, Int.mul_add b, Int.mul_add]
    rfl
theorem flow_nought (a : Nat → Int) (n : Nat) (hn : 1 ≤ n ∧ n ≤ 3) (h : UpW 9 n a) (p : Nat) (hp : p < n * n) : flowZ (WZ a) n (0 * 4294967296) p = diagZ oneZ n p := by
  rw [(flow_uni a n hn h 0 (by omega)).1 p hp]
  show uni n _ _ _ p * 2147483648 = (if p / n = p % n then (4294967296 : Int) else 0)
  unfold uni
  simp
  split <;> simp

end Go.Proofs.Wd

/- PolyGroup. -/
namespace Go.Proofs.Ytopaakjildmjcaa
open Go.RowKit Go.Shelf Go.Proofs.Wd
set_option linter.unusedVariables false
set_option linter.unusedSimpArgs false
set_option maxRecDepth 10000

set_option maxRecDepth 50000 in
set_option maxHeartbeats 16000000 in
theorem lawPolyGroup (x p q : Int) (hx : I64 x) (hp : I64 p) (hq : I64 q) (ao : Option Addr) (ln cap : Nat) (L : Nat → Int) (hL : ∀ i, i < ln → I64 (L i)) (w : World) (hr : Row w ao ln L) :
    Calls Try.prog 5 #[.int .i64 x, .slice ao ln cap, .int .i64 p, .int .i64 q] w fun e w' => e = .returned (.bool true) ∧ Kp w w' := by
  have HL := hide hL
  have HR := hide hr
  have K1 := hide (lawPolyAwake w)
  have PK := hide (fun w => kitPick x 3 hx (by omega) w)
  have PS := hide (fun w => kitPick p 201 hp (by omega) w)
  have PT := hide (fun w => kitPick q 201 hq (by omega) w)
  have pb : 0 ≤ x % 3 ∧ x % 3 < 3 := by omega
  obtain ⟨ps, hps⟩ : ∃ p, x % 3 = p := ⟨_, rfl⟩
  rw [hps] at PK pb
  obtain ⟨n, hn⟩ : ∃ n : Nat, (n : Int) = 1 + ps := ⟨(1 + ps).toNat, by omega⟩
  have n3 : 1 ≤ n ∧ n ≤ 3 := by omega
  have wn : wrap64 (1 + ps) = (n : Int) := by rw [← hn]; exact wrap_id _ (by omega)
  have sb : 0 ≤ p % 201 ∧ p % 201 < 201 := by omega
  have tb : 0 ≤ q % 201 ∧ q % 201 < 201 := by omega
  obtain ⟨sp, hsp⟩ : ∃ s, p % 201 = s := ⟨_, rfl⟩
  obtain ⟨tp, htp⟩ : ∃ s, q % 201 = s := ⟨_, rfl⟩
  rw [hsp] at PS sb
  rw [htp] at PT tb
  obtain ⟨s, hs⟩ : ∃ s, s = sp - 100 := ⟨_, rfl⟩
  obtain ⟨t, ht⟩ : ∃ t, t = tp - 100 := ⟨_, rfl⟩
  obtain ⟨S, hS⟩ : ∃ S, S = s * 4294967296 := ⟨_, rfl⟩
  obtain ⟨T, hT⟩ : ∃ T, T = t * 4294967296 := ⟨_, rfl⟩
  obtain ⟨V, hV⟩ : ∃ V, V = (s + t) * 4294967296 := ⟨_, rfl⟩
  obtain ⟨M, hM⟩ : ∃ M, M = (-s) * 4294967296 := ⟨_, rfl⟩
  have sb2 : -100 ≤ s ∧ s ≤ 100 := by omega
  have tb2 : -100 ≤ t ∧ t ≤ 100 := by omega
  have ws1 : wrap64 (sp - 100) = s := by rw [hs]; exact wrap_id _ (by omega)
  have wt1 : wrap64 (tp - 100) = t := by rw [ht]; exact wrap_id _ (by omega)
  have ws2 : wrap64 (s * 4294967296) = S := by rw [hS]; exact wrap_id _ (by omega)
  have wt2 : wrap64 (t * 4294967296) = T := by rw [hT]; exact wrap_id _ (by omega)
  have wv : wrap64 (S + T) = V := by rw [wrap_id _ (by omega)]; omega
  have wm : wrap64 (-S) = M := by rw [wrap_id _ (by omega)]; omega
  have TM : Hid (S = s * 4294967296 ∧ T = t * 4294967296 ∧ V = (s + t) * 4294967296 ∧ M = (-s) * 4294967296 ∧ (-100 ≤ s ∧ s ≤ 100) ∧ (-100 ≤ t ∧ t ≤ 100)) := ⟨hS, hT, hV, hM, sb2, tb2⟩
  have k2 := mul12n n n ⟨n3.1, by omega⟩ ⟨n3.1, by omega⟩
  have UPR := hide (fun w hr => lawUpper n 9 ⟨n3.1, by omega⟩ (by omega) ao ln cap L (unhide HL) w hr)
  obtain ⟨nn, hnn⟩ : ∃ nn, n * n = nn := ⟨_, rfl⟩
  rw [hnn] at k2 UPR
  have NN := hide hnn
  have HN := hide (And.intro n3 k2)
  clear hx hp hq hL hr hps hn pb k2 hnn n3 sb tb hsp htp hs ht hS hT hV hM sb2 tb2
  go_enter Try.func5, Try.ntmps5
  go_wp2_with fail
  refine (unhide K1).mono ?_
  rintro e w1 ⟨rfl, k1⟩
  have W1 := hide k1
  clear k1 K1
  go_wp2_with fail
  refine (unhide PK _).mono ?_
  rintro e w2 ⟨rfl, k2⟩
  have W2 : Hid (Kp w w2) := (unhide W1).trans k2
  clear k2 W1 PK
  go_wp2_with fail
  refine (unhide PS _).mono ?_
  rintro e w2' ⟨rfl, k2⟩
  have W3 : Hid (Kp w w2') := (unhide W2).trans k2
  clear k2 W2 PS
  go_wp2_with fail
  refine (unhide PT _).mono ?_
  rintro e w2 ⟨rfl, k2⟩
  have W2 : Hid (Kp w w2) := (unhide W3).trans k2
  clear k2 W3 PT
  go_wp2_with fail
  refine (unhide UPR _ ((unhide HR).kp (unhide W2))).mono ?_
  rintro e w3 ⟨a, ha, hv⟩
  have HA := hide ha
  obtain ⟨Ba, ca, rfl, hca, S3⟩ := ((ST.nil w).kp (unhide W2)).ownM hv
  have HC := hide hca
  have S3 := hide (S3.box #[.int .i64 n, .int .i64 n, .slice (some ⟨Ba, 0, none⟩) nn ca] 26)
  obtain ⟨Ax, hAx⟩ : ∃ Ax, w3.heap.size = Ax := ⟨_, rfl⟩
  rw [hAx] at S3
  clear ha hv hca W2 UPR HR
  generalize hw4 : w3.alloc (.cells #[.int .i64 n, .int .i64 n, .slice (some ⟨Ba, 0, none⟩) nn ca] 26) = w4 at S3
  have N4 := hide (unitNew w4)
  go_wp2_with fail
  (try rw [hAx])
  (try rw [hw4])
  clear hAx hw4
  refine (unhide N4).mono ?_
  rintro e w5 ⟨rfl, u5, g5⟩
  have S5 : Hid (ST w [([w4.heap.size], UO w4.heap.size (fun c => c = false) 0)] _ w5) := (unhide S3).push (Kp.of g5) ⟨false, 0, rfl, by omega, by omega, u5⟩ (uo_dep _ _ _) (by simp) (fun q hq => by simp at hq; subst hq; exact ⟨Nat.le_refl _, Blk.lt u5⟩)
  generalize w4.heap.size = U at *
  clear u5 g5 N4 S3
  have FL : Hid (∀ (d y t : Int) (es' fs' : List Ob) wx, t = y * 4294967296 → -200 ≤ y ∧ y ≤ 200 → 0 ≤ d → d ≤ 10000000 → ST w (([U], UO U (fun c => c = false) d) :: es') fs' wx → ([Ba], Own Ba nn (WZ a)) ∈ fs' → Calls Try.prog 12 #[.pointer (some ⟨U, 0, none⟩), .agg #[.int .i64 n, .int .i64 n, .slice (some ⟨Ba, 0, none⟩) nn ca], .int .i64 t] wx fun e w' => ∃ B cp, e = .returned (.tuple #[.agg #[.int .i64 n, .int .i64 n, .slice (some ⟨B, 0, none⟩) nn cp], .int .i64 0]) ∧ nn ≤ cp ∧ ST w (([U], UO U (fun c => c = false) (d + 200000)) :: es') (([B], Own B nn (flowZ (WZ a) n (y * 4294967296))) :: fs') w') := by
    intro d y t es' fs' wx et hy hd0 hd S hf
    subst et
    obtain ⟨c0, n0, rfl, q1, q2, hu⟩ := S.unit []
    have hI := wz_I64 (unhide HA) (by omega)
    have hF := polyFlow_ok U n Ba 0 ca false n0 (y * 4294967296) (by unfold I64; omega) ⟨q1, by omega⟩ (WZ a) ⟨(unhide HN).1.1, by have := unhide HN; omega⟩ (by rw [unhide NN]; exact unhide HC) hI (upW_up (unhide HA)) wx hu (by rw [unhide NN]; exact (S.own hf).at0) (S.ownNe hf (c := ([U], UO U (fun c => c = false) d)) (by simp) (V := U) (by simp))
    rw [unhide NN] at hF
    refine hF.mono ?_
    rintro e w' ⟨ao2, cp, B, rfl, h1, h2, h3, ⟨cnt, q3, q4, hu2⟩, hm⟩
    obtain ⟨rfl, hb⟩ := h3.resolve_left (by have := unhide HN; omega)
    have hc : (false || flowC (WZ a) n (y * 4294967296)) = false := by rw [(flow_uni a n (unhide HN).1 (unhide HA) y hy).2]; rfl
    exact ⟨B, cp, rfl, h1, S.tellU [] (MkL.one hm) ⟨_, cnt, hc, by omega, by omega, hu2⟩ (uo_dep _ _ _) (by simp) hb (own_depL _ _ _) (fun q hq => by simp at hq; subst hq; exact ⟨h2, hb.lt⟩)⟩
  have ML : Hid (∀ (d s t : Int) (B1 c1 B2 c2 : Nat) (es' fs' : List Ob) wx, -100 ≤ s ∧ s ≤ 100 → -100 ≤ t ∧ t ≤ 100 → 0 ≤ d → d ≤ 10000000 → nn ≤ c1 → ST w (([U], UO U (fun c => c = false) d) :: es') fs' wx → ([B1], Own B1 nn (flowZ (WZ a) n (s * 4294967296))) ∈ fs' → ([B2], Own B2 nn (flowZ (WZ a) n (t * 4294967296))) ∈ fs' →
      Calls Try.prog 19 #[.pointer (some ⟨U, 0, none⟩), .agg #[.int .i64 n, .int .i64 n, .slice (some ⟨B1, 0, none⟩) nn c1], .agg #[.int .i64 n, .int .i64 n, .slice (some ⟨B2, 0, none⟩) nn c2]] wx fun e w' => ∃ B cp, e = .returned (.tuple #[.agg #[.int .i64 n, .int .i64 n, .slice (some ⟨B, 0, none⟩) nn cp], .int .i64 0]) ∧ nn ≤ cp ∧ ST w (([U], UO U (fun c => c = false) (d + 10000)) :: es') (([B], Own B nn (flowZ (WZ a) n ((s + t) * 4294967296))) :: fs') w') := by
    intro d s t B1 c1 B2 c2 es' fs' wx hs ht hd0 hd hc1 S hf1 hf2
    obtain ⟨c0, n0, rfl, q1, q2, hu⟩ := S.unit []
    have hn3 := unhide HN
    have fI : ∀ y, -200 ≤ y ∧ y ≤ 200 → ∀ j, j < n * n → I64 (flowZ (WZ a) n (y * 4294967296) j) := fun y _ j hj => horZ_I64 _ _ _ (n * n) (fun p hp => termZ_I64 _ _ _ p hp) _ j hj
    have hF := matMul_ok U false n0 ⟨q1, by omega⟩ n n n B1 0 c1 B2 0 c2 (flowZ (WZ a) n (s * 4294967296)) (flowZ (WZ a) n (t * 4294967296)) ⟨hn3.1.1, by omega⟩ ⟨hn3.1.1, by omega⟩ ⟨hn3.1.1, by omega⟩ (by rw [unhide NN]; exact hc1) (fI s (by omega)) (fI t (by omega)) wx hu (by rw [unhide NN]; exact (S.own hf1).at0) (by rw [unhide NN]; exact (S.own hf2).at0) (S.ownNe hf1 (c := ([U], UO U (fun c => c = false) d)) (by simp) (V := U) (by simp)) (S.ownNe hf2 (c := ([U], UO U (fun c => c = false) d)) (by simp) (V := U) (by simp))
    obtain ⟨m1, m2⟩ := flow_mul a n hn3.1 (unhide HA) s t hs ht
    have hc : (false || orC (mulG (flowZ (WZ a) n (s * 4294967296)) (flowZ (WZ a) n (t * 4294967296)) n n) (n * n)) = false := by rw [orC_of _ _ m2]; rfl
    rw [hc] at hF
    rw [unhide NN] at hF m1
    refine hF.mono ?_
    rintro e w' ⟨ao2, cp, B, rfl, h1, h2, h3, hu2, hm⟩
    obtain ⟨rfl, hb⟩ := h2.resolve_left (by omega)
    have kb : (n : Int) * (nn : Int) ≤ 3 * 144 := Int.mul_le_mul (by omega) (by omega) (by omega) (by omega)
    have kb0 : 0 ≤ (n : Int) * (nn : Int) := Int.mul_nonneg (by omega) (by omega)
    have kq : 2 * (n : Int) * (nn : Int) = 2 * ((n : Int) * (nn : Int)) := Int.mul_assoc _ _ _
    exact ⟨B, cp, rfl, h3, S.tellU [] (MkL.one hm) ⟨_, _, rfl, by omega, by omega, hu2⟩ (uo_dep _ _ _) (by simp) ((Own.of hb).congr m1) (own_depL _ _ _) (fun q hq => by simp at hq; subst hq; exact ⟨h1, Blk.lt hb⟩)⟩

  -- X
  obtain ⟨g00, g01, g02⟩ := (unhide S5).cells (b := Ax) (x := .int .i64 n) (y := .int .i64 n) (z := .slice (some ⟨Ba, 0, none⟩) nn ca) (T := 26) (by simp)
  have CX := hide (unhide FL _ s S _ _ w5 (by have := unhide TM; simp only [this.1, this.2.1, this.2.2.1, this.2.2.2.1]) (by have := unhide TM; omega) (by omega) (by omega) (unhide S5) (by simp))
  go_wp2_with fail
  refine (unhide CX).mono ?_
  rintro e wX ⟨BX, cX, rfl, hcX, SX⟩
  have SX := hide (SX.box #[.int .i64 n, .int .i64 n, .slice (some ⟨BX, 0, none⟩) nn cX] 26)
  have HCX := hide hcX
  obtain ⟨Xx, hXx⟩ : ∃ q, wX.heap.size = q := ⟨_, rfl⟩
  rw [hXx] at SX
  generalize hwX : wX.alloc (.cells #[.int .i64 n, .int .i64 n, .slice (some ⟨BX, 0, none⟩) nn cX] 26) = vX at SX
  clear hcX S5 CX g00 g01 g02
  -- Y
  obtain ⟨g00, g01, g02⟩ := (unhide SX).cells (b := Ax) (x := .int .i64 n) (y := .int .i64 n) (z := .slice (some ⟨Ba, 0, none⟩) nn ca) (T := 26) (by simp)
  have CY := hide (unhide FL _ t T _ _ vX (by have := unhide TM; simp only [this.1, this.2.1, this.2.2.1, this.2.2.2.1]) (by have := unhide TM; omega) (by omega) (by omega) (unhide SX) (by simp))
  go_wp2_with fail
  (try rw [hXx])
  (try rw [hwX])
  clear hXx hwX
  refine (unhide CY).mono ?_
  rintro e wY ⟨BY, cY, rfl, hcY, SY⟩
  have SY := hide (SY.box #[.int .i64 n, .int .i64 n, .slice (some ⟨BY, 0, none⟩) nn cY] 26)
  have HCY := hide hcY
  obtain ⟨Yx, hYx⟩ : ∃ q, wY.heap.size = q := ⟨_, rfl⟩
  rw [hYx] at SY
  generalize hwY : wY.alloc (.cells #[.int .i64 n, .int .i64 n, .slice (some ⟨BY, 0, none⟩) nn cY] 26) = vY at SY
  clear hcY SX CY g00 g01 g02
  -- Z
  obtain ⟨g00, g01, g02⟩ := (unhide SY).cells (b := Ax) (x := .int .i64 n) (y := .int .i64 n) (z := .slice (some ⟨Ba, 0, none⟩) nn ca) (T := 26) (by simp)
  have CZ := hide (unhide FL _ (s + t) V _ _ vY (by have := unhide TM; simp only [this.1, this.2.1, this.2.2.1, this.2.2.2.1]) (by have := unhide TM; omega) (by omega) (by omega) (unhide SY) (by simp))
  go_wp2_with fail
  (try rw [hYx])
  (try rw [hwY])
  clear hYx hwY
  refine (unhide CZ).mono ?_
  rintro e wZ ⟨BZ, cZ, rfl, hcZ, SZ⟩
  have SZ := hide (SZ.box #[.int .i64 n, .int .i64 n, .slice (some ⟨BZ, 0, none⟩) nn cZ] 26)
  have HCZ := hide hcZ
  obtain ⟨Zx, hZx⟩ : ∃ q, wZ.heap.size = q := ⟨_, rfl⟩
  rw [hZx] at SZ
  generalize hwZ : wZ.alloc (.cells #[.int .i64 n, .int .i64 n, .slice (some ⟨BZ, 0, none⟩) nn cZ] 26) = vZ at SZ
  clear hcZ SY CZ g00 g01 g02
  -- P
  obtain ⟨g00, g01, g02⟩ := (unhide SZ).cells (b := Xx) (x := .int .i64 n) (y := .int .i64 n) (z := .slice (some ⟨BX, 0, none⟩) nn cX) (T := 26) (by simp)
  obtain ⟨g10, g11, g12⟩ := (unhide SZ).cells (b := Yx) (x := .int .i64 n) (y := .int .i64 n) (z := .slice (some ⟨BY, 0, none⟩) nn cY) (T := 26) (by simp)
  have CP := hide (unhide ML _ s t BX cX BY cY _ _ vZ (by have := unhide TM; omega) (by have := unhide TM; omega) (by omega) (by omega) (unhide HCX) (unhide SZ) (by simp) (by simp))
  go_wp2_with fail
  (try rw [hZx])
  (try rw [hwZ])
  clear hZx hwZ
  refine (unhide CP).mono ?_
  rintro e wP ⟨BP, cP, rfl, hcP, SP⟩
  have SP := hide (SP.box #[.int .i64 n, .int .i64 n, .slice (some ⟨BP, 0, none⟩) nn cP] 26)
  have HCP := hide hcP
  obtain ⟨Px, hPx⟩ : ∃ q, wP.heap.size = q := ⟨_, rfl⟩
  rw [hPx] at SP
  generalize hwP : wP.alloc (.cells #[.int .i64 n, .int .i64 n, .slice (some ⟨BP, 0, none⟩) nn cP] 26) = vP at SP
  clear hcP SZ CP g00 g01 g02 g10 g11 g12
  -- K
  obtain ⟨g00, g01, g02⟩ := (unhide SP).cells (b := Ax) (x := .int .i64 n) (y := .int .i64 n) (z := .slice (some ⟨Ba, 0, none⟩) nn ca) (T := 26) (by simp)
  have CK := hide (unhide FL _ (-s) M _ _ vP (by have := unhide TM; simp only [this.1, this.2.1, this.2.2.1, this.2.2.2.1]) (by have := unhide TM; omega) (by omega) (by omega) (unhide SP) (by simp))
  go_wp2_with fail
  (try rw [hPx])
  (try rw [hwP])
  clear hPx hwP
  refine (unhide CK).mono ?_
  rintro e wK ⟨BK, cK, rfl, hcK, SK⟩
  have SK := hide (SK.box #[.int .i64 n, .int .i64 n, .slice (some ⟨BK, 0, none⟩) nn cK] 26)
  have HCK := hide hcK
  obtain ⟨Kx, hKx⟩ : ∃ q, wK.heap.size = q := ⟨_, rfl⟩
  rw [hKx] at SK
  generalize hwK : wK.alloc (.cells #[.int .i64 n, .int .i64 n, .slice (some ⟨BK, 0, none⟩) nn cK] 26) = vK at SK
  clear hcK SP CK g00 g01 g02
  -- O
  obtain ⟨g00, g01, g02⟩ := (unhide SK).cells (b := Kx) (x := .int .i64 n) (y := .int .i64 n) (z := .slice (some ⟨BK, 0, none⟩) nn cK) (T := 26) (by simp)
  obtain ⟨g10, g11, g12⟩ := (unhide SK).cells (b := Xx) (x := .int .i64 n) (y := .int .i64 n) (z := .slice (some ⟨BX, 0, none⟩) nn cX) (T := 26) (by simp)
  have CO := hide (unhide ML _ (-s) s BK cK BX cX _ _ vK (by have := unhide TM; omega) (by have := unhide TM; omega) (by omega) (by omega) (unhide HCK) (unhide SK) (by simp) (by simp))
  go_wp2_with fail
  (try rw [hKx])
  (try rw [hwK])
  clear hKx hwK
  refine (unhide CO).mono ?_
  rintro e wO ⟨BO, cO, rfl, hcO, SO⟩
  have SO := hide (SO.box #[.int .i64 n, .int .i64 n, .slice (some ⟨BO, 0, none⟩) nn cO] 26)
  have HCO := hide hcO
  obtain ⟨Ox, hOx⟩ : ∃ q, wO.heap.size = q := ⟨_, rfl⟩
  rw [hOx] at SO
  generalize hwO : wO.alloc (.cells #[.int .i64 n, .int .i64 n, .slice (some ⟨BO, 0, none⟩) nn cO] 26) = vO at SO
  clear hcO SK CO g00 g01 g02 g10 g11 g12
  have EE : Hid (Calls Try.prog 8 #[.int .i64 n] vO fun e w' => MatP n n nn (diagZ oneZ n) 0 (Kp vO) vO e w') := by
    have := matEye_ok n ⟨(unhide HN).1.1, by have := unhide HN; omega⟩ vO
    rw [unhide NN] at this
    exact this
  go_wp2_with fail
  (try rw [hOx])
  (try rw [hwO])
  clear hOx hwO
  refine (unhide EE).mono ?_
  intro e wE hv
  obtain ⟨BE, cE, rfl, hcE, SE⟩ := (unhide SO).matK (by have := unhide HN; omega) hv
  have SE := hide (SE.box #[.int .i64 n, .int .i64 n, .slice (some ⟨BE, 0, none⟩) nn cE] 26)
  obtain ⟨Ex, hEx⟩ : ∃ Ex, wE.heap.size = Ex := ⟨_, rfl⟩
  rw [hEx] at SE
  generalize hwE : wE.alloc (.cells #[.int .i64 n, .int .i64 n, .slice (some ⟨BE, 0, none⟩) nn cE] 26) = vE at SE
  clear hv hcE SO EE FL ML
  have CW : Hid (∀ wx, Kp vE wx → (wx.cell? ⟨Px, 0, none⟩ = some (.int .i64 n) ∧ wx.cell? ⟨Px, 1, none⟩ = some (.int .i64 n) ∧ wx.cell? ⟨Px, 2, none⟩ = some (.slice (some ⟨BP, 0, none⟩) nn cP)) ∧ (wx.cell? ⟨Zx, 0, none⟩ = some (.int .i64 n) ∧ wx.cell? ⟨Zx, 1, none⟩ = some (.int .i64 n) ∧ wx.cell? ⟨Zx, 2, none⟩ = some (.slice (some ⟨BZ, 0, none⟩) nn cZ)) ∧ (wx.cell? ⟨Ox, 0, none⟩ = some (.int .i64 n) ∧ wx.cell? ⟨Ox, 1, none⟩ = some (.int .i64 n) ∧ wx.cell? ⟨Ox, 2, none⟩ = some (.slice (some ⟨BO, 0, none⟩) nn cO)) ∧ (wx.cell? ⟨Ex, 0, none⟩ = some (.int .i64 n) ∧ wx.cell? ⟨Ex, 1, none⟩ = some (.int .i64 n) ∧ wx.cell? ⟨Ex, 2, none⟩ = some (.slice (some ⟨BE, 0, none⟩) nn cE))) := fun wx k => by
    have S := (unhide SE).kp k
    exact ⟨S.cells (T := 26) (by simp), S.cells (T := 26) (by simp), S.cells (T := 26) (by simp), S.cells (T := 26) (by simp)⟩
  have RW : Hid (∀ wx, Kp vE wx → Row wx (some ⟨BP, 0, none⟩) nn (flowZ (WZ a) n ((s + t) * 4294967296)) ∧ Row wx (some ⟨BZ, 0, none⟩) nn (flowZ (WZ a) n ((s + t) * 4294967296)) ∧ Row wx (some ⟨BO, 0, none⟩) nn (diagZ oneZ n) ∧ Row wx (some ⟨BE, 0, none⟩) nn (diagZ oneZ n)) := fun wx k => by
    have S := (unhide SE).kp k
    refine ⟨(S.own (B := BP) (len := nn) (Z := flowZ (WZ a) n ((s + t) * 4294967296)) (by simp)).row, (S.own (B := BZ) (len := nn) (Z := flowZ (WZ a) n ((s + t) * 4294967296)) (by simp)).row, rowCongr (S.own (B := BO) (len := nn) (Z := flowZ (WZ a) n (((-s) + s) * 4294967296)) (by simp)).row (fun p hp => ?_), (S.own (B := BE) (len := nn) (Z := diagZ oneZ n) (by simp)).row⟩
    rw [show -s + s = 0 by omega]
    exact flow_nought a n (unhide HN).1 (unhide HA) p (by rw [unhide NN]; exact hp)
  have UWx : Hid (∀ wx, Kp vE wx → ∃ m, UC U false m wx) := fun wx k => by
    obtain ⟨c, m, rfl, _, _, hu⟩ := ((unhide SE).kp k).unit []
    exact ⟨m, hu⟩
  have KW : Hid (Kp w vE) := (unhide SE).keep
  clear SE
  obtain ⟨⟨x0, x1, x2⟩, ⟨x3, x4, x5⟩, ⟨x6, x7, x8⟩, ⟨x9, xa, xb⟩⟩ := unhide CW vE (Kp.refl _)
  go_wp2_with fail
  (try rw [hEx])
  (try rw [hwE])
  clear hEx hwE
  refine (kitSameM n n (some ⟨BP, 0, none⟩) (some ⟨BZ, 0, none⟩) nn cP cZ _ (by have := unhide HN; omega) vE (unhide RW vE (Kp.refl _)).1 (unhide RW vE (Kp.refl _)).2.1).mono ?_
  rintro e wA ⟨rfl, kA⟩
  have KA := hide kA
  clear x0 x1 x2 x3 x4 x5 x6 x7 x8 x9 xa xb kA
  obtain ⟨_, _, ⟨x6, x7, x8⟩, ⟨x9, xa, xb⟩⟩ := unhide CW wA (unhide KA)
  go_wp2_with fail
  refine (kitSameM n n (some ⟨BO, 0, none⟩) (some ⟨BE, 0, none⟩) nn cO cE _ (by have := unhide HN; omega) wA (unhide RW wA (unhide KA)).2.2.1 (unhide RW wA (unhide KA)).2.2.2).mono ?_
  rintro e wB ⟨rfl, kB⟩
  have KB : Hid (Kp vE wB) := (unhide KA).trans kB
  clear x6 x7 x8 x9 xa xb kB KA
  obtain ⟨m, hu⟩ := unhide UWx wB (unhide KB)
  have CC := hide (unitCut U false m wB hu)
  clear hu
  go_wp2_with fail
  refine (unhide CC).mono ?_
  rintro e wC ⟨rfl, rfl⟩
  go_wp2
  go_ret
  exact ⟨rfl, (unhide KW).trans (unhide KB)⟩

end Go.Proofs.Ytopaakjildmjcaa

/- The statement PolyGroup holds for every input: the law returns true, and its arguments read afterwards as before. No condition. -/
namespace Go.Proofs.Ytopaakjildmjcaa.polyGroup
open Go.ChangeShapes Go.WideShapes Go.ChangeAt Go.RowKit Go.Joins Go.Proofs.Wd
set_option linter.unusedVariables false
set_option linter.unusedSimpArgs false
set_option maxRecDepth 10000

theorem own : ownKnob Try.prog.godebug = none := by kernel_rfl

set_option maxRecDepth 100000 in
theorem lifted (os : Os) (started : os.Started) (H : Type) (enc : TypeId × Value → H) :
    ReturnsInHanded {} Try.checked os 5 .any (Rows.polyGroupSpec.pre6 enc Try.prog Try.f5 Rows.polyGroupRow.domain false) (Rows.polyGroupSpec.post enc Try.prog Try.f5 false true false false) := by
  refine returnsInHanded_of_change (C := Try.checked) own started (by kernel_rfl) Try.func5
    (ChangeSpec.witness6 (enc := enc) (C := Try.checked) false ⟨#[], #[.int .i64 0, .slice none 0 0, .int .i64 0, .int .i64 0], []⟩ 8 (by kernel_rfl) (by kernel_rfl) (by kernel_rfl) (by kernel_rfl)) ?_
  intro W base args ds gs before hval0 hW hcnd _
  have hval : ∀ (j : Nat) t v, Try.f5.params[j]? = some t → args[j]? = some v → Value.okWide Try.prog W .any base t v := hval0
  have hW' := hW
  obtain ⟨p, q, hA0, hV, rfl, hfz, hnd⟩ := hW
  have hA : DataW.TrodAll enc Try.prog W 0 (fun _ => true) true Try.f5.params.toList args.toList ds p := hA0
  rw [Try.params5] at hA hval
  obtain ⟨v0, vs0, d0, ds0, p0, q0, hargs, rfl, rfl, h0, r0⟩ := trodAll_cons hA
  obtain ⟨v1, vs1, d1, ds1, p1, q1, rfl, rfl, rfl, h1, r1⟩ := trodAll_cons r0
  obtain ⟨v2, vs2, d2, ds2, p2, q2, rfl, rfl, rfl, h2, r2⟩ := trodAll_cons r1
  obtain ⟨v3, vs3, d3, ds3, p3, q3, rfl, rfl, rfl, h3, r3⟩ := trodAll_cons r2
  obtain ⟨rfl, rfl, rfl⟩ := trodAll_nil r3
  obtain rfl : args = #[v0, v1, v2, v3] := by cases args; simp_all
  obtain ⟨rfl, rfl⟩ := trodVars_none hV
  have hlt := hW'.lt
  obtain ⟨a0, rfl, rfl, rfl, wa0⟩ := open_int Try.underlying3 (hval 0 3 v0 rfl rfl) h0
  have k1 := h1
  obtain ⟨fuel1, t1⟩ := h1
  obtain ⟨ao1, ln1, lc1, rfl⟩ := okWide_slice Try.underlying24 (hval 1 24 v1 rfl rfl)
  obtain ⟨ya1, yl1, yc1, Z1, e1, le1, lm1, row1, num1, nil1⟩ := open_row0 t1
  cases e1
  obtain ⟨a2, rfl, rfl, rfl, wa2⟩ := open_int Try.underlying3 (hval 2 3 v2 rfl rfl) h2
  obtain ⟨a3, rfl, rfl, rfl, wa3⟩ := open_int Try.underlying3 (hval 3 3 v3 rfl rfl) h3
  clear hA0 hval0
  refine (lawPolyGroup a0 a2 a3 (i64_wf wa0) (i64_wf wa2) (i64_wf wa3) ao1 ln1 lc1 Z1 num1 W row1).mono fun e W' ⟨he, hg⟩ => ?_
  subst he
  exact ⟨_, rfl, post_of_kp (pa := [] ++ (p1 ++ ([] ++ ([] ++ ([]))))) (pv := []) hW' (fun _ => (trodAll_cons_mk (shut_bool Try.underlying4 _) trodAll_mk0)) (trodAll_cons_mk (shut_int Try.underlying3 wa0) (trodAll_cons_mk (WideElems.Trod_stays laid (by kernel_rfl) (of_decide_eq_true (by kernel_rfl)) k1 (fun x hx => hg.same (hlt x (by simp [hx]))) (fun x hx => by simpa using hlt x (by simp [hx]))) (trodAll_cons_mk (shut_int Try.underlying3 wa2) (trodAll_cons_mk (shut_int Try.underlying3 wa3) trodAll_mk0)))) rfl hg⟩

end Go.Proofs.Ytopaakjildmjcaa.polyGroup
namespace Go.Proofs.Ytopaakjildmjcaa
theorem polyGroup_holds : Rows.PolyGroupSaid :=
  OpenClaim.holds_of_wide 5 Try.f5 rfl rfl rfl rfl rfl rfl rfl ⟨rfl, rfl, rfl, rfl, rfl⟩ rfl rfl rfl rfl rfl (by kernel_rfl) Try.func5 (by kernel_rfl)
    (of_decide_eq_true (by kernel_rfl)) (by unfold Func.isWrapper; first | (rw [if_pos (by decide +kernel)]; kernel_rfl) | (rw [if_neg (by decide +kernel)]; exact ⟨rfl, rfl⟩))
    (fun os started H enc _ => polyGroup.lifted os started H enc)
#print axioms polyGroup_holds
end Go.Proofs.Ytopaakjildmjcaa
