/- A whole root's square is not above its number, and that of one more is; of a square the whole root is the number without its sign: the walk of the law RootWhole. -/
import Derived.Test.YticaiccocfoinaaRootE
namespace Go.Proofs.Yticaiccocfoinaa
open Go.RowKit Go.Proofs.Wd
set_option linter.unusedVariables false
set_option linter.unusedSimpArgs false

/-- An operation of a region that draws its order, taken first: its slot written out. -/
theorem take_slot {P : Program} {ops : Array Oper} {Q : Exit → Act → World → Prop} {md : Region.Mode} {S : World → Prop} {i d : Nat} {oi : Oper} {v : Value} {fuel : Nat} {listed : Array Bool} {a : Act} {w : World} (hi : ops[i]? = some oi) (hd : oi.dst = some d)
    (hs : Region.noSelect ops = true) (hf : Region.free md ops listed i = true) (hr : (Region.ready md ops listed).contains i = true)
    (hQ : ∀ c a w, Q (.panic c) (a.put (some d) v) w → Q (.panic c) a w) (hy : YieldsIf P ops S oi v a) (hS : S w)
    (h : wpAnyH P md ops Q S fuel (listed.setIfInBounds i true) (a.put (some d) v) w) : wpAnyH P md ops Q S (fuel + 1) listed a w :=
  wpAnyH_take hi hs hf hr (by rw [hd]; exact hQ) hy hS (by rw [hd]; exact h)

set_option maxHeartbeats 4000000 in
set_option maxRecDepth 100000 in
theorem lawRootWhole_core (v m n er k : Int) (hv : wrapW v = v) (hm : I64 m) (w : World)
    (c : (er = 0 ∧ 0 ≤ n ∧ n ≤ 9223372036854775807 ∧ n * n ≤ v ∧ v < (n + 1) * (n + 1)) ∨ (er = 2 ∧ (v < 0 ∨ 85070591730234615847396907784232501249 < v)))
    (hk : (0 ≤ m ∧ k = m) ∨ (m < 0 ∧ k = -m))
    (K0 : Hid (∀ w, Calls Try.prog 4 #[] w fun e w' => e = .returned (.bool true) ∧ Grown w w'))
    (P1 : Hid (∀ w, Calls Try.prog 8 #[.agg #[.int .i64 (hiOf v), .int .u64 (loOf v)]] w fun e w' => e = .returned (.tuple #[.int .i64 n, .int .i64 er]) ∧ Grown w w'))
    (P2 : Hid (-9223372036854775807 ≤ m → ∀ w, Calls Try.prog 8 #[.agg #[.int .i64 (hiOf (m * m)), .int .u64 (loOf (m * m))]] w fun e w' => e = .returned (.tuple #[.int .i64 k, .int .i64 0]) ∧ Grown w w')) :
    Calls Try.prog 5 #[.agg #[.int .i64 (hiOf v), .int .u64 (loOf v)], .int .i64 m] w fun e w' => e = .returned (.bool true) ∧ Grown w w' := by
  have hl := loOf_U64 v
  have hh := hiOf_I64 v
  have hval : val (hiOf v) (loOf v) = v := by rw [val_of, hv]
  unfold U64 at hl
  unfold I64 at hh
  have HV := hide hv
  have HC := hide c
  have HL := hide hval
  clear hv hval c hl hh
  go_enter Try.func5, Try.ntmps5
  go_wp2_with fail
  refine (unhide K0 _).mono ?_
  rintro e w1 ⟨rfl, hg1⟩
  obtain ⟨a10, a11⟩ := gat2 hg1 w.heap.size (.int .i64 (hiOf v)) (.int .u64 (loOf v)) (by constructor <;> simp [go_sem])
  have g1 : Grown w w1 := gtrans ((Grown.refl _).alloc _ _) hg1
  clear hg1
  go_wp2_with fail
  refine (unhide P1 _).mono ?_
  rintro e w2 ⟨rfl, hg2⟩
  obtain ⟨a20, a21⟩ := gat2 hg2 _ _ _ ⟨a10, a11⟩
  have g2 : Grown w w2 := gtrans g1 hg2
  clear hg2 a10 a11 g1
  go_upto_region 3 with fail
  go_cut [43] (fun s wx => s = .bool false ∧ wx.cell? ⟨w.heap.size, 0, none⟩ = some (.int .i64 (hiOf v)) ∧ wx.cell? ⟨w.heap.size, 1, none⟩ = some (.int .u64 (loOf v)) ∧ Grown w wx)
  case first =>
    rcases unhide HC with ⟨rfl, n0, n1, n2, n3⟩ | ⟨rfl, n0⟩
    · have d0 : decide (n < 0) = false := by simpa using n0
      have s0 := Int.mul_nonneg n0 n0
      have hr := prod_range n n (by unfold Fx; omega) (by unfold Fx; omega)
      have d1 : decide (0 < cmpI (n * n) v) = false := by have := cmpI_le _ _ n2; simp; omega
      by_cases n4 : n < 9223372036854775807
      · have d2 : decide (n < 9223372036854775807) = true := by simpa using n4
        have MM := hide (fun z (h : z = n ∨ z = n + 1) w => wideMul z z (by unfold I64; omega) (by unfold I64; omega) w)
        have CC : Hid (∀ z, (z = n ∨ z = n + 1) → ∀ w, Calls Try.prog 18 #[.agg #[.int .i64 (hiOf (z * z)), .int .u64 (loOf (z * z))], .agg #[.int .i64 (hiOf v), .int .u64 (loOf v)]] w fun e w' => e = .returned (.int .i64 (cmpI (z * z) v)) ∧ Grown w w') := by
          refine hide (fun z h w => ?_)
          have q := cmpV (z * z) v w
          have hz := prod_range z z (by unfold Fx; omega) (by unfold Fx; omega)
          rw [unhide HV, wrapW_in (z * z) (by omega)] at q
          exact q
        have d3 : cmpI ((n + 1) * (n + 1)) v = 1 := cmpI_gt _ _ n3
        have hw1 : IntKind.i64.wrap (n + 1) = n + 1 := by rw [IntKind.wrap_i64]; omega
        clear n2 n3 s0 hr
        go_region_held3 (fun w' => w'.cell? ⟨w.heap.size, 0, none⟩ = some (.int .i64 (hiOf v)) ∧ w'.cell? ⟨w.heap.size, 1, none⟩ = some (.int .u64 (loOf v)) ∧ Grown w w')
          (first | exact keep1 hg9 (by assumption) | exact ⟨a20, a21, Grown.drew g2⟩)
          (first
            | (go_at_call 16; refine (unhide MM _ (by omega) _).mono ?_; rintro e w9 ⟨rfl, hg9⟩)
            | (go_at_call 18; refine (unhide CC _ (by omega) _).mono ?_; rintro e w9 ⟨rfl, hg9⟩))
        go_wp2_with fail
        go_meet
        exact ⟨rfl, keep1 (Grown.refl w9) (by assumption)⟩
      · have d2 : decide (n < 9223372036854775807) = false := by simpa using n4
        have MM := hide (fun z (h : z = n) w => wideMul z z (by unfold I64; omega) (by unfold I64; omega) w)
        have CC : Hid (∀ z, z = n → ∀ w, Calls Try.prog 18 #[.agg #[.int .i64 (hiOf (z * z)), .int .u64 (loOf (z * z))], .agg #[.int .i64 (hiOf v), .int .u64 (loOf v)]] w fun e w' => e = .returned (.int .i64 (cmpI (z * z) v)) ∧ Grown w w') := by
          refine hide (fun z h w => ?_)
          have q := cmpV (z * z) v w
          have hz := prod_range z z (by unfold Fx; omega) (by unfold Fx; omega)
          rw [unhide HV, wrapW_in (z * z) (by omega)] at q
          exact q
        clear n2 n3 s0 hr
        refine wp_region_noPanic ?_
        refine wp_region_held_drew (S := fun w' => w'.cell? ⟨w.heap.size, 0, none⟩ = some (.int .i64 (hiOf v)) ∧ w'.cell? ⟨w.heap.size, 1, none⟩ = some (.int .u64 (loOf v)) ∧ Grown w w') (by kernel_rfl) ⟨a20, a21, Grown.drew g2⟩ (fun hHeld => ?_)
        refine take_slot (i := 0) (d := 16) (v := .int .i64 0) rfl rfl (by kernel_rfl) (by kernel_rfl) (by kernel_rfl) (fun _ _ _ h => h) (Or.inl ⟨by rfl, ?_⟩) (by assumption) ?_
        · intro w hSw
          (try dsimp only at hSw)
          go_simp
        (try simp only [Act.put, List.setIfInBounds_toArray, List.set_cons_zero, List.set_cons_succ])
        refine take_slot (i := 1) (d := 17) (v := .bool true) rfl rfl (by kernel_rfl) (by kernel_rfl) (by kernel_rfl) (fun _ _ _ h => h) (Or.inl ⟨by rfl, ?_⟩) (by assumption) ?_
        · intro w hSw
          (try dsimp only at hSw)
          go_simp
        (try simp only [Act.put, List.setIfInBounds_toArray, List.set_cons_zero, List.set_cons_succ])
        refine take_slot (i := 2) (d := 18) (v := .bool true) rfl rfl (by kernel_rfl) (by kernel_rfl) (by kernel_rfl) (fun _ _ _ h => h) (Or.inl ⟨by rfl, ?_⟩) (by assumption) ?_
        · intro w hSw
          (try dsimp only at hSw)
          go_simp
        (try simp only [Act.put, List.setIfInBounds_toArray, List.set_cons_zero, List.set_cons_succ])
        refine take_slot (i := 3) (d := 19) (v := .int .i64 n) rfl rfl (by kernel_rfl) (by kernel_rfl) (by kernel_rfl) (fun _ _ _ h => h) (Or.inl ⟨by rfl, ?_⟩) (by assumption) ?_
        · intro w hSw
          (try dsimp only at hSw)
          go_simp
        (try simp only [Act.put, List.setIfInBounds_toArray, List.set_cons_zero, List.set_cons_succ])
        refine take_slot (i := 4) (d := 20) (v := .bool false) rfl rfl (by kernel_rfl) (by kernel_rfl) (by kernel_rfl) (fun _ _ _ h => h) (Or.inl ⟨by rfl, ?_⟩) (by assumption) ?_
        · intro w hSw
          (try dsimp only at hSw)
          go_simp
        (try simp only [Act.put, List.setIfInBounds_toArray, List.set_cons_zero, List.set_cons_succ])
        refine take_slot (i := 5) (d := 21) (v := .bool false) rfl rfl (by kernel_rfl) (by kernel_rfl) (by kernel_rfl) (fun _ _ _ h => h) (Or.inl ⟨by rfl, ?_⟩) (by assumption) ?_
        · intro w hSw
          (try dsimp only at hSw)
          go_simp
        (try simp only [Act.put, List.setIfInBounds_toArray, List.set_cons_zero, List.set_cons_succ])
        refine take_slot (i := 6) (d := 22) (v := .int .i64 n) rfl rfl (by kernel_rfl) (by kernel_rfl) (by kernel_rfl) (fun _ _ _ h => h) (Or.inl ⟨by rfl, ?_⟩) (by assumption) ?_
        · intro w hSw
          (try dsimp only at hSw)
          go_simp
        (try simp only [Act.put, List.setIfInBounds_toArray, List.set_cons_zero, List.set_cons_succ])
        refine take_slot (i := 7) (d := 23) (v := .int .i64 n) rfl rfl (by kernel_rfl) (by kernel_rfl) (by kernel_rfl) (fun _ _ _ h => h) (Or.inl ⟨by rfl, ?_⟩) (by assumption) ?_
        · intro w hSw
          (try dsimp only at hSw)
          go_simp
        (try simp only [Act.put, List.setIfInBounds_toArray, List.set_cons_zero, List.set_cons_succ])
        refine take_slot (i := 9) (d := 25) (v := .agg #[.int .i64 (hiOf v), .int .u64 (loOf v)]) rfl rfl (by kernel_rfl) (by kernel_rfl) (by kernel_rfl) (fun _ _ _ h => h) (Or.inl ⟨by rfl, ?_⟩) (by assumption) ?_
        · intro w hSw
          (try dsimp only at hSw)
          go_simp
        (try simp only [Act.put, List.setIfInBounds_toArray, List.set_cons_zero, List.set_cons_succ])
        refine wpAnyH_ready (rs := [8]) (by kernel_rfl) (by simp) ?_
        refine AllReadyH.cons rfl (fun K hK => ?_) AllReadyH.nil
        go_simp
        refine (unhide MM _ (by omega) _).mono ?_
        rintro e w9 ⟨rfl, hg9⟩
        go_wp2_with fail
        refine hK.out _ _ (keep1 hg9 (by assumption)) (fun hHeld => ?_)
        clear hK K
        (try simp only [Act.put, List.setIfInBounds_toArray, List.set_cons_zero, List.set_cons_succ])
        refine wpAnyH_ready (rs := [10]) (by kernel_rfl) (by simp) ?_
        refine AllReadyH.cons rfl (fun K hK => ?_) AllReadyH.nil
        go_simp
        refine (unhide CC _ (by omega) _).mono ?_
        rintro e w9 ⟨rfl, hg9⟩
        go_wp2_with fail
        refine hK.out _ _ (keep1 hg9 (by assumption)) (fun hHeld => ?_)
        clear hK K
        (try simp only [Act.put, List.setIfInBounds_toArray, List.set_cons_zero, List.set_cons_succ])
        refine take_slot (i := 11) (d := 27) (v := .bool false) rfl rfl (by kernel_rfl) (by kernel_rfl) (by kernel_rfl) (fun _ _ _ h => h) (Or.inl ⟨by rfl, ?_⟩) (by assumption) ?_
        · intro w hSw
          (try dsimp only at hSw)
          go_simp
        (try simp only [Act.put, List.setIfInBounds_toArray, List.set_cons_zero, List.set_cons_succ])
        refine take_slot (i := 12) (d := 28) (v := .bool false) rfl rfl (by kernel_rfl) (by kernel_rfl) (by kernel_rfl) (fun _ _ _ h => h) (Or.inl ⟨by rfl, ?_⟩) (by assumption) ?_
        · intro w hSw
          (try dsimp only at hSw)
          go_simp
        (try simp only [Act.put, List.setIfInBounds_toArray, List.set_cons_zero, List.set_cons_succ])
        refine take_slot (i := 13) (d := 29) (v := .bool false) rfl rfl (by kernel_rfl) (by kernel_rfl) (by kernel_rfl) (fun _ _ _ h => h) (Or.inl ⟨by rfl, ?_⟩) (by assumption) ?_
        · intro w hSw
          (try dsimp only at hSw)
          go_simp
        (try simp only [Act.put, List.setIfInBounds_toArray, List.set_cons_zero, List.set_cons_succ])
        refine take_slot (i := 14) (d := 30) (v := .int .i64 n) rfl rfl (by kernel_rfl) (by kernel_rfl) (by kernel_rfl) (fun _ _ _ h => h) (Or.inl ⟨by rfl, ?_⟩) (by assumption) ?_
        · intro w hSw
          (try dsimp only at hSw)
          go_simp
        (try simp only [Act.put, List.setIfInBounds_toArray, List.set_cons_zero, List.set_cons_succ])
        refine take_slot (i := 15) (d := 31) (v := .bool false) rfl rfl (by kernel_rfl) (by kernel_rfl) (by kernel_rfl) (fun _ _ _ h => h) (Or.inl ⟨by rfl, ?_⟩) (by assumption) ?_
        · intro w hSw
          (try dsimp only at hSw)
          go_simp
        (try simp only [Act.put, List.setIfInBounds_toArray, List.set_cons_zero, List.set_cons_succ])
        refine take_slot (i := 16) (d := 32) (v := .bool false) rfl rfl (by kernel_rfl) (by kernel_rfl) (by kernel_rfl) (fun _ _ _ h => h) (Or.inl ⟨by rfl, ?_⟩) (by assumption) ?_
        · intro w hSw
          (try dsimp only at hSw)
          go_simp
        (try simp only [Act.put, List.setIfInBounds_toArray, List.set_cons_zero, List.set_cons_succ])
        refine take_slot (i := 17) (d := 33) (v := undef) rfl rfl (by kernel_rfl) (by kernel_rfl) (by kernel_rfl) (fun _ _ _ h => h) (Or.inr ⟨by rfl, rfl⟩) (by assumption) ?_
        (try simp only [Act.put, List.setIfInBounds_toArray, List.set_cons_zero, List.set_cons_succ])
        refine take_slot (i := 18) (d := 34) (v := undef) rfl rfl (by kernel_rfl) (by kernel_rfl) (by kernel_rfl) (fun _ _ _ h => h) (Or.inr ⟨by rfl, rfl⟩) (by assumption) ?_
        (try simp only [Act.put, List.setIfInBounds_toArray, List.set_cons_zero, List.set_cons_succ])
        refine take_slot (i := 19) (d := 35) (v := undef) rfl rfl (by kernel_rfl) (by kernel_rfl) (by kernel_rfl) (fun _ _ _ h => h) (Or.inr ⟨by rfl, rfl⟩) (by assumption) ?_
        (try simp only [Act.put, List.setIfInBounds_toArray, List.set_cons_zero, List.set_cons_succ])
        refine take_slot (i := 20) (d := 36) (v := undef) rfl rfl (by kernel_rfl) (by kernel_rfl) (by kernel_rfl) (fun _ _ _ h => h) (Or.inr ⟨by rfl, rfl⟩) (by assumption) ?_
        (try simp only [Act.put, List.setIfInBounds_toArray, List.set_cons_zero, List.set_cons_succ])
        refine take_slot (i := 21) (d := 37) (v := undef) rfl rfl (by kernel_rfl) (by kernel_rfl) (by kernel_rfl) (fun _ _ _ h => h) (Or.inr ⟨by rfl, rfl⟩) (by assumption) ?_
        (try simp only [Act.put, List.setIfInBounds_toArray, List.set_cons_zero, List.set_cons_succ])
        refine take_slot (i := 22) (d := 38) (v := undef) rfl rfl (by kernel_rfl) (by kernel_rfl) (by kernel_rfl) (fun _ _ _ h => h) (Or.inr ⟨by rfl, rfl⟩) (by assumption) ?_
        (try simp only [Act.put, List.setIfInBounds_toArray, List.set_cons_zero, List.set_cons_succ])
        refine take_slot (i := 23) (d := 39) (v := undef) rfl rfl (by kernel_rfl) (by kernel_rfl) (by kernel_rfl) (fun _ _ _ h => h) (Or.inr ⟨by rfl, rfl⟩) (by assumption) ?_
        (try simp only [Act.put, List.setIfInBounds_toArray, List.set_cons_zero, List.set_cons_succ])
        refine take_slot (i := 24) (d := 40) (v := undef) rfl rfl (by kernel_rfl) (by kernel_rfl) (by kernel_rfl) (fun _ _ _ h => h) (Or.inr ⟨by rfl, rfl⟩) (by assumption) ?_
        (try simp only [Act.put, List.setIfInBounds_toArray, List.set_cons_zero, List.set_cons_succ])
        refine take_slot (i := 25) (d := 41) (v := .bool false) rfl rfl (by kernel_rfl) (by kernel_rfl) (by kernel_rfl) (fun _ _ _ h => h) (Or.inl ⟨by rfl, ?_⟩) (by assumption) ?_
        · intro w hSw
          (try dsimp only at hSw)
          go_simp
        (try simp only [Act.put, List.setIfInBounds_toArray, List.set_cons_zero, List.set_cons_succ])
        refine take_slot (i := 26) (d := 42) (v := .bool false) rfl rfl (by kernel_rfl) (by kernel_rfl) (by kernel_rfl) (fun _ _ _ h => h) (Or.inl ⟨by rfl, ?_⟩) (by assumption) ?_
        · intro w hSw
          (try dsimp only at hSw)
          go_simp
        (try simp only [Act.put, List.setIfInBounds_toArray, List.set_cons_zero, List.set_cons_succ])
        refine take_slot (i := 27) (d := 43) (v := .bool false) rfl rfl (by kernel_rfl) (by kernel_rfl) (by kernel_rfl) (fun _ _ _ h => h) (Or.inl ⟨by rfl, ?_⟩) (by assumption) ?_
        · intro w hSw
          (try dsimp only at hSw)
          go_simp
        (try simp only [Act.put, List.setIfInBounds_toArray, List.set_cons_zero, List.set_cons_succ])
        refine wpAnyH_done (by kernel_rfl) (NoPanic.normal ?_) _
        go_wp2_with fail
        go_meet
        exact ⟨rfl, keep1 (Grown.refl w9) (by assumption)⟩
    · go_quiet (fail)
      go_wp2_with fail
      go_meet
      exact ⟨rfl, by simp [go_sem, *], by simp [go_sem, *], Grown.drew g2⟩
  case rest =>
  obtain ⟨rfl, b0, b1, g3⟩ := hcut
  clear a20 a21 g2
  go_upto_region 5 with fail
  go_cut [56] (fun s wx => s = .bool false ∧ Grown w wx)
  case first =>
    have hval := unhide HL
    unfold val at hval
    have hl := loOf_U64 v
    unfold U64 at hl
    rcases unhide HC with ⟨rfl, n0, n1, n2, n3⟩ | ⟨rfl, n0 | n0⟩
    · clear n2 n3 hval
      go_quiet (fail)
      go_wp2_with fail
      go_meet
      exact ⟨rfl, Grown.drew g3⟩
    · have d1 : decide (0 ≤ hiOf v) = false := by simp; omega
      clear hval n0 hl
      go_quiet (fail)
      go_wp2_with fail
      go_meet
      exact ⟨rfl, Grown.drew g3⟩
    · have d1 : decide (0 ≤ hiOf v) = true := by simp; omega
      have MM := hide (fun w => wideMul 9223372036854775807 9223372036854775807 (by unfold I64; omega) (by unfold I64; omega) w)
      rw [show (9223372036854775807 : Int) * 9223372036854775807 = 85070591730234615847396907784232501249 from by omega] at MM
      have CC := hide (fun w => cmpV v 85070591730234615847396907784232501249 w)
      rw [unhide HV, wrapW_in 85070591730234615847396907784232501249 (by omega), cmpI_gt _ _ n0] at CC
      clear hval n0 hl
      go_region_held3 (fun w' => w'.cell? ⟨w.heap.size, 0, none⟩ = some (.int .i64 (hiOf v)) ∧ w'.cell? ⟨w.heap.size, 1, none⟩ = some (.int .u64 (loOf v)) ∧ Grown w w')
        (first | exact keep1 hg9 (by assumption) | exact ⟨b0, b1, Grown.drew g3⟩)
        (first
          | (go_at_call 16; refine (unhide MM _).mono ?_; rintro e w9 ⟨rfl, hg9⟩)
          | (go_at_call 18; refine (unhide CC _).mono ?_; rintro e w9 ⟨rfl, hg9⟩))
      go_wp2_with fail
      go_meet
      exact ⟨rfl, (keep1 (Grown.refl w9) (by assumption)).2.2⟩
  case rest =>
  obtain ⟨rfl, g4⟩ := hcut
  clear b0 b1 g3 HC HL HV
  unfold I64 at hm
  by_cases c1 : m < -9223372036854775807
  · go_wp2
    go_ret
    exact ⟨rfl, g4⟩
  · have M := hide (fun w => wideMul m m (by unfold I64; omega) (by unfold I64; omega) w)
    have P3 := hide (unhide P2 (by omega))
    have c2 : -9223372036854775807 ≤ m := by omega
    clear P2 c1
    rcases hk with ⟨m0, rfl⟩ | ⟨m0, rfl⟩
    · go_wp2_with fail
      refine (unhide M _).mono ?_
      rintro e w5 ⟨rfl, hg5⟩
      go_wp2_with fail
      refine (unhide P3 _).mono ?_
      rintro e w6 ⟨rfl, hg6⟩
      go_wp2
      go_ret
      exact ⟨rfl, gtrans g4 (gtrans hg5 hg6)⟩
    · have d1 : (-m == m) = false := by simp; omega
      have d2 : decide (m ≤ 0) = true := by simp; omega
      go_wp2_with fail
      refine (unhide M _).mono ?_
      rintro e w5 ⟨rfl, hg5⟩
      go_wp2_with fail
      refine (unhide P3 _).mono ?_
      rintro e w6 ⟨rfl, hg6⟩
      go_wp2
      go_ret
      exact ⟨rfl, gtrans g4 (gtrans hg5 hg6)⟩

theorem lawRootWhole (h l m : Int) (hh : I64 h) (hl : U64 l) (hm : I64 m) (w : World) :
    Calls Try.prog 5 #[.agg #[.int .i64 h, .int .u64 l], .int .i64 m] w fun e w' => e = .returned (.bool true) ∧ Grown w w' := by
  have hr := val_range h l hh hl
  obtain ⟨v, rfl, rfl, hv⟩ := as_val h l hh hl
  have P1 := hide (fun w => rootWhole v w)
  rw [hv] at P1
  rw [val_of, hv] at hr
  have hc : (whE v = 0 ∧ 0 ≤ whN v ∧ whN v ≤ 9223372036854775807 ∧ whN v * whN v ≤ v ∧ v < (whN v + 1) * (whN v + 1)) ∨ (whE v = 2 ∧ (v < 0 ∨ 85070591730234615847396907784232501249 < v)) := by
    by_cases c : 0 ≤ v ∧ v < 85070591730234615865843651857942052864
    · have g := wh_good v c
      have r := rt_lt63 v c.1 c.2
      obtain ⟨r0, r1, r2⟩ := rt_is v c.1
      rw [g.1, g.2]
      exact Or.inl ⟨rfl, r0, by omega, r1, r2⟩
    · have g := wh_bad v c
      exact Or.inr ⟨g.2, by omega⟩
  obtain ⟨k, hk⟩ : ∃ k, (0 ≤ m ∧ k = m) ∨ (m < 0 ∧ k = -m) := by
    by_cases c : m < 0
    · exact ⟨-m, Or.inr ⟨c, rfl⟩⟩
    · exact ⟨m, Or.inl ⟨by omega, rfl⟩⟩
  have P2 : Hid (-9223372036854775807 ≤ m → ∀ w, Calls Try.prog 8 #[.agg #[.int .i64 (hiOf (m * m)), .int .u64 (loOf (m * m))]] w fun e w' => e = .returned (.tuple #[.int .i64 k, .int .i64 0]) ∧ Grown w w') := by
    refine hide (fun hm2 w => ?_)
    have fx : Fx m := by unfold I64 at hm; unfold Fx; omega
    have q := rootWhole (m * m) w
    have pr := prod_range m m fx fx
    have k0 : 0 ≤ k := by omega
    have e : m * m = k * k := by
      rcases hk with ⟨-, rfl⟩ | ⟨-, rfl⟩
      · rfl
      · grind
    have s := Int.mul_nonneg k0 k0
    have g := wh_good (m * m) (by omega)
    rw [wrapW_in (m * m) (by omega), g.1, g.2] at q
    rw [show rt (m * m) = k from by rw [e]; exact rt_sq k k0] at q
    exact q
  exact lawRootWhole_core v m (whN v) (whE v) k hv hm w hc hk (hide fun w => lawRootKnown w) P1 P2

end Go.Proofs.Yticaiccocfoinaa
