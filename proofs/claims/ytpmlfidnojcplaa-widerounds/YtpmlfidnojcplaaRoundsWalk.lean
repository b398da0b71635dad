/- What is rounded to what, and which int is the nearest: the walk of the law WideRounds. -/
import Derived.Test.YtpmlfidnojcplaaRefQuo
import Derived.Test.YtpmlfidnojcplaaDiv64
namespace Go.Proofs.Ytpmlfidnojcplaa
open Go.RowKit Go.Proofs.Wd
set_option linter.unusedVariables false
set_option linter.unusedSimpArgs false

theorem divsays_of (A d : Int) (h4 : I64 d) (hd : d ≠ 0) (hv : val (hiOf A) (loOf A) = A) (hA : wrapW A = A) :
    DivSays (mhi (absI (val (hiOf A) (loOf A))) % absI d) (loOf (absI (val (hiOf A) (loOf A)))) (absI d) := by
  have hn : 0 < absI d := by unfold absI; split <;> omega
  exact div64_all _ _ _ (Int.emod_nonneg _ (by omega)) (Int.emod_lt_of_pos _ hn) (absI_U64 d h4) (loOf_U64 _)

set_option maxHeartbeats 4000000 in
set_option maxRecDepth 100000 in
theorem lawWideRounds_core (ah al n d xh xl ph pl ex ep m : Int) (cut : Bool)
    (W1 : Hid (∀ w, Calls Try.prog 20 #[.agg #[.int .i64 ah, .int .u64 al], .int .i64 n] w fun e w' => e = .returned (.tuple #[.agg #[.int .i64 xh, .int .u64 xl], .int .i64 ex]) ∧ Grown w w'))
    (W2 : Hid (∀ w, Calls Try.prog 21 #[.agg #[.int .i64 ah, .int .u64 al], .int .i64 n] w fun e w' => e = .returned (.tuple #[.agg #[.int .i64 xh, .int .u64 xl], .int .i64 ex]) ∧ Grown w w'))
    (W3 : Hid (∀ w, Calls Try.prog 22 #[.agg #[.int .i64 ah, .int .u64 al], .int .i64 d] w fun e w' => e = .returned (.tuple #[.agg #[.int .i64 ph, .int .u64 pl], .int .i64 ep]) ∧ Grown w w'))
    (W4 : Hid (∀ w, Calls Try.prog 23 #[.agg #[.int .i64 ah, .int .u64 al], .int .i64 d] w fun e w' => e = .returned (.tuple #[.agg #[.int .i64 ph, .int .u64 pl], .int .i64 ep]) ∧ Grown w w'))
    (W5 : Hid (∀ w, Calls Try.prog 24 #[.agg #[.int .i64 ah, .int .u64 al]] w fun e w' => e = .returned (.tuple #[.int .i64 m, .bool cut]) ∧ Grown w w'))
    (W6 : Hid (∀ w, Calls Try.prog 25 #[.agg #[.int .i64 ah, .int .u64 al]] w fun e w' => e = .returned (.tuple #[.int .i64 m, .bool cut]) ∧ Grown w w')) (w : World) :
    Calls Try.prog 4 #[.agg #[.int .i64 ah, .int .u64 al], .int .i64 n, .int .i64 d] w fun e w' => e = .returned (.bool true) ∧ Grown w w' := by
  go_enter Try.func4, Try.ntmps4
  go_wp2_with fail
  refine (unhide W1 _).mono ?_
  rintro e w1 ⟨rfl, h1⟩
  obtain ⟨a10, a11⟩ := gat2 h1 (w.heap.size) (.int .i64 ah) (.int .u64 al) (by constructor <;> simp [go_sem, *])
  have g1 : Grown w w1 := gtrans (Grown.alloc (Grown.refl _) _ _) h1
  clear h1
  have la1 := heap_gt a10
  go_wp2_with fail
  refine (unhide W2 _).mono ?_
  rintro e w2 ⟨rfl, h2⟩
  obtain ⟨a20, a21⟩ := gat2 h2 (w.heap.size) (.int .i64 ah) (.int .u64 al) (by constructor <;> simp [go_sem, *])
  obtain ⟨x20, x21⟩ := gat2 h2 (w1.heap.size) (.int .i64 xh) (.int .u64 xl) (by constructor <;> simp [go_sem, *])
  have g2 : Grown w w2 := gtrans (Grown.alloc g1 _ _) h2
  clear h2 g1 a10 a11
  have la2 := heap_gt a20
  have lx2 := heap_gt x20
  go_wp2_with fail
  refine (unhide W3 _).mono ?_
  rintro e w3 ⟨rfl, h3⟩
  obtain ⟨a30, a31⟩ := gat2 h3 (w.heap.size) (.int .i64 ah) (.int .u64 al) (by constructor <;> simp [go_sem, *])
  obtain ⟨x30, x31⟩ := gat2 h3 (w1.heap.size) (.int .i64 xh) (.int .u64 xl) (by constructor <;> simp [go_sem, *])
  obtain ⟨y30, y31⟩ := gat2 h3 (w2.heap.size) (.int .i64 xh) (.int .u64 xl) (by constructor <;> simp [go_sem, *])
  have g3 : Grown w w3 := gtrans (Grown.alloc g2 _ _) h3
  clear h3 g2 a20 a21 x20 x21
  have la3 := heap_gt a30
  have lx3 := heap_gt x30
  have ly3 := heap_gt y30
  go_wp2_with fail
  refine (unhide W4 _).mono ?_
  rintro e w4 ⟨rfl, h4⟩
  obtain ⟨a40, a41⟩ := gat2 h4 (w.heap.size) (.int .i64 ah) (.int .u64 al) (by constructor <;> simp [go_sem, *])
  obtain ⟨x40, x41⟩ := gat2 h4 (w1.heap.size) (.int .i64 xh) (.int .u64 xl) (by constructor <;> simp [go_sem, *])
  obtain ⟨y40, y41⟩ := gat2 h4 (w2.heap.size) (.int .i64 xh) (.int .u64 xl) (by constructor <;> simp [go_sem, *])
  obtain ⟨p40, p41⟩ := gat2 h4 (w3.heap.size) (.int .i64 ph) (.int .u64 pl) (by constructor <;> simp [go_sem, *])
  have g4 : Grown w w4 := gtrans (Grown.alloc g3 _ _) h4
  clear h4 g3 a30 a31 x30 x31 y30 y31
  have la4 := heap_gt a40
  have lx4 := heap_gt x40
  have ly4 := heap_gt y40
  have lp4 := heap_gt p40
  go_wp2_with fail
  refine (unhide W5 _).mono ?_
  rintro e w5 ⟨rfl, h5⟩
  obtain ⟨a50, a51⟩ := gat2 h5 (w.heap.size) (.int .i64 ah) (.int .u64 al) (by constructor <;> simp [go_sem, *])
  obtain ⟨x50, x51⟩ := gat2 h5 (w1.heap.size) (.int .i64 xh) (.int .u64 xl) (by constructor <;> simp [go_sem, *])
  obtain ⟨y50, y51⟩ := gat2 h5 (w2.heap.size) (.int .i64 xh) (.int .u64 xl) (by constructor <;> simp [go_sem, *])
  obtain ⟨p50, p51⟩ := gat2 h5 (w3.heap.size) (.int .i64 ph) (.int .u64 pl) (by constructor <;> simp [go_sem, *])
  obtain ⟨q50, q51⟩ := gat2 h5 (w4.heap.size) (.int .i64 ph) (.int .u64 pl) (by constructor <;> simp [go_sem, *])
  have g5 : Grown w w5 := gtrans (Grown.alloc g4 _ _) h5
  clear h5 g4 a40 a41 x40 x41 y40 y41 p40 p41
  have la5 := heap_gt a50
  have lx5 := heap_gt x50
  have ly5 := heap_gt y50
  have lp5 := heap_gt p50
  have lq5 := heap_gt q50
  go_wp2_with fail
  refine (unhide W6 _).mono ?_
  rintro e w6 ⟨rfl, h6⟩
  obtain ⟨a60, a61⟩ := gat2 h6 (w.heap.size) (.int .i64 ah) (.int .u64 al) (by constructor <;> simp [go_sem, *])
  obtain ⟨x60, x61⟩ := gat2 h6 (w1.heap.size) (.int .i64 xh) (.int .u64 xl) (by constructor <;> simp [go_sem, *])
  obtain ⟨y60, y61⟩ := gat2 h6 (w2.heap.size) (.int .i64 xh) (.int .u64 xl) (by constructor <;> simp [go_sem, *])
  obtain ⟨p60, p61⟩ := gat2 h6 (w3.heap.size) (.int .i64 ph) (.int .u64 pl) (by constructor <;> simp [go_sem, *])
  obtain ⟨q60, q61⟩ := gat2 h6 (w4.heap.size) (.int .i64 ph) (.int .u64 pl) (by constructor <;> simp [go_sem, *])
  have g6 : Grown w w6 := gtrans (g5) h6
  clear h6 g5 a50 a51 x50 x51 y50 y51 p50 p51 q50 q51
  have la6 := heap_gt a60
  have lx6 := heap_gt x60
  have ly6 := heap_gt y60
  have lp6 := heap_gt p60
  have lq6 := heap_gt q60
  go_wp2_with fail
  refine (lawAwake _).mono ?_
  rintro e w7 ⟨rfl, h7⟩
  go_wp2
  go_ret
  exact ⟨rfl, gtrans g6 h7⟩

theorem lawWideRounds (ah al n d : Int) (h1 : I64 ah) (h2 : U64 al) (h3 : I64 n) (h4 : I64 d) (w : World) :
    Calls Try.prog 4 #[.agg #[.int .i64 ah, .int .u64 al], .int .i64 n, .int .i64 d] w fun e w' => e = .returned (.bool true) ∧ Grown w w' := by
  obtain ⟨A, rfl, rfl, hA⟩ := as_val ah al h1 h2
  have hv : val (hiOf A) (loOf A) = A := by rw [val_of, hA]
  have F5 := hide (fun w => wideFit (hiOf A) (loOf A) h1 h2 w)
  have F6 := hide (fun w => refFit (hiOf A) (loOf A) h1 h2 w)
  by_cases c1 : 0 ≤ n ∧ n ≤ 127
  · have R1 := hide (fun w => wideRound (hiOf A) (loOf A) n h1 h2 c1.1 c1.2 w)
    rw [hv] at R1
    have R2 := hide (fun w => refRound A n hA c1.1 c1.2 w)
    by_cases c2 : d = 0
    · subst c2
      exact lawWideRounds_core _ _ n 0 _ _ _ _ _ _ _ _ R1 R2 (hide (fun w => wideDiv_bad (hiOf A) (loOf A) w)) (hide (fun w => refDiv_bad (hiOf A) (loOf A) w)) F5 F6 w
    · have D1 := hide (fun w => wideDiv (hiOf A) (loOf A) d h1 h2 h4 c2 (divsays_of A d h4 c2 hv hA) w)
      rw [hv] at D1
      exact lawWideRounds_core _ _ n d _ _ _ _ _ _ _ _ R1 R2 D1 (hide (fun w => refDiv A d hA h4 c2 w)) F5 F6 w
  · have R1 := hide (fun w => wideRound_bad (hiOf A) (loOf A) n (by omega) w)
    have R2 := hide (fun w => refRound_bad (hiOf A) (loOf A) n (by omega) w)
    by_cases c2 : d = 0
    · subst c2
      exact lawWideRounds_core _ _ n 0 _ _ _ _ _ _ _ _ R1 R2 (hide (fun w => wideDiv_bad (hiOf A) (loOf A) w)) (hide (fun w => refDiv_bad (hiOf A) (loOf A) w)) F5 F6 w
    · have D1 := hide (fun w => wideDiv (hiOf A) (loOf A) d h1 h2 h4 c2 (divsays_of A d h4 c2 hv hA) w)
      rw [hv] at D1
      exact lawWideRounds_core _ _ n d _ _ _ _ _ _ _ _ R1 R2 D1 (hide (fun w => refDiv A d hA h4 c2 w)) F5 F6 w

end Go.Proofs.Ytpmlfidnojcplaa
