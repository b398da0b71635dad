/- VecNone. -/
import Derived.Test.YtmdclpjbpkfckaaVecF
namespace Go.Proofs.Ytmdclpjbpkfckaa
open Go.RowKit Go.Proofs.Wd
set_option linter.unusedVariables false
set_option linter.unusedSimpArgs false

/-- The two that are no units, and the list of them. -/
def NS (w : World) (U : Nat) (wx : World) : Prop := NB U false wx ∧ Blk (U + 1) #[.pointer none, .pointer (some ⟨U, 0, none⟩)] 23 wx ∧ Kp w wx
theorem NS.grown {w : World} {U : Nat} {wx w' : World} (h : NS w U wx) (g : Grown wx w') : NS w U w' := ⟨Blk.grown h.1 g, Blk.grown h.2.1 g, h.2.2.grown g⟩
theorem NS.at {w : World} {U : Nat} {wx : World} (h : NS w U wx) (k : Nat) (hk : k < 2) : ∃ p, wx.cell? ⟨U + 1, k, none⟩ = some (.pointer p) ∧ NU p wx ∧ (k = 0 → p = none) ∧ (k = 1 → p = some ⟨U, 0, none⟩) := by
  rcases (show k = 0 ∨ k = 1 by omega) with rfl | rfl
  · exact ⟨none, Blk.cell h.2.1 0, Or.inl rfl, fun _ => rfl, fun h => by omega⟩
  · exact ⟨_, Blk.cell h.2.1 1, Or.inr ⟨U, false, rfl, h.1⟩, fun h => by omega, fun _ => rfl⟩

set_option maxRecDepth 20000 in
set_option maxHeartbeats 4000000 in
theorem lawVecNone (ao bo : Option Addr) (l1 c1 l2 c2 : Nat) (le1 : l1 ≤ c1) (le2 : l2 ≤ c2) (lm1 : c1 ≤ 9223372036854775807) (lm2 : c2 ≤ 9223372036854775807) (w : World) :
    Calls Try.prog 4 #[.slice ao l1 c1, .slice bo l2 c2] w fun e w' => e = .returned (.bool true) ∧ Kp w w' := by
  go_enter Try.func4, Try.ntmps4
  by_cases hb1 : l1 ≤ 150
  · by_cases hb2 : l2 ≤ 150
    · have S0 : Hid (NS w w.heap.size ((w.alloc (.cells #[.bool false, .bool false, .int .i64 0] 48)).alloc (.cells #[.pointer none, .pointer (some ⟨w.heap.size, 0, none⟩)] 23))) :=
        ⟨Blk.grown (Blk.new w _ _) ((Grown.refl _).alloc _ _), blk_new2 _ _ _ _, ((Kp.refl w).alloc _ _).alloc _ _⟩
      go_wp2_with fail
      generalize (w.alloc (.cells #[.bool false, .bool false, .int .i64 0] 48)).alloc (.cells #[.pointer none, .pointer (some ⟨w.heap.size, 0, none⟩)] 23) = w0 at *
      generalize w.heap.size = U at *
      go_loopw [6] (fun i wr => ∃ k : Nat, k ≤ 2 ∧ i = .int .i64 k ∧ Hid (NS w U wr)) (fun i _ => 2 - (intOf i).toNat)
      case atStart => exact ⟨0, by omega, rfl, unhide S0⟩
      case round =>
        obtain ⟨k, hk, rfl, HI⟩ := hrel
        by_cases hlt : k < 2
        · obtain ⟨p, cp, np, e0, e1⟩ := (unhide HI).at k hlt
          have NP := hide np
          clear np S0 e0 e1
          go_wp2_with fail
          refine (vecSum_none p ao bo l1 c1 l2 c2 wr (unhide NP)).mono ?_
          rintro e w1 ⟨rfl, g1⟩
          have cp1 := gat g1 cp
          have S1 : Hid (NS w U w1 ∧ NU p w1) := ⟨(unhide HI).grown g1, (unhide NP).grown g1⟩
          clear g1 cp NP HI
          go_wp2_with fail
          refine (vecLess_none p ao bo l1 c1 l2 c2 w1 (unhide S1).2).mono ?_
          rintro e w2 ⟨rfl, rfl⟩
          go_wp2_with fail
          refine (vecScale_none p 4294967296 ao l1 c1 (by omega) w2 (unhide S1).2).mono ?_
          rintro e w3 ⟨rfl, g3⟩
          have cp3 := gat g3 cp1
          have S3 : Hid (NS w U w3 ∧ NU p w3) := ⟨(unhide S1).1.grown g3, (unhide S1).2.grown g3⟩
          clear g3 cp1 S1
          go_wp2_with fail
          refine (vecDot_of _ _ _ (fun _ w' => w' = w3) 0 1 w3 (noneDot p ao bo l1 c1 l2 c2 w3 (unhide S3).2)).mono ?_
          rintro e w4 ⟨rfl, rfl⟩
          go_wp2_with fail
          refine (vecMost_none p ao l1 c1 w4 (unhide S3).2).mono ?_
          rintro e w5 ⟨rfl, rfl⟩
          go_wp2
          go_roundw
          case rel => exact ⟨k + 1, by omega, by go_num, (unhide S3).1⟩
          case measure => simp [intOf]; omega
        · obtain rfl : k = 2 := by omega
          go_wp2_with fail
          refine (lawVecAwake wr).mono ?_
          rintro e w1 ⟨rfl, k1⟩
          have K1 := hide ((unhide HI).2.2.trans k1)
          clear k1
          go_wp2
          go_ret
          exact ⟨rfl, unhide K1⟩
    · have hb2' : ((150 : Int) < (l2 : Int)) := by omega
      go_wp2_with fail
      refine (lawVecAwake w).mono ?_
      rintro e w1 ⟨rfl, k1⟩
      have K1 := hide k1
      clear k1
      go_wp2
      go_ret
      exact ⟨rfl, unhide K1⟩
  · have hb1' : ((150 : Int) < (l1 : Int)) := by omega
    go_wp2_with fail
    refine (lawVecAwake w).mono ?_
    rintro e w1 ⟨rfl, k1⟩
    have K1 := hide k1
    clear k1
    go_wp2
    go_ret
    exact ⟨rfl, unhide K1⟩

end Go.Proofs.Ytmdclpjbpkfckaa
