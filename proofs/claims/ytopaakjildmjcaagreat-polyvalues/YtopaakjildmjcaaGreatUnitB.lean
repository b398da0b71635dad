/- What the operations of package unit do: sums and products of lists, and the single ones. -/
import Derived.Test.YtopaakjildmjcaaGreatUnitA
import Derived.Shelf.Abstract
namespace Go.Proofs.YtopaakjildmjcaaGreat
open Go.RowKit Go.Proofs.Wd
set_option linter.unusedVariables false
set_option linter.unusedSimpArgs false
set_option maxRecDepth 10000

set_option maxHeartbeats 1000000 in
theorem unitThrough (U : Nat) (c : Bool) (n s : Int) (f : Int → Int → Int) (g : Int → Int → Bool) (F : Nat) (eF : ∀ args w, (callFunc F args).run Tryz.prog w = .ok (.enter F args) w)
    (C : Hid (∀ a b w, I64 a → I64 b → Calls Tryz.prog F #[.int .i64 a, .int .i64 b] w fun e w' => e = .returned (.tuple #[.int .i64 (f a b), .bool (g a b)]) ∧ Grown w w'))
    (hf : Hid (∀ a b, I64 (f a b))) (hs : Hid (I64 s)) (ao : Option Addr) (len cap : Nat) (Z : Nat → Int) (hn : 0 ≤ n ∧ n < 2305843009213693952) (hl : len ≤ 1000000) (hZ : Hid (∀ i, i < len → I64 (Z i))) (w : World) (h : UC U c n w) (hr : Row w ao len Z) (ho : Off U len ao) :
    Calls Tryz.prog 92 #[.pointer (some ⟨U, 0, none⟩), .int .i64 s, .func (.func F) #[] #[], .slice ao len cap] w fun e w' =>
      e = .returned (.int .i64 (thN f s Z len)) ∧ UC U (c || thC f g s Z len) (n + len) w' ∧ Mod U w w' := by
  have H := hide h
  have HR := hide hr
  have HO := hide ho
  clear h hr ho
  obtain ⟨n0, n1⟩ := hn
  go_enter Tryz.func92, Tryz.ntmps92
  go_wp2_with fail
  refine (unitIs U c n w (unhide H)).mono ?_
  rintro e w1 ⟨rfl, rfl⟩
  go_wp2_with fail
  go_loopw [1, 15] (fun t i wr => ∃ k : Nat, k ≤ len ∧ i = .int .i64 k ∧ t = .int .i64 (thN f s Z k) ∧ Hid (UC U (c || thC f g s Z k) (n + k) wr ∧ Mod U w1 wr)) (fun _ i _ => len - (intOf i).toNat)
  case atStart => exact ⟨0, Nat.zero_le _, rfl, rfl, by show UC _ (c || false) (n + 0) _ ∧ _; rw [Bool.or_false, Int.add_zero]; exact ⟨unhide H, Mod.refl _ _⟩⟩
  case round =>
    obtain ⟨k, hk, rfl, rfl, HU⟩ := hrel
    by_cases hlt : k < len
    · obtain ⟨b, o, rfl, hc⟩ := ((unhide HR).mod (unhide HU).2 (unhide HO)).at hlt
      go_wp2_with fail
      refine (unhide C _ _ _ (thN_I64 f (unhide hf) s (unhide hs) Z k) (unhide hZ k hlt)).mono ?_
      rintro e w2 ⟨rfl, h2⟩
      go_wp2_with fail
      refine (unitNote U _ _ _ _ ⟨by omega, by omega⟩ _ (Blk.grown (unhide HU).1 h2)).mono ?_
      rintro e w3 ⟨rfl, h3, m3⟩
      have R : Hid (UC U (c || thC f g s Z (k + 1)) (n + ((k + 1 : Nat) : Int)) w3 ∧ Mod U w1 w3) := by
        refine ⟨?_, (unhide HU).2.trans ((Mod.of h2).trans m3)⟩
        show UC U (c || (thC f g s Z k || g (thN f s Z k) (Z k))) _ _
        rw [← Bool.or_assoc, show n + ((k + 1 : Nat) : Int) = n + k + 1 by omega]
        exact h3
      clear h3 m3 h2 hc
      go_wp2
      go_roundw
      case rel => exact ⟨k + 1, by omega, by go_num, rfl, R⟩
      case measure => simp [intOf]; omega
    · obtain rfl : k = len := by omega
      go_wp2
      go_ret
      exact ⟨rfl, (unhide HU).1, (unhide HU).2⟩

end Go.Proofs.YtopaakjildmjcaaGreat
