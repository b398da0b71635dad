/- The law's helper like. -/
import Derived.Test.YtmdclpjbpkfckaaVecO
import Derived.Deep.QuietTactic
import Derived.BigQuiet
namespace Go.Proofs.Ytmdclpjbpkfckaa
open Go.RowKit Go.Proofs.Wd
set_option linter.unusedVariables false
set_option linter.unusedSimpArgs false

set_option maxRecDepth 20000 in
set_option maxHeartbeats 4000000 in
theorem vecLike (U R B : Nat) (c : Bool) (n : Int) (ao bo : Option Addr) (len ca cb : Nat) (X : Nat → Int) (e : Int) (hl : len ≤ 1000000) (w : World) (hU : UC U c n w) (hR : RC R c n w) (hA : len = 0 ∨ (ao = some ⟨B, 0, none⟩ ∧ Blk B (ints len X) 3 w)) (hra : Row w ao len X) (hrb : Row w bo len X) :
    Calls Try.prog 15 #[.agg #[.pointer (some ⟨U, 0, none⟩), .pointer (some ⟨R, 0, none⟩)], .slice ao len ca, .int .i64 e, .slice bo len cb, .int .i64 e] w fun e' w' => e' = .returned (.bool true) ∧ Mod B w w' := by
  have G : Grown w (w.alloc (.cells #[.pointer (some ⟨U, 0, none⟩), .pointer (some ⟨R, 0, none⟩)] 29)) := (Grown.refl _).alloc _ _
  have d0 : (w.alloc (.cells #[.pointer (some ⟨U, 0, none⟩), .pointer (some ⟨R, 0, none⟩)] 29)).cell? ⟨w.heap.size, 0, none⟩ = some (.pointer (some ⟨U, 0, none⟩)) := Blk.cell (Blk.new w _ _) 0
  have d1 : (w.alloc (.cells #[.pointer (some ⟨U, 0, none⟩), .pointer (some ⟨R, 0, none⟩)] 29)).cell? ⟨w.heap.size, 1, none⟩ = some (.pointer (some ⟨R, 0, none⟩)) := Blk.cell (Blk.new w _ _) 1
  have S : Hid (UC U c n (w.alloc (.cells #[.pointer (some ⟨U, 0, none⟩), .pointer (some ⟨R, 0, none⟩)] 29)) ∧ (len = 0 ∨ (ao = some ⟨B, 0, none⟩ ∧ Blk B (ints len X) 3 (w.alloc (.cells #[.pointer (some ⟨U, 0, none⟩), .pointer (some ⟨R, 0, none⟩)] 29)))) ∧ Row (w.alloc (.cells #[.pointer (some ⟨U, 0, none⟩), .pointer (some ⟨R, 0, none⟩)] 29)) ao len X ∧ Row (w.alloc (.cells #[.pointer (some ⟨U, 0, none⟩), .pointer (some ⟨R, 0, none⟩)] 29)) bo len X ∧ Mod B w (w.alloc (.cells #[.pointer (some ⟨U, 0, none⟩), .pointer (some ⟨R, 0, none⟩)] 29))) :=
    ⟨Blk.grown hU G, hA.imp id (fun h => ⟨h.1, Blk.grown h.2 G⟩), hra.grown G, hrb.grown G, Mod.of G⟩
  have hR1 := Blk.grown hR G
  have r0 := RC.c0 hR1
  have r1 := RC.c1 hR1
  clear hU hR hA hra hrb G hR1
  go_enter Try.func15, Try.ntmps15
  go_wp2_with fail
  generalize w.alloc (.cells #[.pointer (some ⟨U, 0, none⟩), .pointer (some ⟨R, 0, none⟩)] 29) = w1 at *
  generalize w.heap.size = bx at *
  go_quiet (first
    | (go_at_call 26; exact Calls.quiet_of_same (unitCut U _ _ _ (by exact (unhide S).1)))
    | (go_at_call 32; exact Calls.quiet_of_same (unitCount U _ _ _ (by exact (unhide S).1)))
    | (go_at_call 24; exact Calls.quiet_of (kitSameQ _ _ _ _ _ X hl _ (by exact (unhide S).2.2.1) (by exact (unhide S).2.2.2.1))))
  go_wp2_with fail
  refine (kitOverM B ao len ca X hl _ (by exact (unhide S).2.1)).mono ?_
  rintro e' w3 ⟨rfl, m3⟩
  have M : Hid (Mod B w w3) := (unhide S).2.2.2.2.trans m3
  clear m3
  go_wp2
  go_ret
  exact ⟨rfl, unhide M⟩

end Go.Proofs.Ytmdclpjbpkfckaa
