/- The walk of TextKnown: the chapter's examples. -/
import Derived.Test.YtnelkhmahmoclaaGreatDoorTextG
namespace Go.Proofs.YtnelkhmahmoclaaGreatDoor
open Go.RowKit Go.Proofs.Wd
set_option linter.unusedVariables false
set_option linter.unusedSimpArgs false
set_option maxRecDepth 10000

def knZ : Nat → Int := fun i => [4294967296, -10737418240].getD i 0
def KnI (w : World) (ao : Option Addr) (B1 B2 : Nat) (wr : World) : Prop := Row wr ao 2 knZ ∧ Blk B1 #[.int .i64 0, .int .i64 0] 33 wr ∧ Blk B2 #[.int .i64 5, .int .i64 2] 33 wr ∧ Kp w wr
theorem KnI.kp {w : World} {ao : Option Addr} {B1 B2 : Nat} {wr wr' : World} (h : KnI w ao B1 B2 wr) (k : Kp wr wr') : KnI w ao B1 B2 wr' := ⟨h.1.kp k, Blk.kp h.2.1 k, Blk.kp h.2.2.1 k, h.2.2.2.trans k⟩
theorem known1 : listR [49, 32, 45, 50, 46, 53] = ([4294967296, -10737418240], 0, 0) := by decide +kernel
theorem known2 : listR [49, 32, 32, 50] = ([], 5, 2) := by decide +kernel
theorem put_1 : putL 1 = [48, 46, 48, 48, 48, 48, 48, 48, 48, 48, 48, 50, 51, 50, 56, 51, 48, 54, 52, 51, 54, 53, 51, 56, 54, 57, 54, 50, 56, 57, 48, 54, 50, 53] := by
  unfold putL absF
  rw [wholeL_lt _ (by decide)]
  decide +kernel
theorem put_0 : putL 0 = [48] := by
  unfold putL absF
  rw [wholeL_lt _ (by decide)]
  decide +kernel

set_option maxRecDepth 20000 in
set_option maxHeartbeats 4000000 in
theorem lawTextKnown (w : World) : Calls Tryz.prog 5 #[] w fun e w' => e = .returned (.bool true) ∧ Kp w w' := by
  have L1 := hide (fun w => textListT ⟨#[49, 32, 45, 50, 46, 53]⟩ (by decide) w)
  have L2 := hide (fun w => textListT ⟨#[49, 32, 32, 50]⟩ (by decide) w)
  rw [show (⟨#[49, 32, 45, 50, 46, 53]⟩ : ByteArray).data.toList = [49, 32, 45, 50, 46, 53] from rfl, known1] at L1
  rw [show (⟨#[49, 32, 32, 50]⟩ : ByteArray).data.toList = [49, 32, 32, 50] from rfl, known2] at L2
  have P1 := hide (fun w => textPutT 1 (by unfold I64; omega) w)
  have P0 := hide (fun w => textPutT 0 (by unfold I64; omega) w)
  rw [put_1] at P1
  rw [put_0] at P0
  have G1 := hide (fun w => lawGets ⟨#[45, 48, 46, 50, 53]⟩ (-1073741824) 0 (by decide) (by decide +kernel) w)
  have G2 := hide (fun w => lawGets ⟨#[50, 49, 52, 55, 52, 56, 51, 54, 52, 56]⟩ 9223372036854775807 0 (by decide) (by decide +kernel) w)
  have G3 := hide (fun w => lawGets ⟨#[48, 46, 48, 48, 48, 48, 48, 48, 48, 48, 48, 49, 49, 54, 52, 49, 53, 51, 50, 49, 56, 50, 54, 57, 51, 52, 56, 49, 52, 52, 53, 51, 49, 50]⟩ 0 0 (by decide) (by decide +kernel) w)
  have G4 := hide (fun w => lawGets ⟨#[48, 46, 48, 48, 48, 48, 48, 48, 48, 48, 48, 49, 49, 54, 52, 49, 53, 51, 50, 49, 56, 50, 54, 57, 51, 52, 56, 49, 52, 52, 53, 51, 49, 51]⟩ 1 0 (by decide) (by decide +kernel) w)
  have G5 := hide (fun w => lawGets ⟨#[49, 46]⟩ 0 5 (by decide) (by decide +kernel) w)
  have G6 := hide (fun w => lawGets ⟨#[45]⟩ 0 5 (by decide) (by decide +kernel) w)
  have G7 := hide (fun w => lawGets ⟨#[50, 49, 52, 55, 52, 56, 51, 54, 52, 57]⟩ 0 4 (by decide) (by decide +kernel) w)
  go_enter Tryz.func5, Tryz.ntmps5
  go_wp2_with fail
  refine (unhide L1 _).mono ?_
  rintro e w1 hp
  obtain ⟨ao, cap, rfl, r1, f1, k1⟩ := hp
  simp only [List.length_cons, List.length_nil, Nat.zero_add, Nat.reduceAdd] at r1 ⊢
  have R1 : Hid (Row w1 ao 2 knZ) := r1
  have K1 := hide k1
  clear r1 f1 k1 L1
  go_wp2_with fail
  refine (unhide L2 _).mono ?_
  rintro e w2 hp
  obtain ⟨ao2, cap2, rfl, -, -, k2⟩ := hp
  simp only [List.length_nil] at ⊢
  have ga : Grown w1 (w1.alloc (.cells #[.int .i64 0, .int .i64 0] 33)) := (Grown.refl _).alloc _ _
  have gb : Grown w2 (w2.alloc (.cells #[.int .i64 5, .int .i64 2] 33)) := (Grown.refl _).alloc _ _
  have S2 : Hid (KnI w ao w1.heap.size w2.heap.size (w2.alloc (.cells #[.int .i64 5, .int .i64 2] 33))) :=
    ⟨(((unhide R1).grown ga).kp k2).grown gb, Blk.grown (Blk.kp (heap_alloc_new w1 _) k2) gb, heap_alloc_new w2 _, (((unhide K1).grown ga).trans k2).grown gb⟩
  clear ga gb k2 R1 K1 L2
  go_wp2_with fail
  refine (unhide P1 _).mono ?_
  rintro e w3 ⟨rfl, k3⟩
  have S3 := hide ((unhide S2).kp k3)
  clear k3 S2 P1
  generalize w1.heap.size = B1 at *
  generalize w2.heap.size = B2 at *
  go_wp2_with fail
  refine (unhide P0 _).mono ?_
  rintro e w4 ⟨rfl, k4⟩
  have S4 := hide ((unhide S3).kp k4)
  clear k4 S3 P0
  go_wp2_with fail
  refine (unhide G1 _).mono ?_
  rintro e w5 ⟨rfl, k5⟩
  have S5 := hide ((unhide S4).kp k5)
  clear k5 S4 G1
  go_wp2_with fail
  refine (unhide G2 _).mono ?_
  rintro e w6 ⟨rfl, k6⟩
  have S6 := hide ((unhide S5).kp k6)
  clear k6 S5 G2
  go_wp2_with fail
  refine (unhide G3 _).mono ?_
  rintro e w7 ⟨rfl, k7⟩
  have S7 := hide ((unhide S6).kp k7)
  clear k7 S6 G3
  go_wp2_with fail
  refine (unhide G4 _).mono ?_
  rintro e w8 ⟨rfl, k8⟩
  have S8 := hide ((unhide S7).kp k8)
  clear k8 S7 G4
  go_wp2_with fail
  refine (unhide G5 _).mono ?_
  rintro e w9 ⟨rfl, k9⟩
  have S9 := hide ((unhide S8).kp k9)
  clear k9 S8 G5
  go_wp2_with fail
  refine (unhide G6 _).mono ?_
  rintro e w10 ⟨rfl, k10⟩
  have S10 := hide ((unhide S9).kp k10)
  clear k10 S9 G6
  go_wp2_with fail
  refine (unhide G7 _).mono ?_
  rintro e w11 ⟨rfl, k11⟩
  have S11 := hide ((unhide S10).kp k11)
  clear k11 S10 G7
  go_wp2_with fail
  refine (lawAwake _).mono ?_
  rintro e w12 ⟨rfl, k12⟩
  have S12 := hide ((unhide S11).kp k12)
  clear k12 S11
  have a0 : w12.cell? ⟨B1, 0, none⟩ = some (.int .i64 0) := Blk.cell (unhide S12).2.1 0
  have a1 : w12.cell? ⟨B1, 1, none⟩ = some (.int .i64 0) := Blk.cell (unhide S12).2.1 1
  go_wp2_with fail
  have gc : Grown w12 (w12.alloc (.cells #[.int .i64 4294967296, .int .i64 (-10737418240)] 3)) := (Grown.refl _).alloc _ _
  have rb : Row (w12.alloc (.cells #[.int .i64 4294967296, .int .i64 (-10737418240)] 3)) (some ⟨w12.heap.size, 0, none⟩) 2 knZ := by
    refine Or.inr ⟨w12.heap.size, 0, rfl, fun i hi => ?_⟩
    have hb := Blk.cell (heap_alloc_new w12 (.cells #[.int .i64 4294967296, .int .i64 (-10737418240)] 3)) (0 + i)
    rw [hb]
    match i, hi with
    | 0, _ => rfl
    | 1, _ => rfl
  refine (kitSameQ ao (some ⟨w12.heap.size, 0, none⟩) 2 cap 2 knZ (by omega) _ ((unhide S12).1.grown gc) rb).mono ?_
  rintro e w13 ⟨rfl, m, rfl⟩
  have S13 := hide ((unhide S12).kp (Kp.of gc))
  have b0 : ((w12.alloc (.cells #[.int .i64 4294967296, .int .i64 (-10737418240)] 3)).drewN m).cell? ⟨B2, 0, none⟩ = some (.int .i64 5) := Blk.cell (unhide S13).2.2.1 0
  have b1 : ((w12.alloc (.cells #[.int .i64 4294967296, .int .i64 (-10737418240)] 3)).drewN m).cell? ⟨B2, 1, none⟩ = some (.int .i64 2) := Blk.cell (unhide S13).2.2.1 1
  have KK : Hid (Kp w ((w12.alloc (.cells #[.int .i64 4294967296, .int .i64 (-10737418240)] 3)).drewN m)) := (unhide S13).2.2.2
  clear S12 S13 a0 a1 gc rb
  generalize (w12.alloc (.cells #[.int .i64 4294967296, .int .i64 (-10737418240)] 3)).drewN m = wz at *
  go_wp2
  go_ret
  exact ⟨rfl, unhide KK⟩
end Go.Proofs.YtnelkhmahmoclaaGreatDoor
