/- What wide's calls return, said of whole numbers modulo 2^128: the form in which laws are walked. -/
import Derived.Test.YtopaakjildmjcaaGreatWideD
namespace Go.Proofs.YtopaakjildmjcaaGreat
open Go.RowKit Go.Proofs.Wd
set_option linter.unusedVariables false
set_option linter.unusedSimpArgs false
set_option maxRecDepth 10000

theorem hiOf_add (A B : Int) : hiOf (wrapW A + wrapW B) = hiOf (A + B) := by unfold hiOf wrapW; omega
theorem loOf_add (A B : Int) : loOf (wrapW A + wrapW B) = loOf (A + B) := by unfold loOf wrapW; omega
theorem hiOf_neg (A : Int) : hiOf (-wrapW A) = hiOf (-A) := by unfold hiOf wrapW; omega
theorem loOf_neg (A : Int) : loOf (-wrapW A) = loOf (-A) := by unfold loOf wrapW; omega
theorem as_val (h l : Int) (a : I64 h) (b : U64 l) : ∃ A, h = hiOf A ∧ l = loOf A ∧ wrapW A = A := ⟨val h l, (hiOf_val h l a b).symm, (loOf_val h l b).symm, wrapW_in _ (val_range h l a b)⟩

theorem addV (A B : Int) (w : World) :
    Calls Tryz.prog 96 #[.agg #[.int .i64 (hiOf A), .int .u64 (loOf A)], .agg #[.int .i64 (hiOf B), .int .u64 (loOf B)]] w fun e w' => e = .returned (.agg #[.int .i64 (hiOf (A + B)), .int .u64 (loOf (A + B))]) ∧ Grown w w' := by
  have q := wideAdd (hiOf A) (loOf A) (hiOf B) (loOf B) (hiOf_I64 _) (loOf_U64 _) (hiOf_I64 _) (loOf_U64 _) w
  rw [val_of, val_of, hiOf_add, loOf_add] at q
  exact q
theorem negV (A : Int) (w : World) :
    Calls Tryz.prog 145 #[.agg #[.int .i64 (hiOf A), .int .u64 (loOf A)]] w fun e w' => e = .returned (.agg #[.int .i64 (hiOf (-A)), .int .u64 (loOf (-A))]) ∧ Grown w w' := by
  have q := wideNeg (hiOf A) (loOf A) (hiOf_I64 _) (loOf_U64 _) w
  rw [val_of, hiOf_neg, loOf_neg] at q
  exact q
theorem cmpV (A B : Int) (w : World) :
    Calls Tryz.prog 124 #[.agg #[.int .i64 (hiOf A), .int .u64 (loOf A)], .agg #[.int .i64 (hiOf B), .int .u64 (loOf B)]] w fun e w' => e = .returned (.int .i64 (cmpI (wrapW A) (wrapW B))) ∧ Grown w w' := by
  have q := wideCmp (hiOf A) (loOf A) (hiOf B) (loOf B) (hiOf_I64 _) (loOf_U64 _) (hiOf_I64 _) (loOf_U64 _) w
  rw [val_of, val_of] at q
  exact q
theorem fitV (A : Int) (w : World) :
    Calls Tryz.prog 105 #[.agg #[.int .i64 (hiOf A), .int .u64 (loOf A)]] w fun e w' => e = .returned (.tuple #[.int .i64 (fitI (wrapW A)), .bool (fitB (wrapW A))]) ∧ Grown w w' := by
  have q := wideFit (hiOf A) (loOf A) (hiOf_I64 _) (loOf_U64 _) w
  rw [val_of] at q
  exact q
theorem roundV (A n : Int) (h3 : 0 ≤ n) (h4 : n ≤ 127) (w : World) :
    Calls Tryz.prog 118 #[.agg #[.int .i64 (hiOf A), .int .u64 (loOf A)], .int .i64 n] w fun e w' => e = .returned (.tuple #[.agg #[.int .i64 (hiOf (rdiv (wrapW A) (2 ^ n.toNat))), .int .u64 (loOf (rdiv (wrapW A) (2 ^ n.toNat)))], .int .i64 0]) ∧ Grown w w' := by
  have q := wideRound (hiOf A) (loOf A) n (hiOf_I64 _) (loOf_U64 _) h3 h4 w
  rw [val_of] at q
  exact q

theorem with_gat2 {W w1 : World} {G : Prop} (h : Grown W w1) (b : Nat) (x y : Value) (h0 : W.cell? ⟨b, 0, none⟩ = some x) (h1 : W.cell? ⟨b, 1, none⟩ = some y) (k : w1.cell? ⟨b, 0, none⟩ = some x → w1.cell? ⟨b, 1, none⟩ = some y → G) : G := k (gat h h0) (gat h h1)
theorem keep3 {w W w1 : World} {b0 b1 b2 : Nat} {x0 x1 y0 y1 z0 z1 : Value} (h : Grown W w1)
    (hv : W.cell? ⟨b0, 0, none⟩ = some x0 ∧ W.cell? ⟨b0, 1, none⟩ = some x1 ∧ W.cell? ⟨b1, 0, none⟩ = some y0 ∧ W.cell? ⟨b1, 1, none⟩ = some y1 ∧ W.cell? ⟨b2, 0, none⟩ = some z0 ∧ W.cell? ⟨b2, 1, none⟩ = some z1 ∧ Grown w W) :
    w1.cell? ⟨b0, 0, none⟩ = some x0 ∧ w1.cell? ⟨b0, 1, none⟩ = some x1 ∧ w1.cell? ⟨b1, 0, none⟩ = some y0 ∧ w1.cell? ⟨b1, 1, none⟩ = some y1 ∧ w1.cell? ⟨b2, 0, none⟩ = some z0 ∧ w1.cell? ⟨b2, 1, none⟩ = some z1 ∧ Grown w w1 :=
  ⟨gat h hv.1, gat h hv.2.1, gat h hv.2.2.1, gat h hv.2.2.2.1, gat h hv.2.2.2.2.1, gat h hv.2.2.2.2.2.1, gtrans hv.2.2.2.2.2.2 h⟩
theorem keep2 {w W w1 : World} {b0 b1 : Nat} {x0 x1 y0 y1 : Value} (h : Grown W w1)
    (hv : W.cell? ⟨b0, 0, none⟩ = some x0 ∧ W.cell? ⟨b0, 1, none⟩ = some x1 ∧ W.cell? ⟨b1, 0, none⟩ = some y0 ∧ W.cell? ⟨b1, 1, none⟩ = some y1 ∧ Grown w W) :
    w1.cell? ⟨b0, 0, none⟩ = some x0 ∧ w1.cell? ⟨b0, 1, none⟩ = some x1 ∧ w1.cell? ⟨b1, 0, none⟩ = some y0 ∧ w1.cell? ⟨b1, 1, none⟩ = some y1 ∧ Grown w w1 :=
  ⟨gat h hv.1, gat h hv.2.1, gat h hv.2.2.1, gat h hv.2.2.2.1, gtrans hv.2.2.2.2 h⟩

end Go.Proofs.YtopaakjildmjcaaGreat
