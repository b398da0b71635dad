/- The document's answer for layer 3: square, above, root, Whole, nearest, Sqrt and Hypot, walked: what each returns, in whole numbers. -/
import Derived.Test.YtmdclpjbpkfckaaRefMul
import Derived.Test.YtmdclpjbpkfckaaRootB
namespace Go.Proofs.Ytmdclpjbpkfckaa
open Go.RowKit Go.Proofs.Wd
set_option linter.unusedVariables false
set_option linter.unusedSimpArgs false

theorem refCmpV (A B : Int) (w : World) :
    Calls Try.prog 86 #[.agg #[.int .i64 (hiOf A), .int .u64 (loOf A)], .agg #[.int .i64 (hiOf B), .int .u64 (loOf B)]] w fun e w' => e = .returned (.int .i64 (cmpI (wrapW A) (wrapW B))) ∧ Grown w w' := by
  have q := refCmp (hiOf A) (loOf A) (hiOf B) (loOf B) (hiOf_I64 _) (loOf_U64 _) (hiOf_I64 _) (loOf_U64 _) w
  rw [val_of, val_of] at q
  exact q

theorem sq_even (n : Int) (h : n % 2 = 0) : n / 2 * (n / 2) + n / 2 * (n / 2) + (n / 2 * (n / 2) + n / 2 * (n / 2)) = n * n := by
  obtain ⟨k, hk⟩ : ∃ k, n / 2 = k := ⟨_, rfl⟩
  rw [hk]
  have : n = 2 * k := by omega
  rw [this]; grind
theorem sq_odd (n : Int) (h : n % 2 = 1) : n / 2 * (n / 2) + n / 2 * (n / 2) + n / 2 * 2 + (n / 2 * (n / 2) + n / 2 * (n / 2) + n / 2 * 2) + 1 = n * n := by
  obtain ⟨k, hk⟩ : ∃ k, n / 2 = k := ⟨_, rfl⟩
  rw [hk]
  have : n = 2 * k + 1 := by omega
  rw [this]; grind

end Go.Proofs.Ytmdclpjbpkfckaa
