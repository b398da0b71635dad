/- What is rounded by 32 bits is half of 2^32 away at most, and just so far only to an even one: plain arithmetic. -/
import Derived.Test.YtopaakjildmjcaaGreatWideMath
namespace Go.Proofs.Wd

theorem mul_range (m n : Int) (h1 : I64 m) (h2 : I64 n) : -85070591730234615865843651857942052864 ≤ m * n ∧ m * n ≤ 85070591730234615865843651857942052864 := by
  have e := sg_mul m n
  have a0 : 0 ≤ absI m ∧ absI m ≤ 9223372036854775808 := by unfold I64 at h1; unfold absI; split <;> omega
  have b0 : 0 ≤ absI n ∧ absI n ≤ 9223372036854775808 := by unfold I64 at h2; unfold absI; split <;> omega
  have p1 : absI m * absI n ≤ absI m * 9223372036854775808 := Int.mul_le_mul_of_nonneg_left (by omega) a0.1
  have p0 : 0 ≤ absI m * absI n := Int.mul_nonneg a0.1 b0.1
  rw [← e]
  generalize absI m * absI n = p at *
  unfold sg
  split <;> omega
theorem rdiv_pos (X d : Int) (hd : 0 < d) : rdiv X d = if X < 0 then -(rawq (-X) d) else rawq X d := by
  unfold rdiv
  have e2 : ((d.natAbs : Nat) : Int) = d := by omega
  rw [e2]
  by_cases h : X < 0
  · have e1 : ((X.natAbs : Nat) : Int) = -X := by omega
    rw [e1]; simp [h, show ¬ d < 0 from by omega]
  · have e1 : ((X.natAbs : Nat) : Int) = X := by omega
    rw [e1]; simp [h, show ¬ d < 0 from by omega]
theorem near32 (X : Int) : -2147483648 ≤ X + -(rdiv X 4294967296 * 4294967296) ∧ X + -(rdiv X 4294967296 * 4294967296) ≤ 2147483648 ∧
    ((X + -(rdiv X 4294967296 * 4294967296) = 2147483648 ∨ X + -(rdiv X 4294967296 * 4294967296) = -2147483648) → rdiv X 4294967296 % 2 = 0) := by
  rw [rdiv_pos X 4294967296 (by decide)]
  unfold rawq
  split <;> split <;> refine ⟨?_, ?_, ?_⟩ <;> omega
theorem rdiv32_range (X : Int) (h : -85070591730234615865843651857942052864 ≤ X ∧ X ≤ 85070591730234615865843651857942052864) :
    -85070591730234615865843651857942052865 ≤ rdiv X 4294967296 ∧ rdiv X 4294967296 ≤ 85070591730234615865843651857942052865 := by
  rw [rdiv_pos X 4294967296 (by decide)]
  unfold rawq
  split <;> split <;> omega
theorem fit_in (R : Int) (h : fitB R = false) : fitI R = R ∧ I64 R := by
  unfold fitB at h
  simp at h
  unfold fitI I64
  rw [if_neg (by omega), if_neg (by omega)]
  omega
theorem hilo_ne (A B : Int) (hA : wrapW A = A) (hB : wrapW B = B) (h : A ≠ B) : hiOf A ≠ hiOf B ∨ loOf A ≠ loOf B := by
  by_cases g : hiOf A = hiOf B
  · by_cases k : loOf A = loOf B
    · exact absurd (by rw [← hA, ← hB, ← val_of, ← val_of, g, k]) h
    · exact Or.inr k
  · exact Or.inl g

end Go.Proofs.Wd
