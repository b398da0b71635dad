/- What a unit reckons, in whole numbers: fix's operations as functions; sums, products and dots over a list that is given by its indexes. -/
import Derived.Test.YtopaakjildmjcaaGreatFixMath
namespace Go.Proofs.Wd
set_option linter.unusedVariables false

def addN (a b : Int) : Int := fitI (tk a + tk b)
def addC (a b : Int) : Bool := cutB (tk a + tk b) a b
def subN (a b : Int) : Int := fitI (tk a - tk b)
def subC (a b : Int) : Bool := cutB (tk a - tk b) a b
def halfN (a b : Int) : Int := fitI (rdiv (tk a + tk b) 2)
def halfC (a b : Int) : Bool := cutB (rdiv (tk a + tk b) 2) a b
def mulN (a b : Int) : Int := fitI (rdiv (tk a * tk b) 4294967296)
def mulC (a b : Int) : Bool := cutB (rdiv (tk a * tk b) 4294967296) a b
def divN (a b : Int) : Int := fitI (quoR (tk a) (tk b))
def divC (a b : Int) : Bool := cutB (quoR (tk a) (tk b)) a b || decide (b = 0)
def whoN (a : Int) : Int := fitI (a * 4294967296)
def whoC (a : Int) : Bool := fitB (a * 4294967296)

theorem fitI_I64 (a : Int) : I64 (fitI a) := by unfold I64 fitI; split; omega; split <;> omega
theorem addN_I64 (a b : Int) : I64 (addN a b) := fitI_I64 _
theorem mulN_I64 (a b : Int) : I64 (mulN a b) := fitI_I64 _

/-- What comes of s by f over the first k of Z; and whether one of these was cut. -/
def thN (f : Int → Int → Int) (s : Int) (Z : Nat → Int) : Nat → Int
  | 0 => s
  | k + 1 => f (thN f s Z k) (Z k)
def thC (f : Int → Int → Int) (g : Int → Int → Bool) (s : Int) (Z : Nat → Int) : Nat → Bool
  | 0 => false
  | k + 1 => thC f g s Z k || g (thN f s Z k) (Z k)
theorem thN_I64 (f : Int → Int → Int) (hf : ∀ a b, I64 (f a b)) (s : Int) (hs : I64 s) (Z : Nat → Int) : ∀ k, I64 (thN f s Z k)
  | 0 => hs
  | k + 1 => hf _ _
theorem thN_congr (f : Int → Int → Int) (s : Int) (Z Y : Nat → Int) : ∀ k, (∀ i, i < k → Z i = Y i) → thN f s Z k = thN f s Y k
  | 0, _ => rfl
  | k + 1, h => by
    show f _ _ = f _ _
    rw [thN_congr f s Z Y k (fun i hi => h i (by omega)), h k (by omega)]
theorem thC_congr (f : Int → Int → Int) (g : Int → Int → Bool) (s : Int) (Z Y : Nat → Int) : ∀ k, (∀ i, i < k → Z i = Y i) → thC f g s Z k = thC f g s Y k
  | 0, _ => rfl
  | k + 1, h => by
    show (_ || _) = (_ || _)
    rw [thC_congr f g s Z Y k (fun i hi => h i (by omega)), thN_congr f s Z Y k (fun i hi => h i (by omega)), h k (by omega)]

/-- The same of two lists: the product of two, then the sum. -/
def dotN (X Y : Nat → Int) : Nat → Int
  | 0 => 0
  | k + 1 => addN (dotN X Y k) (mulN (X k) (Y k))
def dotC (X Y : Nat → Int) : Nat → Bool
  | 0 => false
  | k + 1 => dotC X Y k || mulC (X k) (Y k) || addC (dotN X Y k) (mulN (X k) (Y k))
theorem dotN_I64 (X Y : Nat → Int) : ∀ k, I64 (dotN X Y k)
  | 0 => by unfold dotN I64; omega
  | k + 1 => addN_I64 _ _

end Go.Proofs.Wd
