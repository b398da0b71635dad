/- Package vec: refuse, two and its func, both, reckon. -/
import Derived.Test.YtgahdjfkmpadoaaVecRow
import Derived.Test.YtgahdjfkmpadoaaVecMath
import Derived.Test.YtgahdjfkmpadoaaUnitN
namespace Go.Proofs.Ytgahdjfkmpadoaa
open Go.RowKit Go.Proofs.Wd
set_option linter.unusedVariables false
set_option linter.unusedSimpArgs false

/-- A unit as a pointer; an operation of it as a method value. -/
def ptr (U : Nat) : Value := .pointer (some ⟨U, 0, none⟩)

end Go.Proofs.Ytgahdjfkmpadoaa
