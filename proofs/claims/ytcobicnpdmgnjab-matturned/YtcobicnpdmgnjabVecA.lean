/- Package vec: refuse, two and its func, both, reckon. -/
import Derived.Test.YtcobicnpdmgnjabVecRow
import Derived.Test.YtcobicnpdmgnjabVecMath
import Derived.Test.YtcobicnpdmgnjabUnitN
namespace Go.Proofs.Ytcobicnpdmgnjab
open Go.RowKit Go.Proofs.Wd
set_option linter.unusedVariables false
set_option linter.unusedSimpArgs false

/-- A unit as a pointer; an operation of it as a method value. -/
def ptr (U : Nat) : Value := .pointer (some ⟨U, 0, none⟩)

end Go.Proofs.Ytcobicnpdmgnjab
