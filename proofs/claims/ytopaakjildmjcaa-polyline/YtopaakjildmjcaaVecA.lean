/- Package vec: refuse, two and its func, both, reckon. -/
import Derived.Test.YtopaakjildmjcaaVecRow
import Derived.Test.YtopaakjildmjcaaVecMath
import Derived.Test.YtopaakjildmjcaaUnitN
namespace Go.Proofs.Ytopaakjildmjcaa
open Go.RowKit Go.Proofs.Wd
set_option linter.unusedVariables false
set_option linter.unusedSimpArgs false
set_option maxRecDepth 10000

/-- A unit as a pointer; an operation of it as a method value. -/
def ptr (U : Nat) : Value := .pointer (some ⟨U, 0, none⟩)

end Go.Proofs.Ytopaakjildmjcaa
