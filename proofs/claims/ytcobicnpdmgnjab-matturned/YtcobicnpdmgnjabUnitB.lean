/- What the operations of package unit do: sums and products of lists, and the single ones. -/
import Derived.Test.YtcobicnpdmgnjabUnitA
import Derived.Shelf.Abstract
namespace Go.Proofs.Ytcobicnpdmgnjab
open Go.RowKit Go.Proofs.Wd
set_option linter.unusedVariables false
set_option linter.unusedSimpArgs false

end Go.Proofs.Ytcobicnpdmgnjab
