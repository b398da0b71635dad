/- math/bits.Div64, walked: the quotient and the rest of two halves by one. -/
import Derived.Test.YtmdclpjbpkfckaaLen64
import Derived.Test.YtmdclpjbpkfckaaDivMath
import Derived.Test.YtmdclpjbpkfckaaWideD
import Derived.Deep.DeepCutAuto
import Derived.Deep.CutBlock
namespace Go.Proofs.Ytmdclpjbpkfckaa
open Go.RowKit Go.Proofs.Wd
set_option linter.unusedVariables false
set_option linter.unusedSimpArgs false

end Go.Proofs.Ytmdclpjbpkfckaa
