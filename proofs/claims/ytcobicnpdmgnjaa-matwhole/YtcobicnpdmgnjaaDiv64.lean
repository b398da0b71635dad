/- math/bits.Div64, walked: the quotient and the rest of two halves by one. -/
import Derived.Test.YtcobicnpdmgnjaaLen64
import Derived.Test.YtcobicnpdmgnjaaDivMath
import Derived.Test.YtcobicnpdmgnjaaWideD
import Derived.Deep.DeepCutAuto
import Derived.Deep.CutBlock
namespace Go.Proofs.Ytcobicnpdmgnjaa
open Go.RowKit Go.Proofs.Wd
set_option linter.unusedVariables false
set_option linter.unusedSimpArgs false

end Go.Proofs.Ytcobicnpdmgnjaa
