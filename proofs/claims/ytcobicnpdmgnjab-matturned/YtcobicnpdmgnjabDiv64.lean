/- math/bits.Div64, walked: the quotient and the rest of two halves by one. -/
import Derived.Test.YtcobicnpdmgnjabLen64
import Derived.Test.YtcobicnpdmgnjabDivMath
import Derived.Test.YtcobicnpdmgnjabWideD
import Derived.Deep.DeepCutAuto
import Derived.Deep.CutBlock
namespace Go.Proofs.Ytcobicnpdmgnjab
open Go.RowKit Go.Proofs.Wd
set_option linter.unusedVariables false
set_option linter.unusedSimpArgs false

end Go.Proofs.Ytcobicnpdmgnjab
