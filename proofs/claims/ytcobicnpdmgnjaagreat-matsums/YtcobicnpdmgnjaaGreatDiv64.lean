/- math/bits.Div64, walked: the quotient and the rest of two halves by one. -/
import Derived.Test.YtcobicnpdmgnjaaGreatLen64
import Derived.Test.YtcobicnpdmgnjaaGreatDivMath
import Derived.Test.YtcobicnpdmgnjaaGreatWideD
import Derived.Deep.DeepCutAuto
import Derived.Deep.CutBlock
namespace Go.Proofs.YtcobicnpdmgnjaaGreat
open Go.RowKit Go.Proofs.Wd
set_option linter.unusedVariables false
set_option linter.unusedSimpArgs false
set_option maxRecDepth 10000

end Go.Proofs.YtcobicnpdmgnjaaGreat
