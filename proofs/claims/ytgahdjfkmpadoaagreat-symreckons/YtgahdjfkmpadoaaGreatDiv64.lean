/- math/bits.Div64, walked: the quotient and the rest of two halves by one. -/
import Derived.Test.YtgahdjfkmpadoaaGreatLen64
import Derived.Test.YtgahdjfkmpadoaaGreatDivMath
import Derived.Test.YtgahdjfkmpadoaaGreatWideD
import Derived.Deep.DeepCutAuto
import Derived.Deep.CutBlock
namespace Go.Proofs.YtgahdjfkmpadoaaGreat
open Go.RowKit Go.Proofs.Wd
set_option linter.unusedVariables false
set_option linter.unusedSimpArgs false
set_option maxRecDepth 10000

end Go.Proofs.YtgahdjfkmpadoaaGreat
