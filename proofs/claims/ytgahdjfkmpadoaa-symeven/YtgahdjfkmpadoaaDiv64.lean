/- math/bits.Div64, walked: the quotient and the rest of two halves by one. -/
import Derived.Test.YtgahdjfkmpadoaaLen64
import Derived.Test.YtgahdjfkmpadoaaDivMath
import Derived.Test.YtgahdjfkmpadoaaWideD
import Derived.Deep.DeepCutAuto
import Derived.Deep.CutBlock
namespace Go.Proofs.Ytgahdjfkmpadoaa
open Go.RowKit Go.Proofs.Wd
set_option linter.unusedVariables false
set_option linter.unusedSimpArgs false

end Go.Proofs.Ytgahdjfkmpadoaa
