/- Package vec: both, over a func that two made, and over a method value. -/
import Derived.Test.YtgahdjfkmpadoaaGreatVecA
namespace Go.Proofs.YtgahdjfkmpadoaaGreat
open Go.RowKit Go.Proofs.Wd
set_option linter.unusedVariables false
set_option linter.unusedSimpArgs false
set_option maxRecDepth 10000

end Go.Proofs.YtgahdjfkmpadoaaGreat
