/- Package vec: both, over a func that two made, and over a method value. -/
import Derived.Test.YtgahdjfkmpadoaaVecA
namespace Go.Proofs.Ytgahdjfkmpadoaa
open Go.RowKit Go.Proofs.Wd
set_option linter.unusedVariables false
set_option linter.unusedSimpArgs false

end Go.Proofs.Ytgahdjfkmpadoaa
