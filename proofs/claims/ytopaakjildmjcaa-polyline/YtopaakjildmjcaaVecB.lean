/- Package vec: both, over a func that two made, and over a method value. -/
import Derived.Test.YtopaakjildmjcaaVecA
namespace Go.Proofs.Ytopaakjildmjcaa
open Go.RowKit Go.Proofs.Wd
set_option linter.unusedVariables false
set_option linter.unusedSimpArgs false
set_option maxRecDepth 10000

end Go.Proofs.Ytopaakjildmjcaa
