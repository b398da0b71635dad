/- Package fix's over: what it returns. -/
import Derived.Test.YtcobicnpdmgnjaaFixB
namespace Go.Proofs.Ytcobicnpdmgnjaa
open Go.RowKit Go.Proofs.Wd
set_option linter.unusedVariables false
set_option linter.unusedSimpArgs false
attribute [local go_sem ↓] Go.wp_at_zero Go.wp_at_succ

end Go.Proofs.Ytcobicnpdmgnjaa
