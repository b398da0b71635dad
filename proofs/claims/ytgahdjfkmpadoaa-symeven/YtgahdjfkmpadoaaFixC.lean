/- Package fix's over: what it returns. -/
import Derived.Test.YtgahdjfkmpadoaaFixB
namespace Go.Proofs.Ytgahdjfkmpadoaa
open Go.RowKit Go.Proofs.Wd
set_option linter.unusedVariables false
set_option linter.unusedSimpArgs false
attribute [local go_sem ↓] Go.wp_at_zero Go.wp_at_succ

end Go.Proofs.Ytgahdjfkmpadoaa
