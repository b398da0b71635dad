/- Package fix's over: what it returns. -/
import Derived.Test.YtgahdjfkmpadoaaGreatFixB
namespace Go.Proofs.YtgahdjfkmpadoaaGreat
open Go.RowKit Go.Proofs.Wd
set_option linter.unusedVariables false
set_option linter.unusedSimpArgs false
set_option maxRecDepth 10000
attribute [local go_sem ↓] Go.wp_at_zero Go.wp_at_succ

end Go.Proofs.YtgahdjfkmpadoaaGreat
