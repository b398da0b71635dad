/- The operations of package fix, as funcs of two wide numbers: what each returns. -/
import Derived.Test.YticaiccocfoinaaFixA
import Derived.Test.YticaiccocfoinaaDiv64
namespace Go.Proofs.Yticaiccocfoinaa
open Go.RowKit Go.Proofs.Wd
set_option linter.unusedVariables false
set_option linter.unusedSimpArgs false
attribute [local go_sem ↓] Go.wp_at_zero Go.wp_at_succ

end Go.Proofs.Yticaiccocfoinaa
