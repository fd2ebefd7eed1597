/- PairsOfStack: its errors, on both sides. -/
import Derived.Test.YtjoaoimebdkpaaaNum
import Derived.Test.YtjoaoimebdkpaaaIsA
import Derived.Test.YtjoaoimebdkpaaaStA
import Derived.Lib.Hide
namespace Go.Proofs.Ytjoaoimebdkpaaa
set_option linter.unusedVariables false
set_option linter.unusedSimpArgs false
open Go.RowKit Go.Sort

end Go.Proofs.Ytjoaoimebdkpaaa
