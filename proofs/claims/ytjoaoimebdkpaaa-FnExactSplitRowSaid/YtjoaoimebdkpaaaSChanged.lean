/- The model's flipped, mirrored, turned and transposed sets. -/
import Derived.Test.YtjoaoimebdkpaaaMChanged
import Derived.Test.YtjoaoimebdkpaaaNum
namespace Go.Proofs.Ytjoaoimebdkpaaa
set_option linter.unusedVariables false
set_option linter.unusedSimpArgs false
open Go.RowKit Go.Sort

end Go.Proofs.Ytjoaoimebdkpaaa
