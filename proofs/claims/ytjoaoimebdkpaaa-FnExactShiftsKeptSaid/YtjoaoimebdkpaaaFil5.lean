/- Whether rows are a filling: the model's door. -/
import Derived.Test.YtjoaoimebdkpaaaFil4
namespace Go.Proofs.Ytjoaoimebdkpaaa
set_option linter.unusedVariables false
set_option linter.unusedSimpArgs false
open Go.RowKit Go.Sort

end Go.Proofs.Ytjoaoimebdkpaaa
