/- The model's flipped, mirrored, turned and transposed sets. -/
import Derived.Test.YtfhdgilddnndcaaMChanged
import Derived.Test.YtfhdgilddnndcaaNum
namespace Go.Proofs.Ytfhdgilddnndcaa
set_option linter.unusedVariables false
set_option linter.unusedSimpArgs false
open Go.RowKit Go.Sort

end Go.Proofs.Ytfhdgilddnndcaa
