/- The model's flipped, mirrored, turned and transposed sets. -/
import Derived.Test.YtplbjnnicmcpdaaMChanged
import Derived.Test.YtplbjnnicmcpdaaNum
namespace Go.Proofs.Ytplbjnnicmcpdaa
set_option linter.unusedVariables false
set_option linter.unusedSimpArgs false
open Go.RowKit Go.Sort

end Go.Proofs.Ytplbjnnicmcpdaa
