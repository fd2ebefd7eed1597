/- The model's flipped, mirrored, turned and transposed sets. -/
import Derived.Test.YtpjlapialjjcdaaMChanged
import Derived.Test.YtpjlapialjjcdaaNum
namespace Go.Proofs.Ytpjlapialjjcdaa
set_option linter.unusedVariables false
set_option linter.unusedSimpArgs false
open Go.RowKit Go.Sort

end Go.Proofs.Ytpjlapialjjcdaa
