/- The model's code of a set and the number of a tile. -/
import Derived.Test.YtpjlapialjjcdaaNum
namespace Go.Proofs.Ytpjlapialjjcdaa
set_option linter.unusedVariables false
set_option linter.unusedSimpArgs false
open Go.RowKit Go.Sort

end Go.Proofs.Ytpjlapialjjcdaa
