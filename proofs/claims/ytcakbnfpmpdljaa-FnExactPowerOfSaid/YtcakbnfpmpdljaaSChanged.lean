/- The model's flipped, mirrored, turned and transposed sets. -/
import Derived.Test.YtcakbnfpmpdljaaMChanged
import Derived.Test.YtcakbnfpmpdljaaNum
namespace Go.Proofs.Ytcakbnfpmpdljaa
set_option linter.unusedVariables false
set_option linter.unusedSimpArgs false
open Go.RowKit Go.Sort

end Go.Proofs.Ytcakbnfpmpdljaa
