/- The model's flipped, mirrored, turned and transposed sets. -/
import Derived.Test.YtbkgcoodloomnaaMChanged
import Derived.Test.YtbkgcoodloomnaaNum
namespace Go.Proofs.Ytbkgcoodloomnaa
set_option linter.unusedVariables false
set_option linter.unusedSimpArgs false
open Go.RowKit Go.Sort

end Go.Proofs.Ytbkgcoodloomnaa
