/- The model's flipped, mirrored, turned and transposed sets. -/
import Derived.Test.YtfacdmkcklimjaaMChanged
import Derived.Test.YtfacdmkcklimjaaNum
namespace Go.Proofs.Ytfacdmkcklimjaa
set_option linter.unusedVariables false
set_option linter.unusedSimpArgs false
open Go.RowKit Go.Sort

end Go.Proofs.Ytfacdmkcklimjaa
