/- The model's flipped, mirrored, turned and transposed sets. -/
import Derived.Test.YtnagpndclagfaaaDoorMChanged
import Derived.Test.YtnagpndclagfaaaDoorNum
namespace Go.Proofs.YtnagpndclagfaaaDoor
set_option linter.unusedVariables false
set_option linter.unusedSimpArgs false
open Go.RowKit Go.Sort

end Go.Proofs.YtnagpndclagfaaaDoor
