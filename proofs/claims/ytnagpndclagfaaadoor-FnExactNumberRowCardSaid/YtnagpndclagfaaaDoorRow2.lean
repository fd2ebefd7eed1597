/- The program's IsRow. -/
import Derived.Test.YtnagpndclagfaaaDoorRow
namespace Go.Proofs.YtnagpndclagfaaaDoor
set_option linter.unusedVariables false
set_option linter.unusedSimpArgs false
open Go.RowKit Go.Sort

end Go.Proofs.YtnagpndclagfaaaDoor
