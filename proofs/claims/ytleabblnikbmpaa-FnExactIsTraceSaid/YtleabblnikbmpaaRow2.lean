/- The program's IsRow. -/
import Derived.Test.YtleabblnikbmpaaRow
namespace Go.Proofs.Ytleabblnikbmpaa
set_option linter.unusedVariables false
set_option linter.unusedSimpArgs false
open Go.RowKit Go.Sort

end Go.Proofs.Ytleabblnikbmpaa
