/- The program's IsRow. -/
import Derived.Test.YtfhdgilddnndcaaRow
namespace Go.Proofs.Ytfhdgilddnndcaa
set_option linter.unusedVariables false
set_option linter.unusedSimpArgs false
open Go.RowKit Go.Sort

end Go.Proofs.Ytfhdgilddnndcaa
