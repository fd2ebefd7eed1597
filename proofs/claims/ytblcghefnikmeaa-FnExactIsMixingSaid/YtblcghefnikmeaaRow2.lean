/- The program's IsRow. -/
import Derived.Test.YtblcghefnikmeaaRow
namespace Go.Proofs.Ytblcghefnikmeaa
set_option linter.unusedVariables false
set_option linter.unusedSimpArgs false
open Go.RowKit Go.Sort

end Go.Proofs.Ytblcghefnikmeaa
