/- The program's IsRow. -/
import Derived.Test.YtplbjnnicmcpdaaDoorRow
namespace Go.Proofs.YtplbjnnicmcpdaaDoor
set_option linter.unusedVariables false
set_option linter.unusedSimpArgs false
open Go.RowKit Go.Sort

end Go.Proofs.YtplbjnnicmcpdaaDoor
