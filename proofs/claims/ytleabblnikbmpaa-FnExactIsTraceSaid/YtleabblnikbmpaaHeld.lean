/- Slices of tiles with marks, read again. -/
import Derived.Test.YtleabblnikbmpaaMark
namespace Go.Proofs.Ytleabblnikbmpaa
set_option linter.unusedVariables false
set_option linter.unusedSimpArgs false
open Go.RowKit Go.Sort


end Go.Proofs.Ytleabblnikbmpaa
