/- Slices of tiles with marks, read again. -/
import Derived.Test.YtnmgkchkbchfaaaMark
namespace Go.Proofs.Ytnmgkchkbchfaaa
set_option linter.unusedVariables false
set_option linter.unusedSimpArgs false
open Go.RowKit Go.Sort


end Go.Proofs.Ytnmgkchkbchfaaa
