/- The program's IsRow. -/
import Derived.Test.YtnmgkchkbchfaaaRow
namespace Go.Proofs.Ytnmgkchkbchfaaa
set_option linter.unusedVariables false
set_option linter.unusedSimpArgs false
open Go.RowKit Go.Sort

end Go.Proofs.Ytnmgkchkbchfaaa
