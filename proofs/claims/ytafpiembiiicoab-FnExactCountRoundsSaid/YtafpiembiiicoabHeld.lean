/- Slices of tiles with marks, read again. -/
import Derived.Test.YtafpiembiiicoabMark
namespace Go.Proofs.Ytafpiembiiicoab
set_option linter.unusedVariables false
set_option linter.unusedSimpArgs false
open Go.RowKit Go.Sort


end Go.Proofs.Ytafpiembiiicoab
