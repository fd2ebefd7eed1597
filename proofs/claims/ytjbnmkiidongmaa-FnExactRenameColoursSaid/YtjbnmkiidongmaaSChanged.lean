/- The model's flipped, mirrored, turned and transposed sets. -/
import Derived.Test.YtjbnmkiidongmaaMChanged
import Derived.Test.YtjbnmkiidongmaaNum
namespace Go.Proofs.Ytjbnmkiidongmaa
set_option linter.unusedVariables false
set_option linter.unusedSimpArgs false
open Go.RowKit Go.Sort

end Go.Proofs.Ytjbnmkiidongmaa
