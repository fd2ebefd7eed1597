/- The model's sets that are made of tiles, and of changed tiles. -/
import Derived.Test.YtleabblnikbmpaaLSort
import Derived.Deep.RegionHeld3
namespace Go.Proofs.Ytleabblnikbmpaa
set_option linter.unusedVariables false
set_option linter.unusedSimpArgs false
open Go.RowKit Go.Sort

def flippedT (t : Tl) : Tl := (t.1, t.2.2.2, t.2.2.1, t.2.1)
def mirroredT (t : Tl) : Tl := (t.2.2.1, t.2.1, t.1, t.2.2.2)
def turnedT (t : Tl) : Tl := (t.2.2.2, t.1, t.2.1, t.2.2.1)
def transposedT (t : Tl) : Tl := (t.2.1, t.1, t.2.2.2, t.2.2.1)
end Go.Proofs.Ytleabblnikbmpaa
