/- MultiplyingSet: both doors. -/
import Derived.Test.YtnagpndclagfaaaDoorMu2
import Derived.Test.YtnagpndclagfaaaDoorFb1
namespace Go.Proofs.YtnagpndclagfaaaDoor
set_option linter.unusedVariables false
set_option linter.unusedSimpArgs false
open Go.RowKit Go.Sort

def mulArgs (p q m n u v : Int) : Bool := facB p q && decide (0 ≤ m ∧ m ≤ 5) && decide (m ≤ n ∧ n ≤ 5) && decide (0 ≤ u ∧ u ≤ 5) && decide (u ≤ v ∧ v ≤ 5)
def mulL (p q m n u v : Int) : List Tl := lsL p q m u (v - u + 1).toNat (n - m + 1).toNat (p + q - 1).toNat
def MulDoor (p q m n u v : Int) (w : World) : Ending → World → Prop := if mulArgs p q m n u v = true then MulRes p q n v (mulL p q m n u v) w else SetRes w 0 [] 2
end Go.Proofs.YtnagpndclagfaaaDoor
