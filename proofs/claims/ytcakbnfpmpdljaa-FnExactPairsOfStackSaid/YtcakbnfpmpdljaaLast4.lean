/- Lists of numbers that have neighbours on them, as filters; the lasting tiles, the program's side. -/
import Derived.Test.YtcakbnfpmpdljaaLast2
import Derived.Test.YtcakbnfpmpdljaaLast3
namespace Go.Proofs.Ytcakbnfpmpdljaa
set_option linter.unusedVariables false
set_option linter.unusedSimpArgs false
open Go.RowKit Go.Sort

theorem range_getD (xs : List Int) : (List.range xs.length).map (fun y => xs.getD y 0) = xs := by
  apply List.ext_getElem
  · simp
  · intro i h1 h2
    simp [List.getD, h2]
/-- Whether tile x has neighbours among those that p holds of. -/
def keepP (ts : List Tl) (n : Nat) (p : Nat → Bool) (x : Nat) : Bool := (List.range n).any (fun y => p y && decide ((ts.getD y T0).2.2.1 = (ts.getD x T0).1)) && (List.range n).any (fun y => p y && decide ((ts.getD y T0).1 = (ts.getD x T0).2.2.1))
/-- The numbers below n that p holds of. -/
def numsOf (n : Nat) (p : Nat → Bool) : List Int := ((List.range n).filter p).map fun k : Nat => (k : Int)
theorem betwN_all (ts : List Tl) (xs : List Int) : betwN ts xs xs.length = xs.filter fun v => xs.any (fun u => decide ((ts.getD u.toNat T0).2.2.1 = (ts.getD v.toNat T0).1)) && xs.any (fun u => decide ((ts.getD u.toNat T0).1 = (ts.getD v.toNat T0).2.2.1)) := by
  have key : ∀ (q : Int → Bool), (List.range xs.length).any (fun y => q (xs.getD y 0)) = xs.any q := fun q => by
    conv => rhs; rw [← range_getD xs, List.any_map]
    rfl
  have fm : ∀ (q : Int → Bool), ((List.range xs.length).filter (fun y => q (xs.getD y 0))).map (fun y => xs.getD y 0) = xs.filter q := fun q => by
    conv => rhs; rw [← range_getD xs, List.filter_map]
    rfl
  rw [← fm]
  unfold betwN
  congr 2
  funext k
  unfold keepB wcol ecol
  rw [key (fun u => decide ((ts.getD u.toNat T0).2.2.1 = (ts.getD (xs.getD k 0).toNat T0).1)), key (fun u => decide ((ts.getD u.toNat T0).1 = (ts.getD (xs.getD k 0).toNat T0).2.2.1))]
theorem betwN_nums (ts : List Tl) (n : Nat) (p : Nat → Bool) : betwN ts (numsOf n p) (numsOf n p).length = numsOf n (fun x => p x && keepP ts n p x) := by
  rw [betwN_all]
  unfold numsOf
  rw [List.filter_map, List.filter_filter]
  congr 2
  funext x
  simp only [Function.comp_def, List.any_map, List.any_filter, Int.toNat_natCast, keepP]
  rw [Bool.and_comm]
end Go.Proofs.Ytcakbnfpmpdljaa
