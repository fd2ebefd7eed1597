/- PutTile: what is told of a set, and what putting a tile hands back. -/
import Derived.Test.YtfacdmkcklimjaaHas
import Derived.Test.YtfacdmkcklimjaaMChanged
namespace Go.Proofs.Ytfacdmkcklimjaa
set_option linter.unusedVariables false
set_option linter.unusedSimpArgs false
open Go.RowKit Go.Sort

set_option maxHeartbeats 1000000 in
theorem l01Told_any (c1 : Int) (A : Option Addr) (n c : Nat) (w : World) (hn : n ≤ 1048576) :
    Calls Try.prog 16 #[.agg #[.int .i64 c1, .slice A n c]] w fun e w' => e = .returned (.tuple (if c1 ≤ 6 ∧ n ≤ 16 then #[.agg #[.int .i64 c1, .slice A n c], .int .i64 0] else #[.agg #[.int .i64 0, .slice none 0 0], .int .i64 3])) ∧ Ext w w' := by
  by_cases h1 : c1 ≤ 6
  · by_cases h2 : n ≤ 16
    · rw [if_pos ⟨h1, h2⟩]
      go_enter Try.func16, Try.ntmps16
      go_wp2_with fail
      refine bodyPost_ret (v := .tuple #[.agg #[.int .i64 c1, .slice A n c], .int .i64 0]) (by simp [results, Try.results16, go_sem]) rfl ⟨rfl, ((Ext.refl w).alloc _).alloc _⟩
    · rw [if_neg (fun h => h2 h.2)]
      go_enter Try.func16, Try.ntmps16
      go_wp2_with fail
      refine bodyPost_ret (v := .tuple #[.agg #[.int .i64 0, .slice none 0 0], .int .i64 3]) (by simp [results, Try.results16, go_sem]) rfl ⟨rfl, ((Ext.refl w).alloc _).alloc _⟩
  · rw [if_neg (fun h => h1 h.1)]
    go_enter Try.func16, Try.ntmps16
    go_wp2_with fail
    refine bodyPost_ret (v := .tuple #[.agg #[.int .i64 0, .slice none 0 0], .int .i64 3]) (by simp [results, Try.results16, go_sem]) rfl ⟨rfl, ((Ext.refl w).alloc _).alloc _⟩

/-- The code of putting a tile into a set. -/
def putCode (c0 : Int) (ts : List Tl) (a : Tl) : Int := if isSet c0 ts = true then (if tileOk c0 a = true then (if decide (a ∈ ts) = true then 5 else if ts.length + 1 ≤ 16 then 0 else 3) else 2) else 1
/-- What putting a tile hands back. -/
def PutRes (c0 : Int) (ts : List Tl) (a : Tl) (w : World) : Ending → World → Prop := if putCode c0 ts a = 0 then SetRes w c0 (sortT (ts ++ [a])) 0 else SetRes w 0 [] (putCode c0 ts a)

end Go.Proofs.Ytfacdmkcklimjaa
