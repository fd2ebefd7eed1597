/- Fractions in lowest terms on both sides; IntervalOf: the program's door. -/
import Derived.Test.YtplbjnnicmcpdaaIt2
import Derived.Test.YtplbjnnicmcpdaaGd1
import Derived.Test.YtplbjnnicmcpdaaWords3
import Derived.Deep.RegionHeld3
namespace Go.Proofs.Ytplbjnnicmcpdaa
set_option linter.unusedVariables false
set_option linter.unusedSimpArgs false
open Go.RowKit Go.Sort

/-- A fraction in lowest terms, as two numbers. -/
def lowT (f : Fq) : List Int := [((f.1 / Nat.gcd f.1 f.2 : Nat) : Int), ((f.2 / Nat.gcd f.1 f.2 : Nat) : Int)]
theorem iwr_twoL (W : World) (x y : Int) (lo : Nat) (h : lo ≤ W.heap.size) : IWr (W.alloc (Obj.cells #[.int .i64 x, .int .i64 y] 2)) lo (W.alloc (Obj.cells #[.int .i64 x, .int .i64 y] 2)).heap.size (some ⟨W.heap.size, 0, none⟩) [x, y] := fun _ =>
  ⟨_, 0, _, _, rfl, h, by simp, Blk.new W _ _, fun k hk => by
    simp only [List.length_cons, List.length_nil] at hk
    obtain rfl | rfl : k = 0 ∨ k = 1 := by omega
    all_goals simp⟩
theorem tdivN3 (k m : Nat) (hk : k ≤ 1000000) : Int.tdiv (k : Int) (m : Int) = ((k / m : Nat) : Int) ∧ IntKind.i64.wrap ((k / m : Nat) : Int) = ((k / m : Nat) : Int) := by
  have h := Nat.div_le_self k m
  refine ⟨by rw [Int.tdiv_eq_ediv_of_nonneg (by omega)]; push_cast; rfl, ?_⟩
  generalize k / m = q at h ⊢
  exact IntWalk.i64_in _ (by omega)
set_option maxRecDepth 100000 in
set_option maxHeartbeats 2000000 in
theorem inLowest_any (a b : Nat) (w : World) (hb : 0 < b) (ha : a ≤ 300) (hb3 : b ≤ 300) :
    Calls Try.prog 36 #[.agg #[.int .i64 (a : Int), .int .i64 (b : Int)]] w fun e w' => ∃ R, e = .returned (.slice R 2 2) ∧ Below w.heap.size w w' ∧ IWr w' w.heap.size w'.heap.size R (lowT (a, b)) := by
  have HG := Lib.hid (fun W => commonDivisor_any a b W (by omega) (by omega))
  have hg0 : 0 < Nat.gcd a b := Nat.gcd_pos_of_pos_right a hb
  have HT := Lib.hid (show lowT (a, b) = [((a / Nat.gcd a b : Nat) : Int), ((b / Nat.gcd a b : Nat) : Int)] from rfl)
  generalize Nat.gcd a b = g at *
  obtain ⟨W0, hW0⟩ : ∃ W0, w.alloc (Obj.cells #[.int .i64 (a : Int), .int .i64 (b : Int)] 59) = W0 := ⟨_, rfl⟩
  have hE : Ext w W0 := by rw [← hW0]; exact (Ext.refl w).alloc _
  have hP0 : Blk W0 w.heap.size 59 #[.int .i64 (a : Int), .int .i64 (b : Int)] := by rw [← hW0]; exact Blk.new w _ _
  have HE := Lib.hid hE
  have HP := Lib.hid hP0
  have i0 := hP0.rd 0 rfl
  have i1 := hP0.rd 1 rfl
  clear hE hP0
  go_enter Try.func36, Try.ntmps36
  go_wp2_with fail
  clear hW0 i0 i1
  refine (HG.out _).mono ?_
  rintro e w1 ⟨rfl, hx⟩
  have HX1 := Lib.hid (HE.out.trans hx)
  have hP1 := HP.out.ext hx
  have p0 := hP1.rd 0 rfl
  have p1 := hP1.rd 1 rfl
  have HS := Lib.hid (HX1.out.below (Nat.le_refl w.heap.size)).size
  clear hx hP1
  obtain ⟨g1, g1'⟩ := tdivN3 a g (by omega)
  obtain ⟨g2, g2'⟩ := tdivN3 b g (by omega)
  generalize a / g = x at *
  generalize b / g = y at *
  obtain ⟨y1, y1'⟩ : ¬ (g : Int) = 0 ∧ ((g : Int) == 0) = false := ⟨by omega, by rw [beq_eq_false_iff_ne]; omega⟩
  go_wp2_with fail
  have n1 : ¬ g = 0 := by omega
  go_region_held3 (fun w' => w'.cell? ⟨w.heap.size, 0, none⟩ = some (.int .i64 (a : Int)) ∧ w'.cell? ⟨w.heap.size, 1, none⟩ = some (.int .i64 (b : Int)))
    (first | exact ⟨p0, p1⟩ | go_keep) (fail)
  all_goals
    clear p0 p1 g1 g1' g2 g2' y1 y1' n1
    go_wp2_with fail
    go_ret
    exact ⟨_, rfl, ((HX1.out.alloc _).drew).below (Nat.le_refl _), by rw [HT.out]; exact (iwr_twoL w1 (x : Int) (y : Int) _ HS.out).ext ((Ext.refl _).drew)⟩
/-- Whether digits are told by IntervalOf at all, and whether a number has them. -/
def itOk (xs : List Int) : Bool := decide (1 ≤ xs.length ∧ xs.length ≤ 20) && withinB 0 5 xs
def itHas (xs : List Int) : Bool := decide ((lowE xs).1 * (highE xs).2 < (highE xs).1 * (lowE xs).2)
theorem itOk_5 {xs : List Int} (h : itOk xs = true) : (1 ≤ xs.length ∧ xs.length ≤ 20) ∧ ∀ k, k < xs.length → 0 ≤ xs.getD k 0 ∧ xs.getD k 0 ≤ 5 := by
  simp only [itOk, Bool.and_eq_true, decide_eq_true_eq] at h
  exact ⟨h.1, fun k hk => withinB_get h.2 hk⟩
theorem lowE_small {xs : List Int} (h : itOk xs = true) : smallF (lowE xs) := by
  obtain ⟨h1, h5⟩ := itOk_5 h
  exact maxF_small (lows_small h1.2 h5) _ (by omega)
theorem highE_small {xs : List Int} (h : itOk xs = true) : smallF (highE xs) := by
  obtain ⟨h1, h5⟩ := itOk_5 h
  exact minF_small (highs_small h1.2 h5) _ (by omega)
theorem maxF_pos {xs : List Int} {n : Nat} : ∀ k, k < n → 0 < (maxF (lowsF xs n) k).2
  | 0, hk => by simp only [maxF]; rw [lowsF_at xs hk]; simp
  | k + 1, hk => by
    simp only [maxF]
    split
    · rw [lowsF_at xs hk]; simp
    · exact maxF_pos k (by omega)
theorem minF_pos {xs : List Int} {n : Nat} : ∀ k, k < n → 0 < (minF (highsF xs n) k).2
  | 0, hk => by simp only [minF]; rw [highsF_at xs hk]; simp
  | k + 1, hk => by
    simp only [minF]
    split
    · rw [highsF_at xs hk]; simp
    · exact minF_pos k (by omega)
end Go.Proofs.Ytplbjnnicmcpdaa
