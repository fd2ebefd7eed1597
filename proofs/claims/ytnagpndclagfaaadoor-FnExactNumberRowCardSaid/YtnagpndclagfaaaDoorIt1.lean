/- Fractions in memory; the library's greatest and least element by the program's comparison. -/
import Derived.Test.YtnagpndclagfaaaDoorBa1
import Derived.Test.YtnagpndclagfaaaDoorReads
import Derived.Test.YtnagpndclagfaaaDoorAppI
import Derived.StillTailTactics
namespace Go.Proofs.YtnagpndclagfaaaDoor
set_option linter.unusedVariables false
set_option linter.unusedSimpArgs false
open Go.RowKit Go.Sort

theorem mulM (x y z : Nat) (h : x * y = z) (hz : z ≤ 1000000) : IntKind.i64.wrap ((x : Int) * (y : Int)) = (z : Int) := by
  have e : ((x : Int) * (y : Int)) = (z : Int) := by rw [← h]; push_cast; rfl
  rw [e]; exact IntWalk.i64_in _ (by omega)
abbrev Fq := Nat × Nat
def F0 : Fq := (0, 1)
def fv (f : Fq) : Value := .agg #[.int .i64 (f.1 : Int), .int .i64 (f.2 : Int)]
def encF (f : Fq) : List Value := [.int .i64 (f.1 : Int), .int .i64 (f.2 : Int)]
def encFA (f : Fq) : Array Value := #[.int .i64 (f.1 : Int), .int .i64 (f.2 : Int)]
def flatF (fs : List Fq) : List Value := fs.flatMap encF
theorem encF_one (t : Fq) : ∀ u ∈ encF t, u.oneCell' = true := by
  intro u hu
  simp [encF] at hu
  rcases hu with rfl | rfl <;> rfl
theorem flatF_get (fs : List Fq) {k j : Nat} (hk : k < fs.length) (hj : j < 2) : (flatF fs)[k * 2 + j]? = (encF (fs.getD k F0))[j]? := by
  induction fs generalizing k with
  | nil => simp at hk
  | cons x r ih =>
    have he : (encF x).length = 2 := rfl
    cases k with
    | zero => simp only [flatF, List.flatMap_cons, Nat.zero_mul, Nat.zero_add]; rw [List.getElem?_append_left (by omega)]; rfl
    | succ k =>
      have h := ih (k := k) (by simpa using hk)
      have e1 : (k + 1) * 2 + j - (encF x).length = k * 2 + j := by rw [he]; omega
      simp only [flatF, List.flatMap_cons]
      rw [List.getElem?_append_right (by rw [he]; omega), e1]
      simpa [flatF, List.getD] using h
theorem flatF_snoc (fs : List Fq) (f : Fq) : flatF fs ++ encF f = flatF (fs ++ [f]) := by simp [flatF]
theorem info_frac : (Tryd.prog.info? 40).map (fun i => (i.zero, i.size, i.bytes)) = some (some (.agg #[.int .i64 0, .int .i64 0]), 2, 16) := by kernel_rfl
/-- A slice of fractions that can be read. -/
def FR (w : World) (A : Option Addr) (fs : List Fq) : Prop :=
  0 < fs.length → ∃ b off, A = some ⟨b, off, none⟩ ∧ b < w.heap.size ∧ ∀ k, k < fs.length → w.cell? ⟨b, off + k * 2, none⟩ = some (.int .i64 ((fs.getD k F0).1 : Int)) ∧ w.cell? ⟨b, off + k * 2 + 1, none⟩ = some (.int .i64 ((fs.getD k F0).2 : Int))
theorem FR.below {w w' : World} {A : Option Addr} {fs : List Fq} (h : FR w A fs) (hb : Below w.heap.size w w') : FR w' A fs := fun h0 => by
  obtain ⟨b, off, e, hlt, hc⟩ := h h0
  have := hb.size
  exact ⟨b, off, e, by omega, fun k hk => ⟨(hb.cell (p := ⟨b, off + k * 2, none⟩) hlt).trans (hc k hk).1, (hb.cell (p := ⟨b, off + k * 2 + 1, none⟩) hlt).trans (hc k hk).2⟩⟩
theorem own_fr {w : World} {base n : Nat} {v : Value} {fs : List Fq} (h : w.ownsRow base 40 2 v n (flatF fs)) (hl : fs.length = n) :
    ∃ A cap, v = .slice A n cap ∧ FR w A fs := by
  rcases h.2 with ⟨rfl, h0⟩ | ⟨g, cap, cur, rfl, hb, hg, hn, hm, hs, ht⟩
  · subst h0
    exact ⟨none, 0, rfl, fun h1 => by omega⟩
  · refine ⟨_, cap, rfl, fun _ => ⟨g, 0, rfl, ?_, fun k hk => ?_⟩⟩
    · rcases Nat.lt_or_ge g w.heap.size with hlt | hge
      · exact hlt
      · rw [Array.getElem?_eq_none hge] at hg; cases hg
    · have key : ∀ j, j < 2 → cur[k * 2 + j]? = (encF (fs.getD k F0))[j]? := by
        intro j hj
        rw [← flatF_get fs hk hj, ← ht, List.getElem?_take, if_pos (by omega)]
        simp
      simp only [Nat.zero_add]
      refine ⟨?_, ?_⟩
      · rw [cell_of_row w g (k * 2) cur 40 (0, 0) hg]
        have := key 0 (by omega)
        simpa [encF] using this
      · rw [cell_of_row w g (k * 2 + 1) cur 40 (0, 0) hg]
        have := key 1 (by omega)
        simpa [encF] using this
theorem readsF_new {w : World} {g : Nat} {t : Fq} (hb : w.heap[g]? = some (.cells (encFA t) 40 (0, 0))) : Reads w w.heap.size 2 (some ⟨g, 0, none⟩) 1 (encF t) := by
  have hlt : g < w.heap.size := by
    rcases Nat.lt_or_ge g w.heap.size with hlt | hge
    · exact hlt
    · rw [Array.getElem?_eq_none hge] at hb; cases hb
  refine ⟨rfl, fun _ => ⟨_, rfl, hlt, fun j u hu => ?_⟩⟩
  have := cell_of_row w g j (encFA t) 40 (0, 0) hb
  rw [Go.WideShapes.add_plain]
  simp only [Nat.zero_add]
  rw [this]
  rw [← hu]
  simp [encFA, encF]
set_option maxHeartbeats 1000000 in
theorem compareFrac_any (f m : Fq) (w : World) (h1 : f.1 * m.2 ≤ 100000) (h2 : m.1 * f.2 ≤ 100000) :
    Calls Tryd.prog 30 #[fv f, fv m] w fun e w' => e = .returned (.int .i64 (cmpI ((f.1 * m.2 : Nat) : Int) ((m.1 * f.2 : Nat) : Int))) ∧ Ext w w' := by
  obtain ⟨a, b⟩ := f
  obtain ⟨c, d⟩ := m
  simp only at h1 h2 ⊢
  obtain ⟨x, hx⟩ : ∃ x, a * d = x := ⟨_, rfl⟩
  obtain ⟨y, hy⟩ : ∃ y, c * b = y := ⟨_, rfl⟩
  have hw1 := mulM a d x hx (by omega)
  have hw2 := mulM c b y hy (by omega)
  rw [hx, hy]
  have HC := Lib.hid (fun W => compare_any (x : Int) (y : Int) W)
  generalize cmpI (x : Int) (y : Int) = z at *
  unfold fv
  simp only
  clear hx hy h1 h2
  go_enter Tryd.func30, Tryd.ntmps30
  go_wp2_with fail
  refine (HC.out _).mono ?_
  rintro e w1 ⟨rfl, rfl⟩
  go_wp2_with fail
  go_ret
  exact ⟨rfl, ((Ext.refl w).alloc _).alloc _⟩

/-- The first greatest of the fractions 0 to k. -/
def maxF (fs : List Fq) : Nat → Fq
  | 0 => fs.getD 0 F0
  | k + 1 => if (maxF fs k).1 * (fs.getD (k + 1) F0).2 < (fs.getD (k + 1) F0).1 * (maxF fs k).2 then fs.getD (k + 1) F0 else maxF fs k
def minF (fs : List Fq) : Nat → Fq
  | 0 => fs.getD 0 F0
  | k + 1 => if (fs.getD (k + 1) F0).1 * (minF fs k).2 < (minF fs k).1 * (fs.getD (k + 1) F0).2 then fs.getD (k + 1) F0 else minF fs k
def smallF (f : Fq) : Prop := f.1 ≤ 300 ∧ f.2 ≤ 300
theorem maxF_small {fs : List Fq} {n : Nat} (h : ∀ k, k < n → smallF (fs.getD k F0)) : ∀ k, k < n → smallF (maxF fs k)
  | 0, hk => h 0 hk
  | k + 1, hk => by
    simp only [maxF]
    split
    · exact h _ hk
    · exact maxF_small h k (by omega)
theorem minF_small {fs : List Fq} {n : Nat} (h : ∀ k, k < n → smallF (fs.getD k F0)) : ∀ k, k < n → smallF (minF fs k)
  | 0, hk => h 0 hk
  | k + 1, hk => by
    simp only [minF]
    split
    · exact h _ hk
    · exact minF_small h k (by omega)
theorem cmpI_gt {x y : Int} (h : y < x) : cmpI x y = 1 := by unfold cmpI; rw [if_neg (by omega), if_pos h]
theorem cmpI_le {x y : Int} (h : ¬ y < x) : cmpI x y ≤ 0 := by unfold cmpI; (repeat' split) <;> omega
theorem cmpI_lt {x y : Int} (h : x < y) : cmpI x y = -1 := by unfold cmpI; rw [if_pos h]
theorem cmpI_ge {x y : Int} (h : ¬ x < y) : 0 ≤ cmpI x y := by unfold cmpI; (repeat' split) <;> omega
theorem smul {f m : Fq} (hf : smallF f) (hm : smallF m) : f.1 * m.2 ≤ 100000 := Nat.le_trans (Nat.mul_le_mul hf.1 hm.2) (by omega)

end Go.Proofs.YtnagpndclagfaaaDoor
