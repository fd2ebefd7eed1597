/- SidesByColour: both sides. -/
import Derived.Test.YtfhdgilddnndcaaHc1
import Derived.Test.YtfhdgilddnndcaaDi1
import Derived.Lib.Hide
namespace Go.Proofs.Ytfhdgilddnndcaa
set_option linter.unusedVariables false
set_option linter.unusedSimpArgs false
open Go.RowKit Go.Sort

def colsT (x : Tl) : Nat → Int
  | 0 => x.1
  | 1 => x.2.1
  | 2 => x.2.2.1
  | _ => x.2.2.2
def cntT (x : Tl) : Nat → Nat → Nat
  | 0, _ => 0
  | m + 1, c => cntT x m c + if colsT x m = (c : Int) then 1 else 0
def cntL (ts : List Tl) : Nat → Nat → Nat
  | 0, _ => 0
  | k + 1, c => cntL ts k c + cntT (ts.getD k T0) 4 c
theorem cntT_le (x : Tl) (c : Nat) : ∀ m, cntT x m c ≤ m
  | 0 => Nat.le_refl _
  | m + 1 => by have := cntT_le x c m; simp only [cntT]; split <;> omega
theorem cntL_le (ts : List Tl) (c : Nat) : ∀ k, cntL ts k c ≤ 4 * k
  | 0 => Nat.le_refl _
  | k + 1 => by have := cntL_le ts c k; have := cntT_le (ts.getD k T0) c 4; simp only [cntL]; omega
theorem colsT_ok {x : Tl} (h : tileOk 6 x = true) (m : Nat) : 0 ≤ colsT x m ∧ colsT x m < 6 := by
  simp only [tileOk, decide_eq_true_eq] at h
  match m with
  | 0 => exact ⟨h.1, h.2.1⟩
  | 1 => exact ⟨h.2.2.1, h.2.2.2.1⟩
  | 2 => exact ⟨h.2.2.2.2.1, h.2.2.2.2.2.1⟩
  | n + 3 => exact ⟨h.2.2.2.2.2.2.1, h.2.2.2.2.2.2.2⟩
def sidesL (ts : List Tl) : List Int := listD 6 fun j => (cntL ts ts.length j : Int)
theorem sidesL_len (ts : List Tl) : (sidesL ts).length = 6 := listD_len _ _
theorem cell4_cols {w : World} {b o : Nat} {x : Tl} (h : Cell4 w b o x) {m : Nat} (hm : m < 4) : w.cell? ⟨b, o + m, none⟩ = some (.int .i64 (colsT x m)) := by
  obtain rfl | rfl | rfl | rfl : m = 0 ∨ m = 1 ∨ m = 2 ∨ m = 3 := by omega
  · exact h.1
  · exact h.2.1
  · exact h.2.2.1
  · exact h.2.2.2
theorem step_cnt (ts : List Tl) (k m : Nat) (c : Nat) {x : Tl} (hx : x = ts.getD k T0) (hc : colsT x m = (c : Int)) (j : Nat) :
    (if j = c then ((cntL ts k c + cntT x m c : Nat) : Int) + 1 else ((cntL ts k j + cntT x m j : Nat) : Int)) = ((cntL ts k j + cntT x (m + 1) j : Nat) : Int) := by
  simp only [cntT, hc]
  by_cases e : j = c
  · subst e
    simp only [if_true]
    push_cast
    omega
  · rw [if_neg e, if_neg (by omega)]
    simp
theorem last_cnt (ts : List Tl) (k : Nat) {x : Tl} (hx : x = ts.getD k T0) (j : Nat) : ((cntL ts k j + cntT x 4 j : Nat) : Int) = ((cntL ts (k + 1) j : Nat) : Int) := by rw [hx]; rfl
theorem first_cnt (ts : List Tl) (k : Nat) (x : Tl) (j : Nat) : ((cntL ts k j : Nat) : Int) = ((cntL ts k j + cntT x 0 j : Nat) : Int) := by simp [cntT]
theorem DI.zero6 (w : World) : DI (w.alloc (Obj.cells #[.int .i64 0, .int .i64 0, .int .i64 0, .int .i64 0, .int .i64 0, .int .i64 0] 2)) w.heap.size 6 (fun _ => 0) :=
  ⟨_, Blk.new w _ _, rfl, fun j hj => by
    obtain rfl | rfl | rfl | rfl | rfl | rfl : j = 0 ∨ j = 1 ∨ j = 2 ∨ j = 3 ∨ j = 4 ∨ j = 5 := by omega
    all_goals rfl⟩

/-- A function that makes a list of numbers hands back: these in new memory, this code. -/
def LsRes (w : World) (ys : List Int) (code : Int) (e : Ending) (w' : World) : Prop := ∃ R p, e = .returned (.tuple #[.slice R ys.length p, .int .i64 code]) ∧ Below w.heap.size w w' ∧ IWr w' w.heap.size w'.heap.size R ys

set_option maxRecDepth 100000 in
set_option maxHeartbeats 1000000 in
theorem specSides_2 (A0 : Option Addr) (n0 q0 : Nat) (ts : List Tl) (w : World) (hn0 : n0 ≤ 1048576) (hl0 : ts.length = n0) (hA0 : TR w w.heap.size A0 ts) (h : n0 ≤ 70 → allOk 6 ts = false) :
    Calls Try.prog 35 #[.slice A0 n0 q0] w (LsRes w [] 2) := by
  unfold LsRes
  by_cases h70 : n0 ≤ 70
  · have hc := l07Tiles_any A0 n0 q0 ts w hn0 hl0 hA0
    have hcode : tilesCode ts = 2 := by unfold tilesCode; rw [h h70]; rfl
    rw [hcode] at hc
    have HC := Lib.hid hc
    have h7 : ¬ (70 : Int) < (n0 : Int) := by omega
    clear hc hcode h hA0
    go_enter Try.func35, Try.ntmps35
    go_wp2_with fail
    refine HC.out.mono ?_
    rintro e w1 ⟨rfl, hx⟩
    have HX := Lib.hid hx
    clear hx
    go_wp2_with fail
    go_ret2
    exact ⟨none, 0, rfl, HX.out.below (Nat.le_refl _), fun h => absurd h (Nat.lt_irrefl _)⟩
  · have h7 : (70 : Int) < (n0 : Int) := by omega
    clear hA0 h
    go_enter Try.func35, Try.ntmps35
    go_wp2_with fail
    go_ret2
    exact ⟨none, 0, rfl, Below.refl _ _, fun h => absurd h (Nat.lt_irrefl _)⟩
set_option maxRecDepth 100000 in
set_option maxHeartbeats 1000000 in
theorem implSides_2 (A0 : Option Addr) (n0 q0 : Nat) (ts : List Tl) (w : World) (hn0 : n0 ≤ 1048576) (hl0 : ts.length = n0) (hA0 : TR w w.heap.size A0 ts) (h : n0 ≤ 70 → allOk 6 ts = false) :
    Calls Try.prog 36 #[.slice A0 n0 q0] w (LsRes w [] 2) := by
  unfold LsRes
  by_cases h70 : n0 ≤ 70
  · have hc := haveColours_any A0 n0 q0 ts 6 w hn0 hl0 hA0
    rw [h h70] at hc
    have HC := Lib.hid hc
    have h7 : ¬ (70 : Int) < (n0 : Int) := by omega
    clear hc h hA0
    go_enter Try.func36, Try.ntmps36
    go_wp2_with fail
    refine HC.out.mono ?_
    rintro e w1 ⟨rfl, hx⟩
    have HX := Lib.hid hx
    clear hx
    go_wp2_with fail
    go_ret2
    exact ⟨none, 0, rfl, HX.out.below (Nat.le_refl _), fun h => absurd h (Nat.lt_irrefl _)⟩
  · have h7 : (70 : Int) < (n0 : Int) := by omega
    clear hA0 h
    go_enter Try.func36, Try.ntmps36
    go_wp2_with fail
    go_ret2
    exact ⟨none, 0, rfl, Below.refl _ _, fun h => absurd h (Nat.lt_irrefl _)⟩

set_option maxRecDepth 100000 in
set_option maxHeartbeats 2000000 in
theorem specSides_0 (A0 : Option Addr) (n0 q0 : Nat) (ts : List Tl) (w : World) (hn0 : n0 ≤ 70) (hl0 : ts.length = n0) (hA0 : TR w w.heap.size A0 ts) (hall : allOk 6 ts = true) :
    Calls Try.prog 35 #[.slice A0 n0 q0] w (LsRes w (sidesL ts) 0) := by
  have hc := l07Tiles_any A0 n0 q0 ts w (by omega) hl0 hA0
  have hcode : tilesCode ts = 0 := by unfold tilesCode; rw [hall]; rfl
  rw [hcode] at hc
  have HC := Lib.hid hc
  have HALL := Lib.hid hall
  have HA := Lib.hid hA0
  have h7 : ¬ (70 : Int) < (n0 : Int) := by omega
  have hmk : ∀ W, (Instr.makeSlice 49 (.int .i64 6) (.int .i64 6)).run Try.prog W = .ok (.slice (some ⟨W.heap.size, 0, none⟩) 6 6) (W.alloc (Obj.cells #[.int .i64 0, .int .i64 0, .int .i64 0, .int .i64 0, .int .i64 0, .int .i64 0] 2)) := fun _ => by kernel_rfl
  unfold LsRes
  rw [sidesL_len]
  clear hc hcode hall hA0
  go_enter Try.func35, Try.ntmps35
  go_wp2_with fail
  refine HC.out.mono ?_
  rintro e w1 ⟨rfl, hx⟩
  have HX := Lib.hid hx
  have hs1 := (hx.below (Nat.le_refl _)).size
  clear hx
  go_wp2_with fail
  have HD0 := Lib.hid (DI.zero6 w1)
  have HK0 := Lib.hid (((HX.out.alloc (Obj.cells #[.int .i64 0, .int .i64 0, .int .i64 0, .int .i64 0, .int .i64 0, .int .i64 0] 2))).below (Nat.le_refl w.heap.size))
  generalize (w1.alloc (Obj.cells #[.int .i64 0, .int .i64 0, .int .i64 0, .int .i64 0, .int .i64 0, .int .i64 0] 2)) = W0 at *
  clear hmk
  go_loopw [5] (fun i wr => ∃ k : Nat, k ≤ n0 ∧ i = .int .i64 k ∧ DI wr w1.heap.size 6 (fun j => ((cntL ts k j : Nat) : Int)) ∧ Below w.heap.size w wr) (fun i _ => n0 - (intOf i).toNat)
  case atStart => exact ⟨0, Nat.zero_le _, rfl, HD0.out, HK0.out⟩
  case round =>
    obtain ⟨k, hk, rfl, hdi, hb⟩ := hrel
    have HDI := Lib.hid hdi
    have HB := Lib.hid hb
    obtain ⟨wo, rfl⟩ : ∃ wo : World, wo = wr := ⟨_, rfl⟩
    by_cases hlt : k < n0
    · have b3 : (k : Int) < (n0 : Int) := by omega
      obtain ⟨x, hx⟩ : ∃ x, x = ts.getD k T0 := ⟨_, rfl⟩
      have HXX := Lib.hid hx
      have hok := allOk_get HALL.out (k := k) (by omega)
      rw [← hx] at hok
      have HOK := Lib.hid hok
      have HD1 := Lib.hid (hdi.congr (d' := fun j => ((cntL ts k j + cntT x 0 j : Nat) : Int)) fun j hj => first_cnt ts k x j)
      clear hdi hb hx hok
      go_wp2_with fail
      go_loopw [6] (fun i wr => ∃ m : Nat, m ≤ 4 ∧ i = .int .i64 m ∧ DI wr w1.heap.size 6 (fun j => ((cntL ts k j + cntT x m j : Nat) : Int)) ∧ Below w.heap.size w wr) (fun i _ => 4 - (intOf i).toNat)
      case atStart => exact ⟨0, by omega, rfl, HD1.out, HB.out⟩
      case round =>
        obtain ⟨m, hm, rfl, hdi, hb⟩ := hrel
        by_cases hlt4 : m < 4
        · obtain ⟨b0, o, rfl, hbb, ht⟩ := (HA.out.below hb (Nat.le_refl _)) (by omega)
          replace ht := ht k (by omega)
          rw [← HXX.out] at ht
          have q1 := cell4_cols ht hlt4
          have hco := colsT_ok HOK.out m
          obtain ⟨c, hcc⟩ : ∃ c : Nat, colsT x m = (c : Int) := ⟨(colsT x m).toNat, by omega⟩
          rw [hcc] at q1 hco
          have hc6 : c < 6 := by omega
          have hc6i : (c : Int) < 6 := by omega
          have hc0 : (0 : Int) ≤ (c : Int) := by omega
          have hm4 : (m : Int) < 4 := by omega
          obtain ⟨d1, z1⟩ := hdi.at_ hc6
          have hle := cntL_le ts c k
          have hle2 := cntT_le x c m
          have HD2 := Lib.hid ((hdi.set_ hc6 (((cntL ts k c + cntT x m c : Nat) : Int) + 1)).congr (d' := fun j => ((cntL ts k j + cntT x (m + 1) j : Nat) : Int)) fun j hj => step_cnt ts k m c HXX.out hcc j)
          have HB2 := Lib.hid (hb.setCell (p := ⟨w1.heap.size, c, none⟩) hs1 (.int .i64 (((cntL ts k c + cntT x m c : Nat) : Int) + 1)))
          generalize hv : ((cntL ts k c + cntT x m c : Nat) : Int) = v at *
          have hv0 : 0 ≤ v ∧ v ≤ 1000 := by omega
          obtain ⟨hv0, hv1⟩ := hv0
          have hwv : IntKind.i64.wrap (v + 1) = v + 1 := IntWalk.i64_in _ (by omega)
          clear hdi hb ht hcc hco hle hle2 hv
          go_wp2_with fail
          go_roundw
          case rel => exact ⟨m + 1, by omega, by go_num, HD2.out, HB2.out⟩
          case measure => simp [intOf]; omega
        · obtain rfl : m = 4 := by omega
          have HD2 := Lib.hid (hdi.congr (d' := fun j => ((cntL ts (k + 1) j : Nat) : Int)) fun j hj => last_cnt ts k HXX.out j)
          have HB2 := Lib.hid hb
          clear hdi hb
          go_wp2_with fail
          go_roundw
          case rel => exact ⟨k + 1, by omega, by go_num, HD2.out, HB2.out⟩
          case measure => simp [intOf]; omega
    · obtain rfl : k = n0 := by omega
      clear hdi hb
      go_wp2_with fail
      go_ret2
      exact ⟨_, _, rfl, HB.out, by have h := HDI.out.iwr (lo := w.heap.size) (hi := World.heap _ |>.size) hs1 HDI.out.lt; rw [← hl0] at h; exact h⟩

set_option maxRecDepth 100000 in
set_option maxHeartbeats 2000000 in
theorem implSides_0 (A0 : Option Addr) (n0 q0 : Nat) (ts : List Tl) (w : World) (hn0 : n0 ≤ 70) (hl0 : ts.length = n0) (hA0 : TR w w.heap.size A0 ts) (hall : allOk 6 ts = true) :
    Calls Try.prog 36 #[.slice A0 n0 q0] w (LsRes w (sidesL ts) 0) := by
  have hc := haveColours_any A0 n0 q0 ts 6 w (by omega) hl0 hA0
  rw [hall] at hc
  have HC := Lib.hid hc
  have HALL := Lib.hid hall
  have HA := Lib.hid hA0
  have h7 : ¬ (70 : Int) < (n0 : Int) := by omega
  have hmk : ∀ W, (Instr.makeSlice 49 (.int .i64 6) (.int .i64 6)).run Try.prog W = .ok (.slice (some ⟨W.heap.size, 0, none⟩) 6 6) (W.alloc (Obj.cells #[.int .i64 0, .int .i64 0, .int .i64 0, .int .i64 0, .int .i64 0, .int .i64 0] 2)) := fun _ => by kernel_rfl
  unfold LsRes
  rw [sidesL_len]
  clear hc hall hA0
  go_enter Try.func36, Try.ntmps36
  go_wp2_with fail
  refine HC.out.mono ?_
  rintro e w1 ⟨rfl, hx⟩
  have HX := Lib.hid hx
  have hs1 := (hx.below (Nat.le_refl _)).size
  clear hx
  go_wp2_with fail
  have HD0 := Lib.hid (DI.zero6 w1)
  have HK0 := Lib.hid (((HX.out.alloc (Obj.cells #[.int .i64 0, .int .i64 0, .int .i64 0, .int .i64 0, .int .i64 0, .int .i64 0] 2))).below (Nat.le_refl w.heap.size))
  generalize (w1.alloc (Obj.cells #[.int .i64 0, .int .i64 0, .int .i64 0, .int .i64 0, .int .i64 0, .int .i64 0] 2)) = W0 at *
  clear hmk
  go_loopw [20] (fun i wr => ∃ k : Nat, k ≤ n0 ∧ i = .int .i64 k ∧ DI wr w1.heap.size 6 (fun j => ((cntL ts k j : Nat) : Int)) ∧ Below w.heap.size w wr) (fun i _ => n0 - (intOf i).toNat)
  case atStart => exact ⟨0, Nat.zero_le _, rfl, HD0.out, HK0.out⟩
  case round =>
    obtain ⟨k, hk, rfl, hdi, hb⟩ := hrel
    have HDI := Lib.hid hdi
    have HB := Lib.hid hb
    obtain ⟨wo, rfl⟩ : ∃ wo : World, wo = wr := ⟨_, rfl⟩
    by_cases hlt : k < n0
    · have b3 : (k : Int) < (n0 : Int) := by omega
      obtain ⟨b0, o, rfl, hbb, ht⟩ := (HA.out.below hb (Nat.le_refl _)) (by omega)
      replace ht := ht k (by omega)
      obtain ⟨⟨x0, x1, x2, x3⟩, hx⟩ : ∃ x, x = ts.getD k T0 := ⟨_, rfl⟩
      rw [← hx] at ht
      have HXX := Lib.hid hx
      have hok := allOk_get HALL.out (k := k) (by omega)
      rw [← hx] at hok
      have HOK := Lib.hid hok
      obtain ⟨c0, c1, c2, c3⟩ := ht
      simp only at c0 c1 c2 c3
      have hidx : ∀ m : Nat, m < 4 → ∀ W, (Instr.index 38 (.agg #[.int .i64 x0, .int .i64 x1, .int .i64 x2, .int .i64 x3]) (.int .i64 (m : Int))).run Try.prog W = .ok (.int .i64 (colsT (x0, x1, x2, x3) m)) W := fun m hm W => by
        obtain rfl | rfl | rfl | rfl : m = 0 ∨ m = 1 ∨ m = 2 ∨ m = 3 := by omega
        all_goals kernel_rfl
      have HIDX := Lib.hid hidx
      have HD1 := Lib.hid ((hdi.ext ((Ext.refl _).alloc (Obj.cells #[.int .i64 x0, .int .i64 x1, .int .i64 x2, .int .i64 x3] 38))).congr (d' := fun j => ((cntL ts k j + cntT (x0, x1, x2, x3) 0 j : Nat) : Int)) fun j hj => first_cnt ts k _ j)
      have HB1 := Lib.hid (hb.alloc hb.size (Obj.cells #[.int .i64 x0, .int .i64 x1, .int .i64 x2, .int .i64 x3] 38))
      clear hdi hb hx hok hidx
      go_wp2_with fail
      clear c0 c1 c2 c3
      generalize (wo.alloc (Obj.cells #[.int .i64 x0, .int .i64 x1, .int .i64 x2, .int .i64 x3] 38)) = W5 at *
      go_loopw [25] (fun i wr => ∃ m : Nat, m ≤ 4 ∧ i = .int .i64 m ∧ DI wr w1.heap.size 6 (fun j => ((cntL ts k j + cntT (x0, x1, x2, x3) m j : Nat) : Int)) ∧ Below w.heap.size w wr) (fun i _ => 4 - (intOf i).toNat)
      case atStart => exact ⟨0, by omega, rfl, HD1.out, HB1.out⟩
      case round =>
        obtain ⟨m, hm, rfl, hdi, hb⟩ := hrel
        by_cases hlt4 : m < 4
        · have hix := HIDX.out m hlt4
          have hco := colsT_ok HOK.out m
          obtain ⟨c, hcc⟩ : ∃ c : Nat, colsT (x0, x1, x2, x3) m = (c : Int) := ⟨(colsT (x0, x1, x2, x3) m).toNat, by omega⟩
          rw [hcc] at hix hco
          have hc6 : c < 6 := by omega
          have hc6i : (c : Int) < 6 := by omega
          have hc0 : (0 : Int) ≤ (c : Int) := by omega
          have hm4 : (m : Int) < 4 := by omega
          obtain ⟨d1, z1⟩ := hdi.at_ hc6
          have hle := cntL_le ts c k
          have hle2 := cntT_le (x0, x1, x2, x3) c m
          have HD2 := Lib.hid ((hdi.set_ hc6 (((cntL ts k c + cntT (x0, x1, x2, x3) m c : Nat) : Int) + 1)).congr (d' := fun j => ((cntL ts k j + cntT (x0, x1, x2, x3) (m + 1) j : Nat) : Int)) fun j hj => step_cnt ts k m c HXX.out hcc j)
          have HB2 := Lib.hid (hb.setCell (p := ⟨w1.heap.size, c, none⟩) hs1 (.int .i64 (((cntL ts k c + cntT (x0, x1, x2, x3) m c : Nat) : Int) + 1)))
          generalize hv : ((cntL ts k c + cntT (x0, x1, x2, x3) m c : Nat) : Int) = v at *
          have hv0 : 0 ≤ v ∧ v ≤ 1000 := by omega
          obtain ⟨hv0, hv1⟩ := hv0
          have hwv : IntKind.i64.wrap (v + 1) = v + 1 := IntWalk.i64_in _ (by omega)
          clear hdi hb hcc hco hle hle2 hv
          go_wp2_with fail
          go_roundw
          case rel => exact ⟨m + 1, by omega, by go_num, HD2.out, HB2.out⟩
          case measure => simp [intOf]; omega
        · obtain rfl : m = 4 := by omega
          have HD2 := Lib.hid (hdi.congr (d' := fun j => ((cntL ts (k + 1) j : Nat) : Int)) fun j hj => last_cnt ts k HXX.out j)
          have HB2 := Lib.hid hb
          clear hdi hb
          go_wp2_with fail
          go_roundw
          case rel => exact ⟨k + 1, by omega, by go_num, HD2.out, HB2.out⟩
          case measure => simp [intOf]; omega
    · obtain rfl : k = n0 := by omega
      clear hdi hb
      go_wp2_with fail
      go_ret2
      exact ⟨_, _, rfl, HB.out, by have h := HDI.out.iwr (lo := w.heap.size) (hi := World.heap _ |>.size) hs1 HDI.out.lt; rw [← hl0] at h; exact h⟩
end Go.Proofs.Ytfhdgilddnndcaa
