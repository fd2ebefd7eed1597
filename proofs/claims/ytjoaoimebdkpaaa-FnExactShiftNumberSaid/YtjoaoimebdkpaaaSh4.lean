/- LeastForm, ShiftsKept and ShiftNumber, both sides. -/
import Derived.Test.YtjoaoimebdkpaaaTo8
namespace Go.Proofs.Ytjoaoimebdkpaaa
set_option linter.unusedVariables false
set_option linter.unusedSimpArgs false
open Go.RowKit Go.Sort

theorem pre_le5 {rs : List (List Int)} {wd : Nat} (h : ∀ k, k < rs.length → (rs.getD k []).length ≤ wd) : ∀ k, k ≤ rs.length → pre rs k ≤ k * wd
  | 0, _ => by simp [pre]
  | k + 1, hk => by
    have := pre_le5 h k (by omega)
    rw [pre_succ (by omega), Nat.succ_mul]
    have := h k (by omega)
    omega
theorem need_le5 {rs : List (List Int)} {wd : Nat} (hl : rs.length ≤ 64) (hw : wd ≤ 64) (hr : ∀ k, k < rs.length → (rs.getD k []).length ≤ wd) : need rs ≤ 65536 := by
  have h1 := pre_le5 hr rs.length (Nat.le_refl _)
  have h2 : rs.length * wd ≤ 64 * 64 := Nat.mul_le_mul (by omega) hw
  unfold need
  omega
theorem torCode_ok {c0 : Int} {ts : List Tl} {rs : List (List Int)} (h : torCode c0 ts rs = 0) : fillCode c0 ts rs = 0 ∧ torAns c0 ts rs = true := by
  unfold torCode at h
  split at h
  · rename_i hf
    split at h
    · exact ⟨hf, by assumption⟩
    · cases h
  · rename_i hf
    exact absurd h hf
theorem tor_shape {c0 : Int} {ts : List Tl} {rs : List (List Int)} {m : Nat} (h : torCode c0 ts rs = 0) (hl : rs.length = m) : (1 ≤ m ∧ m ≤ 8) ∧ (1 ≤ (rs.getD 0 []).length ∧ (rs.getD 0 []).length ≤ 8) ∧ Shape m (rs.getD 0 []).length rs := by
  obtain ⟨h1, h2, h3⟩ := rowsOk_facts (fillCode_ok (torCode_ok h).1).2 hl
  exact ⟨h1, h2, hl, h3⟩
/-- What a function hands back that gives a number and a code. -/
def NumRes (w : World) (z code : Int) (e : Ending) (w' : World) : Prop := e = .returned (.tuple #[.int .i64 z, .int .i64 code]) ∧ Below w.heap.size w w'
def shiftNum (rs : List (List Int)) : Int := Int.tdiv ((rs.length : Int) * ((rs.getD 0 []).length : Int)) ((keptUp rs (rs.length * (rs.getD 0 []).length)).length : Int)


set_option maxRecDepth 100000 in
set_option maxHeartbeats 4000000 in
theorem implLeastForm_no (c0 : Int) (A : Option Addr) (n c : Nat) (ts : List Tl) (B : Option Addr) (m d : Nat) (rs : List (List Int)) (w : World) (hn : n ≤ 1048576) (hl : ts.length = n) (hA : TR w w.heap.size A ts) (hm' : m ≤ 1048576) (hlr : rs.length = m) (hB : IRR w w.heap.size B rs) (hrow : ∀ k, k < m → (rs.getD k []).length ≤ 1048576) (hz : torCode c0 ts rs ≠ 0) :
    Calls Try.prog 31 #[.agg #[.int .i64 c0, .slice A n c], .slice B m d] w (RowsRes w [] (torCode c0 ts rs)) := by
  have hct : ∀ W, Below w.heap.size w W → Calls Try.prog 71 #[.agg #[.int .i64 c0, .slice A n c], .slice B m d] W (fun e w' => e = .returned (.int .i64 (torCode c0 ts rs)) ∧ Below W.heap.size W w') := fun W hW => checkTorus_any c0 A n c ts B m d rs W hn hl ((hA.below hW (Nat.le_refl _)).more hW.size) hm' hlr ((hB.below hW (Nat.le_refl _)).more hW.size) hrow
  generalize torCode c0 ts rs = code at *
  have hne : (code != 0) = true := by simp [hz]
  have HI := Lib.hid hct
  clear hct hA hB hrow
  go_enter Try.func31, Try.ntmps31
  go_wp2_with fail
  have hb1 := ((Ext.refl w).alloc (Obj.cells #[.int .i64 c0, .slice A n c] 32)).below (Nat.le_refl w.heap.size)
  generalize w.alloc (Obj.cells #[.int .i64 c0, .slice A n c] 32) = w1 at *
  have HB1 := Lib.hid hb1
  clear hb1
  refine (HI.out _ HB1.out).mono ?_
  rintro e w2 ⟨rfl, hb⟩
  have HB2 := Lib.hid (HB1.out.trans (hb.mono HB1.out.size))
  clear hb
  go_wp2_with fail
  go_ret2
  exact RowsRes.none_ HB2.out

set_option maxRecDepth 100000 in
set_option maxHeartbeats 4000000 in
theorem implLeastForm_0 (c0 : Int) (A : Option Addr) (n c : Nat) (ts : List Tl) (B : Option Addr) (m d : Nat) (rs : List (List Int)) (w : World) (hn : n ≤ 1048576) (hl : ts.length = n) (hA : TR w w.heap.size A ts) (hm' : m ≤ 1048576) (hlr : rs.length = m) (hB : IRR w w.heap.size B rs) (hrow : ∀ k, k < m → (rs.getD k []).length ≤ 1048576) (hmd : m ≤ d) (hz : torCode c0 ts rs = 0) :
    Calls Try.prog 31 #[.agg #[.int .i64 c0, .slice A n c], .slice B m d] w (RowsRes w (leastUp rs (m * (rs.getD 0 []).length)) 0) := by
  have hct : ∀ W, Below w.heap.size w W → Calls Try.prog 71 #[.agg #[.int .i64 c0, .slice A n c], .slice B m d] W (fun e w' => e = .returned (.int .i64 (torCode c0 ts rs)) ∧ Below W.heap.size W w') := fun W hW => checkTorus_any c0 A n c ts B m d rs W hn hl ((hA.below hW (Nat.le_refl _)).more hW.size) hm' hlr ((hB.below hW (Nat.le_refl _)).more hW.size) hrow
  rw [hz] at hct
  obtain ⟨hm, hw, hsh⟩ := tor_shape hz hlr
  generalize hwd : (rs.getD 0 []).length = wd at *
  have hin : ∀ W, Below w.heap.size w W → Calls Try.prog 72 #[.slice B m d] W _ := fun W hW => callsIn_wide.1 (leastForm_in 3 (Nat.le_refl _) B m d wd rs W hm hmd hw hsh ((hB.below hW (Nat.le_refl _)).more hW.size))
  have HI := Lib.hid hct
  have HN := Lib.hid hin
  have hvl : (leastUp rs (m * wd)).length = m := (hsh.least (by omega) _ (Nat.le_refl _)).1
  clear hct hin hA hB hrow hwd
  go_enter Try.func31, Try.ntmps31
  go_wp2_with fail
  have hb1 := ((Ext.refl w).alloc (Obj.cells #[.int .i64 c0, .slice A n c] 32)).below (Nat.le_refl w.heap.size)
  generalize w.alloc (Obj.cells #[.int .i64 c0, .slice A n c] 32) = w1 at *
  have HB1 := Lib.hid hb1
  clear hb1
  refine (HI.out _ HB1.out).mono ?_
  rintro e w2 ⟨rfl, hb⟩
  have HB2 := Lib.hid (HB1.out.trans (hb.mono HB1.out.size))
  clear hb
  go_wp2_with fail
  refine (HN.out _ HB2.out).mono ?_
  rintro e w3 ⟨A3, cap3, rfl, hiw, hb⟩
  have HB3 := Lib.hid (HB2.out.trans (hb.mono HB2.out.size))
  have HW3 := Lib.hid (hiw.lo_ HB2.out.size)
  clear hb hiw
  go_wp2_with fail
  go_ret2
  exact ⟨A3, cap3, by first | rfl | (rw [hvl]; rfl), HB3.out, HW3.out⟩

set_option maxRecDepth 100000 in
set_option maxHeartbeats 4000000 in
theorem specLeastForm_no (c0 : Int) (A : Option Addr) (n c : Nat) (ts : List Tl) (B : Option Addr) (m d : Nat) (rs : List (List Int)) (w : World) (hn : n ≤ 1048576) (hl : ts.length = n) (hA : TR w w.heap.size A ts) (hm' : m ≤ 1048576) (hlr : rs.length = m) (hB : IRR w w.heap.size B rs) (hrow : ∀ k, k < m → (rs.getD k []).length ≤ 1048576) (hz : torCode c0 ts rs ≠ 0) :
    Calls Try.prog 30 #[.agg #[.int .i64 c0, .slice A n c], .slice B m d] w (RowsRes w [] (torCode c0 ts rs)) := by
  have hct : ∀ W, Below w.heap.size w W → Calls Try.prog 66 #[.agg #[.int .i64 c0, .slice A n c], .slice B m d] W (fun e w' => e = .returned (.int .i64 (torCode c0 ts rs)) ∧ Below W.heap.size W w') := fun W hW => (l05Given_any c0 A n c ts B m d rs W hn hl ((hA.below hW (Nat.le_refl _)).more hW.size) hm' hlr ((hB.below hW (Nat.le_refl _)).more hW.size) hrow).mono fun e w' h => ⟨h.1, h.2.below (Nat.le_refl _)⟩
  generalize torCode c0 ts rs = code at *
  have hne : (code != 0) = true := by simp [hz]
  have HI := Lib.hid hct
  clear hct hA hB hrow
  go_enter Try.func30, Try.ntmps30
  go_wp2_with fail
  have hb1 := ((Ext.refl w).alloc (Obj.cells #[.int .i64 c0, .slice A n c] 32)).below (Nat.le_refl w.heap.size)
  generalize w.alloc (Obj.cells #[.int .i64 c0, .slice A n c] 32) = w1 at *
  have HB1 := Lib.hid hb1
  clear hb1
  refine (HI.out _ HB1.out).mono ?_
  rintro e w2 ⟨rfl, hb⟩
  have HB2 := Lib.hid (HB1.out.trans (hb.mono HB1.out.size))
  clear hb
  go_wp2_with fail
  go_ret2
  exact RowsRes.none_ HB2.out

set_option maxRecDepth 100000 in
set_option maxHeartbeats 4000000 in
theorem specLeastForm_0 (c0 : Int) (A : Option Addr) (n c : Nat) (ts : List Tl) (B : Option Addr) (m d : Nat) (rs : List (List Int)) (w : World) (hn : n ≤ 1048576) (hl : ts.length = n) (hA : TR w w.heap.size A ts) (hm' : m ≤ 1048576) (hlr : rs.length = m) (hB : IRR w w.heap.size B rs) (hrow : ∀ k, k < m → (rs.getD k []).length ≤ 1048576) (hz : torCode c0 ts rs = 0) :
    Calls Try.prog 30 #[.agg #[.int .i64 c0, .slice A n c], .slice B m d] w (RowsRes w (leastUp rs (m * (rs.getD 0 []).length)) 0) := by
  have hct : ∀ W, Below w.heap.size w W → Calls Try.prog 66 #[.agg #[.int .i64 c0, .slice A n c], .slice B m d] W (fun e w' => e = .returned (.int .i64 (torCode c0 ts rs)) ∧ Below W.heap.size W w') := fun W hW => (l05Given_any c0 A n c ts B m d rs W hn hl ((hA.below hW (Nat.le_refl _)).more hW.size) hm' hlr ((hB.below hW (Nat.le_refl _)).more hW.size) hrow).mono fun e w' h => ⟨h.1, h.2.below (Nat.le_refl _)⟩
  rw [hz] at hct
  obtain ⟨hm, hw, hsh⟩ := tor_shape hz hlr
  generalize hwd : (rs.getD 0 []).length = wd at *
  have hin : ∀ W, Below w.heap.size w W → Calls Try.prog 70 #[.slice B m d] W _ := fun W hW => l05Least_any B m d rs wd W hm hw hsh ((hB.below hW (Nat.le_refl _)).more hW.size)
  have HI := Lib.hid hct
  have HN := Lib.hid hin
  have hvl : (leastUp rs (m * wd)).length = m := (hsh.least (by omega) _ (Nat.le_refl _)).1
  clear hct hin hA hB hrow hwd
  go_enter Try.func30, Try.ntmps30
  go_wp2_with fail
  have hb1 := ((Ext.refl w).alloc (Obj.cells #[.int .i64 c0, .slice A n c] 32)).below (Nat.le_refl w.heap.size)
  generalize w.alloc (Obj.cells #[.int .i64 c0, .slice A n c] 32) = w1 at *
  have HB1 := Lib.hid hb1
  clear hb1
  refine (HI.out _ HB1.out).mono ?_
  rintro e w2 ⟨rfl, hb⟩
  have HB2 := Lib.hid (HB1.out.trans (hb.mono HB1.out.size))
  clear hb
  go_wp2_with fail
  refine (HN.out _ HB2.out).mono ?_
  rintro e w3 ⟨A3, cap3, rfl, hiw, hb⟩
  have HB3 := Lib.hid (HB2.out.trans (hb.mono HB2.out.size))
  have HW3 := Lib.hid (hiw.lo_ HB2.out.size)
  clear hb hiw
  go_wp2_with fail
  go_ret2
  exact ⟨A3, cap3, by first | rfl | (rw [hvl]; rfl), HB3.out, HW3.out⟩

set_option maxRecDepth 100000 in
set_option maxHeartbeats 4000000 in
theorem implShiftsKept_no (c0 : Int) (A : Option Addr) (n c : Nat) (ts : List Tl) (B : Option Addr) (m d : Nat) (rs : List (List Int)) (w : World) (hn : n ≤ 1048576) (hl : ts.length = n) (hA : TR w w.heap.size A ts) (hm' : m ≤ 1048576) (hlr : rs.length = m) (hB : IRR w w.heap.size B rs) (hrow : ∀ k, k < m → (rs.getD k []).length ≤ 1048576) (hz : torCode c0 ts rs ≠ 0) :
    Calls Try.prog 33 #[.agg #[.int .i64 c0, .slice A n c], .slice B m d] w (RowsRes w [] (torCode c0 ts rs)) := by
  have hct : ∀ W, Below w.heap.size w W → Calls Try.prog 71 #[.agg #[.int .i64 c0, .slice A n c], .slice B m d] W (fun e w' => e = .returned (.int .i64 (torCode c0 ts rs)) ∧ Below W.heap.size W w') := fun W hW => checkTorus_any c0 A n c ts B m d rs W hn hl ((hA.below hW (Nat.le_refl _)).more hW.size) hm' hlr ((hB.below hW (Nat.le_refl _)).more hW.size) hrow
  generalize torCode c0 ts rs = code at *
  have hne : (code != 0) = true := by simp [hz]
  have HI := Lib.hid hct
  clear hct hA hB hrow
  go_enter Try.func33, Try.ntmps33
  go_wp2_with fail
  have hb1 := ((Ext.refl w).alloc (Obj.cells #[.int .i64 c0, .slice A n c] 32)).below (Nat.le_refl w.heap.size)
  generalize w.alloc (Obj.cells #[.int .i64 c0, .slice A n c] 32) = w1 at *
  have HB1 := Lib.hid hb1
  clear hb1
  refine (HI.out _ HB1.out).mono ?_
  rintro e w2 ⟨rfl, hb⟩
  have HB2 := Lib.hid (HB1.out.trans (hb.mono HB1.out.size))
  clear hb
  go_wp2_with fail
  go_ret2
  exact RowsRes.none_ HB2.out

set_option maxRecDepth 100000 in
set_option maxHeartbeats 4000000 in
theorem implShiftsKept_0 (c0 : Int) (A : Option Addr) (n c : Nat) (ts : List Tl) (B : Option Addr) (m d : Nat) (rs : List (List Int)) (w : World) (hn : n ≤ 1048576) (hl : ts.length = n) (hA : TR w w.heap.size A ts) (hm' : m ≤ 1048576) (hlr : rs.length = m) (hB : IRR w w.heap.size B rs) (hrow : ∀ k, k < m → (rs.getD k []).length ≤ 1048576) (hmd : m ≤ d) (hz : torCode c0 ts rs = 0) :
    Calls Try.prog 33 #[.agg #[.int .i64 c0, .slice A n c], .slice B m d] w (RowsRes w (keptUp rs (m * (rs.getD 0 []).length)) 0) := by
  have hct : ∀ W, Below w.heap.size w W → Calls Try.prog 71 #[.agg #[.int .i64 c0, .slice A n c], .slice B m d] W (fun e w' => e = .returned (.int .i64 (torCode c0 ts rs)) ∧ Below W.heap.size W w') := fun W hW => checkTorus_any c0 A n c ts B m d rs W hn hl ((hA.below hW (Nat.le_refl _)).more hW.size) hm' hlr ((hB.below hW (Nat.le_refl _)).more hW.size) hrow
  rw [hz] at hct
  obtain ⟨hm, hw, hsh⟩ := tor_shape hz hlr
  generalize hwd : (rs.getD 0 []).length = wd at *
  have hin : ∀ W, Below w.heap.size w W → Calls Try.prog 74 #[.slice B m d] W _ := fun W hW => callsIn_wide.1 (shiftsKept_in 3 (Nat.le_refl _) B m d wd rs W hm hmd hw hsh ((hB.below hW (Nat.le_refl _)).more hW.size))
  have HI := Lib.hid hct
  have HN := Lib.hid hin
  clear hct hin hA hB hrow hwd
  go_enter Try.func33, Try.ntmps33
  go_wp2_with fail
  have hb1 := ((Ext.refl w).alloc (Obj.cells #[.int .i64 c0, .slice A n c] 32)).below (Nat.le_refl w.heap.size)
  generalize w.alloc (Obj.cells #[.int .i64 c0, .slice A n c] 32) = w1 at *
  have HB1 := Lib.hid hb1
  clear hb1
  refine (HI.out _ HB1.out).mono ?_
  rintro e w2 ⟨rfl, hb⟩
  have HB2 := Lib.hid (HB1.out.trans (hb.mono HB1.out.size))
  clear hb
  go_wp2_with fail
  refine (HN.out _ HB2.out).mono ?_
  rintro e w3 ⟨A3, cap3, rfl, hiw, hb⟩
  have HB3 := Lib.hid (HB2.out.trans (hb.mono HB2.out.size))
  have HW3 := Lib.hid (hiw.lo_ HB2.out.size)
  clear hb hiw
  go_wp2_with fail
  go_ret2
  exact ⟨A3, cap3, by first | rfl | (rw [hvl]; rfl), HB3.out, HW3.out⟩

set_option maxRecDepth 100000 in
set_option maxHeartbeats 4000000 in
theorem specShiftsKept_no (c0 : Int) (A : Option Addr) (n c : Nat) (ts : List Tl) (B : Option Addr) (m d : Nat) (rs : List (List Int)) (w : World) (hn : n ≤ 1048576) (hl : ts.length = n) (hA : TR w w.heap.size A ts) (hm' : m ≤ 1048576) (hlr : rs.length = m) (hB : IRR w w.heap.size B rs) (hrow : ∀ k, k < m → (rs.getD k []).length ≤ 1048576) (hz : torCode c0 ts rs ≠ 0) :
    Calls Try.prog 32 #[.agg #[.int .i64 c0, .slice A n c], .slice B m d] w (RowsRes w [] (torCode c0 ts rs)) := by
  have hct : ∀ W, Below w.heap.size w W → Calls Try.prog 66 #[.agg #[.int .i64 c0, .slice A n c], .slice B m d] W (fun e w' => e = .returned (.int .i64 (torCode c0 ts rs)) ∧ Below W.heap.size W w') := fun W hW => (l05Given_any c0 A n c ts B m d rs W hn hl ((hA.below hW (Nat.le_refl _)).more hW.size) hm' hlr ((hB.below hW (Nat.le_refl _)).more hW.size) hrow).mono fun e w' h => ⟨h.1, h.2.below (Nat.le_refl _)⟩
  generalize torCode c0 ts rs = code at *
  have hne : (code != 0) = true := by simp [hz]
  have HI := Lib.hid hct
  clear hct hA hB hrow
  go_enter Try.func32, Try.ntmps32
  go_wp2_with fail
  have hb1 := ((Ext.refl w).alloc (Obj.cells #[.int .i64 c0, .slice A n c] 32)).below (Nat.le_refl w.heap.size)
  generalize w.alloc (Obj.cells #[.int .i64 c0, .slice A n c] 32) = w1 at *
  have HB1 := Lib.hid hb1
  clear hb1
  refine (HI.out _ HB1.out).mono ?_
  rintro e w2 ⟨rfl, hb⟩
  have HB2 := Lib.hid (HB1.out.trans (hb.mono HB1.out.size))
  clear hb
  go_wp2_with fail
  go_ret2
  exact RowsRes.none_ HB2.out

set_option maxRecDepth 100000 in
set_option maxHeartbeats 4000000 in
theorem specShiftsKept_0 (c0 : Int) (A : Option Addr) (n c : Nat) (ts : List Tl) (B : Option Addr) (m d : Nat) (rs : List (List Int)) (w : World) (hn : n ≤ 1048576) (hl : ts.length = n) (hA : TR w w.heap.size A ts) (hm' : m ≤ 1048576) (hlr : rs.length = m) (hB : IRR w w.heap.size B rs) (hrow : ∀ k, k < m → (rs.getD k []).length ≤ 1048576) (hz : torCode c0 ts rs = 0) :
    Calls Try.prog 32 #[.agg #[.int .i64 c0, .slice A n c], .slice B m d] w (RowsRes w (keptUp rs (m * (rs.getD 0 []).length)) 0) := by
  have hct : ∀ W, Below w.heap.size w W → Calls Try.prog 66 #[.agg #[.int .i64 c0, .slice A n c], .slice B m d] W (fun e w' => e = .returned (.int .i64 (torCode c0 ts rs)) ∧ Below W.heap.size W w') := fun W hW => (l05Given_any c0 A n c ts B m d rs W hn hl ((hA.below hW (Nat.le_refl _)).more hW.size) hm' hlr ((hB.below hW (Nat.le_refl _)).more hW.size) hrow).mono fun e w' h => ⟨h.1, h.2.below (Nat.le_refl _)⟩
  rw [hz] at hct
  obtain ⟨hm, hw, hsh⟩ := tor_shape hz hlr
  generalize hwd : (rs.getD 0 []).length = wd at *
  have hin : ∀ W, Below w.heap.size w W → Calls Try.prog 73 #[.slice B m d] W _ := fun W hW => l05Kept_any B m d rs wd W hm hw hsh ((hB.below hW (Nat.le_refl _)).more hW.size)
  have HI := Lib.hid hct
  have HN := Lib.hid hin
  clear hct hin hA hB hrow hwd
  go_enter Try.func32, Try.ntmps32
  go_wp2_with fail
  have hb1 := ((Ext.refl w).alloc (Obj.cells #[.int .i64 c0, .slice A n c] 32)).below (Nat.le_refl w.heap.size)
  generalize w.alloc (Obj.cells #[.int .i64 c0, .slice A n c] 32) = w1 at *
  have HB1 := Lib.hid hb1
  clear hb1
  refine (HI.out _ HB1.out).mono ?_
  rintro e w2 ⟨rfl, hb⟩
  have HB2 := Lib.hid (HB1.out.trans (hb.mono HB1.out.size))
  clear hb
  go_wp2_with fail
  refine (HN.out _ HB2.out).mono ?_
  rintro e w3 ⟨A3, cap3, rfl, hiw, hb⟩
  have HB3 := Lib.hid (HB2.out.trans (hb.mono HB2.out.size))
  have HW3 := Lib.hid (hiw.lo_ HB2.out.size)
  clear hb hiw
  go_wp2_with fail
  go_ret2
  exact ⟨A3, cap3, by first | rfl | (rw [hvl]; rfl), HB3.out, HW3.out⟩

set_option maxRecDepth 100000 in
set_option maxHeartbeats 4000000 in
theorem implShiftNumber_no (c0 : Int) (A : Option Addr) (n c : Nat) (ts : List Tl) (B : Option Addr) (m d : Nat) (rs : List (List Int)) (w : World) (hn : n ≤ 1048576) (hl : ts.length = n) (hA : TR w w.heap.size A ts) (hm' : m ≤ 1048576) (hlr : rs.length = m) (hB : IRR w w.heap.size B rs) (hrow : ∀ k, k < m → (rs.getD k []).length ≤ 1048576) (hz : torCode c0 ts rs ≠ 0) :
    Calls Try.prog 35 #[.agg #[.int .i64 c0, .slice A n c], .slice B m d] w (NumRes w 0 (torCode c0 ts rs)) := by
  have hct : ∀ W, Below w.heap.size w W → Calls Try.prog 71 #[.agg #[.int .i64 c0, .slice A n c], .slice B m d] W (fun e w' => e = .returned (.int .i64 (torCode c0 ts rs)) ∧ Below W.heap.size W w') := fun W hW => checkTorus_any c0 A n c ts B m d rs W hn hl ((hA.below hW (Nat.le_refl _)).more hW.size) hm' hlr ((hB.below hW (Nat.le_refl _)).more hW.size) hrow
  generalize torCode c0 ts rs = code at *
  have hne : (code != 0) = true := by simp [hz]
  have HI := Lib.hid hct
  clear hct hA hB hrow
  go_enter Try.func35, Try.ntmps35
  go_wp2_with fail
  have hb1 := ((Ext.refl w).alloc (Obj.cells #[.int .i64 c0, .slice A n c] 32)).below (Nat.le_refl w.heap.size)
  generalize w.alloc (Obj.cells #[.int .i64 c0, .slice A n c] 32) = w1 at *
  have HB1 := Lib.hid hb1
  clear hb1
  refine (HI.out _ HB1.out).mono ?_
  rintro e w2 ⟨rfl, hb⟩
  have HB2 := Lib.hid (HB1.out.trans (hb.mono HB1.out.size))
  clear hb
  go_wp2_with fail
  go_ret2
  exact ⟨rfl, HB2.out⟩

set_option maxRecDepth 100000 in
set_option maxHeartbeats 4000000 in
theorem implShiftNumber_0 (c0 : Int) (A : Option Addr) (n c : Nat) (ts : List Tl) (B : Option Addr) (m d : Nat) (rs : List (List Int)) (w : World) (hn : n ≤ 1048576) (hl : ts.length = n) (hA : TR w w.heap.size A ts) (hm' : m ≤ 1048576) (hlr : rs.length = m) (hB : IRR w w.heap.size B rs) (hrow : ∀ k, k < m → (rs.getD k []).length ≤ 1048576) (hmd : m ≤ d) (hz : torCode c0 ts rs = 0) :
    Calls Try.prog 35 #[.agg #[.int .i64 c0, .slice A n c], .slice B m d] w (NumRes w (shiftNum rs) 0) := by
  have hct : ∀ W, Below w.heap.size w W → Calls Try.prog 71 #[.agg #[.int .i64 c0, .slice A n c], .slice B m d] W (fun e w' => e = .returned (.int .i64 (torCode c0 ts rs)) ∧ Below W.heap.size W w') := fun W hW => checkTorus_any c0 A n c ts B m d rs W hn hl ((hA.below hW (Nat.le_refl _)).more hW.size) hm' hlr ((hB.below hW (Nat.le_refl _)).more hW.size) hrow
  rw [hz] at hct
  obtain ⟨hm, hw, hsh⟩ := tor_shape hz hlr
  unfold shiftNum
  rw [hlr]
  generalize hwd : (rs.getD 0 []).length = wd at *
  have hin : ∀ W, Below w.heap.size w W → Calls Try.prog 74 #[.slice B m d] W _ := fun W hW => callsIn_wide.1 (shiftsKept_in 3 (Nat.le_refl _) B m d wd rs W hm hmd hw hsh ((hB.below hW (Nat.le_refl _)).more hW.size))
  have HI := Lib.hid hct
  have HN := Lib.hid hin
  obtain ⟨b0, o, rfl, hb0, hcr⟩ := hB (by omega)
  obtain ⟨Q0, q0, hcQ0, -, -⟩ := hcr 0 (by omega)
  rw [hwd, Nat.add_zero] at hcQ0
  have hkp := keptUp_pos (rs := rs) (by rw [hwd]; omega) (m * wd) (Nat.mul_pos (by omega) (by omega))
  have hkl := keptUp_le rs (m * wd)
  have hmw : m * wd ≤ 8 * 8 := Nat.mul_le_mul hm.2 hw.2
  have hmi : (0 : Int) < (m : Int) := by omega
  have hmn : 0 < m := by omega
  generalize hkk : (keptUp rs (m * wd)).length = kk at *
  have hmul : (m : Int) * (wd : Int) = ((m * wd : Nat) : Int) := by simp
  generalize hMW : m * wd = mw at *
  have hw1 : IntKind.i64.wrap ((m : Int) * (wd : Int)) = (mw : Int) := by rw [hmul]; exact IntWalk.i64_in _ (by omega)
  have hd1 : Int.tdiv (mw : Int) (kk : Int) = ((mw / kk : Nat) : Int) := by rw [Int.tdiv_eq_ediv_of_nonneg (by omega)]; simp
  have hle : mw / kk ≤ mw := Nat.div_le_self _ _
  rw [hmul, hd1]
  generalize hqq : mw / kk = qq at *
  have hw2 : IntKind.i64.wrap (qq : Int) = (qq : Int) := IntWalk.i64_in _ (by omega)
  have hk0 : ¬ (kk : Int) = 0 := by omega
  have hk1 : ¬ kk = 0 := by omega
  clear hct hin hA hrow hcr hkp hkl hmul hle hwd hMW hqq
  go_enter Try.func35, Try.ntmps35
  go_wp2_with fail
  have hb1 := ((Ext.refl w).alloc (Obj.cells #[.int .i64 c0, .slice A n c] 32)).below (Nat.le_refl w.heap.size)
  generalize w.alloc (Obj.cells #[.int .i64 c0, .slice A n c] 32) = w1 at *
  have HB1 := Lib.hid hb1
  clear hb1
  refine (HI.out _ HB1.out).mono ?_
  rintro e w2 ⟨rfl, hb⟩
  have HB2 := Lib.hid (HB1.out.trans (hb.mono HB1.out.size))
  clear hb
  have e0 := (HB2.out.cell (p := ⟨b0, o, none⟩) hb0).trans hcQ0
  go_wp2_with fail
  go_region_held3 (fun w' => w'.cell? ⟨b0, o, none⟩ = some (.slice Q0 wd q0))
    (first | go_keep | exact e3)
    (
        (go_at_call 74
         refine (HN.out _ (by first | exact HB2.out | exact HB2.out.drew)).mono ?_
         rintro e w3 ⟨A3, cap3, rfl, hiw, hb⟩
         have hb3 := hb
         have e3 := (Below.cell (p := ⟨b0, o, none⟩) hb3 (show b0 < w2.heap.size by have := HB2.out.size; omega)).trans e0
         have HB3 := Lib.hid (HB2.out.drew.trans (hb3.mono HB2.out.size))
         clear hb hiw hb3))
  all_goals
    go_wp2_with fail
    go_ret2
    exact ⟨rfl, HB3.out⟩

set_option maxRecDepth 100000 in
set_option maxHeartbeats 4000000 in
theorem specShiftNumber_no (c0 : Int) (A : Option Addr) (n c : Nat) (ts : List Tl) (B : Option Addr) (m d : Nat) (rs : List (List Int)) (w : World) (hn : n ≤ 1048576) (hl : ts.length = n) (hA : TR w w.heap.size A ts) (hm' : m ≤ 1048576) (hlr : rs.length = m) (hB : IRR w w.heap.size B rs) (hrow : ∀ k, k < m → (rs.getD k []).length ≤ 1048576) (hz : torCode c0 ts rs ≠ 0) :
    Calls Try.prog 34 #[.agg #[.int .i64 c0, .slice A n c], .slice B m d] w (NumRes w 0 (torCode c0 ts rs)) := by
  have hct : ∀ W, Below w.heap.size w W → Calls Try.prog 66 #[.agg #[.int .i64 c0, .slice A n c], .slice B m d] W (fun e w' => e = .returned (.int .i64 (torCode c0 ts rs)) ∧ Below W.heap.size W w') := fun W hW => (l05Given_any c0 A n c ts B m d rs W hn hl ((hA.below hW (Nat.le_refl _)).more hW.size) hm' hlr ((hB.below hW (Nat.le_refl _)).more hW.size) hrow).mono fun e w' h => ⟨h.1, h.2.below (Nat.le_refl _)⟩
  generalize torCode c0 ts rs = code at *
  have hne : (code != 0) = true := by simp [hz]
  have HI := Lib.hid hct
  clear hct hA hB hrow
  go_enter Try.func34, Try.ntmps34
  go_wp2_with fail
  have hb1 := ((Ext.refl w).alloc (Obj.cells #[.int .i64 c0, .slice A n c] 32)).below (Nat.le_refl w.heap.size)
  generalize w.alloc (Obj.cells #[.int .i64 c0, .slice A n c] 32) = w1 at *
  have HB1 := Lib.hid hb1
  clear hb1
  refine (HI.out _ HB1.out).mono ?_
  rintro e w2 ⟨rfl, hb⟩
  have HB2 := Lib.hid (HB1.out.trans (hb.mono HB1.out.size))
  clear hb
  go_wp2_with fail
  go_ret2
  exact ⟨rfl, HB2.out⟩

set_option maxRecDepth 100000 in
set_option maxHeartbeats 4000000 in
theorem specShiftNumber_0 (c0 : Int) (A : Option Addr) (n c : Nat) (ts : List Tl) (B : Option Addr) (m d : Nat) (rs : List (List Int)) (w : World) (hn : n ≤ 1048576) (hl : ts.length = n) (hA : TR w w.heap.size A ts) (hm' : m ≤ 1048576) (hlr : rs.length = m) (hB : IRR w w.heap.size B rs) (hrow : ∀ k, k < m → (rs.getD k []).length ≤ 1048576) (hz : torCode c0 ts rs = 0) :
    Calls Try.prog 34 #[.agg #[.int .i64 c0, .slice A n c], .slice B m d] w (NumRes w (shiftNum rs) 0) := by
  have hct : ∀ W, Below w.heap.size w W → Calls Try.prog 66 #[.agg #[.int .i64 c0, .slice A n c], .slice B m d] W (fun e w' => e = .returned (.int .i64 (torCode c0 ts rs)) ∧ Below W.heap.size W w') := fun W hW => (l05Given_any c0 A n c ts B m d rs W hn hl ((hA.below hW (Nat.le_refl _)).more hW.size) hm' hlr ((hB.below hW (Nat.le_refl _)).more hW.size) hrow).mono fun e w' h => ⟨h.1, h.2.below (Nat.le_refl _)⟩
  rw [hz] at hct
  obtain ⟨hm, hw, hsh⟩ := tor_shape hz hlr
  unfold shiftNum
  rw [hlr]
  generalize hwd : (rs.getD 0 []).length = wd at *
  have hin : ∀ W, Below w.heap.size w W → Calls Try.prog 73 #[.slice B m d] W _ := fun W hW => l05Kept_any B m d rs wd W hm hw hsh ((hB.below hW (Nat.le_refl _)).more hW.size)
  have HI := Lib.hid hct
  have HN := Lib.hid hin
  obtain ⟨b0, o, rfl, hb0, hcr⟩ := hB (by omega)
  obtain ⟨Q0, q0, hcQ0, -, -⟩ := hcr 0 (by omega)
  rw [hwd, Nat.add_zero] at hcQ0
  have hkp := keptUp_pos (rs := rs) (by rw [hwd]; omega) (m * wd) (Nat.mul_pos (by omega) (by omega))
  have hkl := keptUp_le rs (m * wd)
  have hmw : m * wd ≤ 8 * 8 := Nat.mul_le_mul hm.2 hw.2
  have hmi : (0 : Int) < (m : Int) := by omega
  have hmn : 0 < m := by omega
  generalize hkk : (keptUp rs (m * wd)).length = kk at *
  have hmul : (m : Int) * (wd : Int) = ((m * wd : Nat) : Int) := by simp
  generalize hMW : m * wd = mw at *
  have hw1 : IntKind.i64.wrap ((m : Int) * (wd : Int)) = (mw : Int) := by rw [hmul]; exact IntWalk.i64_in _ (by omega)
  have hd1 : Int.tdiv (mw : Int) (kk : Int) = ((mw / kk : Nat) : Int) := by rw [Int.tdiv_eq_ediv_of_nonneg (by omega)]; simp
  have hle : mw / kk ≤ mw := Nat.div_le_self _ _
  rw [hmul, hd1]
  generalize hqq : mw / kk = qq at *
  have hw2 : IntKind.i64.wrap (qq : Int) = (qq : Int) := IntWalk.i64_in _ (by omega)
  have hk0 : ¬ (kk : Int) = 0 := by omega
  have hk1 : ¬ kk = 0 := by omega
  clear hct hin hA hrow hcr hkp hkl hmul hle hwd hMW hqq
  go_enter Try.func34, Try.ntmps34
  go_wp2_with fail
  have hb1 := ((Ext.refl w).alloc (Obj.cells #[.int .i64 c0, .slice A n c] 32)).below (Nat.le_refl w.heap.size)
  generalize w.alloc (Obj.cells #[.int .i64 c0, .slice A n c] 32) = w1 at *
  have HB1 := Lib.hid hb1
  clear hb1
  refine (HI.out _ HB1.out).mono ?_
  rintro e w2 ⟨rfl, hb⟩
  have HB2 := Lib.hid (HB1.out.trans (hb.mono HB1.out.size))
  clear hb
  have e0 := (HB2.out.cell (p := ⟨b0, o, none⟩) hb0).trans hcQ0
  go_wp2_with fail
  go_region_held3 (fun w' => w'.cell? ⟨b0, o, none⟩ = some (.slice Q0 wd q0))
    (first | go_keep | exact e3)
    (
        (go_at_call 73
         refine (HN.out _ (by first | exact HB2.out | exact HB2.out.drew)).mono ?_
         rintro e w3 ⟨A3, cap3, rfl, hiw, hb⟩
         have hb3 := hb
         have e3 := (Below.cell (p := ⟨b0, o, none⟩) hb3 (show b0 < w2.heap.size by have := HB2.out.size; omega)).trans e0
         have HB3 := Lib.hid (HB2.out.drew.trans (hb3.mono HB2.out.size))
         clear hb hiw hb3))
  all_goals
    go_wp2_with fail
    go_ret2
    exact ⟨rfl, HB3.out⟩
end Go.Proofs.Ytjoaoimebdkpaaa
