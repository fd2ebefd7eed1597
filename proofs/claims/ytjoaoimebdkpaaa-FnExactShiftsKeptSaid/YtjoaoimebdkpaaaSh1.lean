/- ShiftTorus, both sides. -/
import Derived.Test.YtjoaoimebdkpaaaCy2
import Derived.Test.YtjoaoimebdkpaaaTo2
import Derived.Test.YtjoaoimebdkpaaaTo3
namespace Go.Proofs.Ytjoaoimebdkpaaa
set_option linter.unusedVariables false
set_option linter.unusedSimpArgs false
open Go.RowKit Go.Sort

theorem IWW.lo_ {w : World} {lo lo' hi : Nat} {A : Option Addr} {rs : List (List Int)} (h : IWW w lo hi A rs) (hl : lo' ≤ lo) : IWW w lo' hi A rs := fun h0 => by
  obtain ⟨b, off, t, cs, Q, q, e, h1, h2, h3, h4, h5⟩ := h h0
  refine ⟨b, off, t, cs, Q, q, e, Nat.le_trans hl h1, h2, h3, fun k hk => ?_, h5⟩
  obtain ⟨g1, g2, g3, g4⟩ := h4 k hk
  exact ⟨g1, g2, g3.low hl, g4⟩
/-- What a function hands back that gives rows and a code. -/
def RowsRes (w : World) (vs : List (List Int)) (code : Int) (e : Ending) (w' : World) : Prop := ∃ R p, e = .returned (.tuple #[.slice R vs.length p, .int .i64 code]) ∧ Below w.heap.size w w' ∧ IWW w' w.heap.size w'.heap.size R vs
theorem RowsRes.none_ {w w' : World} {code : Int} (h : Below w.heap.size w w') : RowsRes w [] code (.returned (.tuple #[.slice none 0 0, .int .i64 code])) w' := ⟨none, 0, rfl, h, fun h0 => absurd h0 (Nat.lt_irrefl _)⟩
theorem torAns_code {c0 : Int} {ts : List Tl} {rs : List (List Int)} (h : fillCode c0 ts rs ≠ 0) : torAns c0 ts rs = false := by simp [cylAns, torAns, fillAns_code h]
theorem rowsOk_facts {ts : List Tl} {rs : List (List Int)} {m : Nat} (h : rowsOk ts rs = true) (hl : rs.length = m) : (1 ≤ m ∧ m ≤ 8) ∧ (1 ≤ (rs.getD 0 []).length ∧ (rs.getD 0 []).length ≤ 8) ∧ ∀ k, k < m → (rs.getD k []).length = (rs.getD 0 []).length := by
  refine ⟨?_, ?_, fun k hk => rowsOk_same h (by omega)⟩
  all_goals
    simp only [rowsOk, Bool.and_eq_true, decide_eq_true_eq] at h
    omega

set_option maxRecDepth 100000 in
set_option maxHeartbeats 4000000 in
theorem implShift_code (c0 : Int) (A : Option Addr) (n c : Nat) (ts : List Tl) (B : Option Addr) (m d : Nat) (rs : List (List Int)) (a b : Int) (w : World) (hn : n ≤ 1048576) (hl : ts.length = n) (hA : TR w w.heap.size A ts) (hm : m ≤ 1048576) (hlr : rs.length = m) (hB : IRR w w.heap.size B rs) (hrow : ∀ k, k < m → (rs.getD k []).length ≤ 1048576) (hc : fillCode c0 ts rs ≠ 0) :
    Calls Try.prog 26 #[.agg #[.int .i64 c0, .slice A n c], .slice B m d, .int .i64 a, .int .i64 b] w (RowsRes w [] (fillCode c0 ts rs)) := by
  have hit : ∀ W, Below w.heap.size w W → Calls Try.prog 20 #[.agg #[.int .i64 c0, .slice A n c], .slice B m d] W _ := fun W hW => implTorus_any c0 A n c ts B m d rs W hn hl ((hA.below hW (Nat.le_refl _)).more hW.size) hm hlr ((hB.below hW (Nat.le_refl _)).more hW.size) hrow
  rw [torAns_code hc] at hit
  generalize fillCode c0 ts rs = code at *
  have hne : (code != 0) = true := by simp [hc]
  have HI := Lib.hid hit
  clear hit hA hB hrow
  go_enter Try.func26, Try.ntmps26
  go_wp2_with fail
  have hbk := Blk.new w 32 #[.int .i64 c0, .slice A n c]
  have hb1 := ((Ext.refl w).alloc (Obj.cells #[.int .i64 c0, .slice A n c] 32)).below (Nat.le_refl w.heap.size)
  generalize w.alloc (Obj.cells #[.int .i64 c0, .slice A n c] 32) = w1 at *
  have HB1 := Lib.hid hb1
  have HK1 := Lib.hid hbk
  clear hb1 hbk
  refine (HI.out _ HB1.out).mono ?_
  rintro e w2 ⟨rfl, hb⟩
  have HB2 := Lib.hid (HB1.out.trans (hb.mono HB1.out.size))
  have HK2 := Lib.hid (HK1.out.below hb HK1.out.lt)
  clear hb
  go_wp2_with fail
  go_ret2
  exact RowsRes.none_ HB2.out

set_option maxRecDepth 100000 in
set_option maxHeartbeats 4000000 in
theorem implShift_rng (c0 : Int) (A : Option Addr) (n c : Nat) (ts : List Tl) (B : Option Addr) (m d : Nat) (rs : List (List Int)) (a b : Int) (w : World) (hn : n ≤ 1048576) (hl : ts.length = n) (hA : TR w w.heap.size A ts) (hm : m ≤ 1048576) (hlr : rs.length = m) (hB : IRR w w.heap.size B rs) (hrow : ∀ k, k < m → (rs.getD k []).length ≤ 1048576) (hc : fillCode c0 ts rs = 0) (hr : ¬ (0 ≤ a ∧ a < m ∧ 0 ≤ b ∧ b < (rs.getD 0 []).length)) :
    Calls Try.prog 26 #[.agg #[.int .i64 c0, .slice A n c], .slice B m d, .int .i64 a, .int .i64 b] w (RowsRes w [] 2) := by
  have hit : ∀ W, Below w.heap.size w W → Calls Try.prog 20 #[.agg #[.int .i64 c0, .slice A n c], .slice B m d] W _ := fun W hW => implTorus_any c0 A n c ts B m d rs W hn hl ((hA.below hW (Nat.le_refl _)).more hW.size) hm hlr ((hB.below hW (Nat.le_refl _)).more hW.size) hrow
  rw [hc] at hit
  have hok := (fillCode_ok hc).2
  generalize torAns c0 ts rs = r at *
  obtain ⟨⟨hm1, hm8⟩, ⟨hw1, hw8⟩, hwd⟩ := rowsOk_facts hok hlr
  have HIRR := Lib.hid hB
  obtain ⟨b0, o, rfl, hb0, hcr⟩ := hB (by omega)
  obtain ⟨Q0, q0, hcQ0, -, -⟩ := hcr 0 (by omega)
  rw [Nat.add_zero] at hcQ0
  clear hcr
  generalize hWD : (rs.getD 0 []).length = wd at *
  have HWD := Lib.hid hwd
  have HWD0 := Lib.hid hWD
  have hmi : (0 : Int) < (m : Int) := by omega
  have hmn : 0 < m := by omega
  clear hwd hWD
  have HI := Lib.hid hit
  have hcs : (a < 0) ∨ (0 ≤ a ∧ (m : Int) ≤ a) ∨ (0 ≤ a ∧ a < m ∧ b < 0) ∨ (0 ≤ a ∧ a < m ∧ 0 ≤ b ∧ (wd : Int) ≤ b) := by omega
  clear hit hA hrow hc hok hr
  rcases hcs with h | h | h | h
  · have g1 : a < 0 := by omega
    have g1d : decide (a < 0) = true := decide_eq_true (by omega)
    clear h
    go_enter Try.func26, Try.ntmps26
    go_wp2_with fail
    have hbk := Blk.new w 32 #[.int .i64 c0, .slice A n c]
    have hb1 := ((Ext.refl w).alloc (Obj.cells #[.int .i64 c0, .slice A n c] 32)).below (Nat.le_refl w.heap.size)
    generalize w.alloc (Obj.cells #[.int .i64 c0, .slice A n c] 32) = w1 at *
    have HB1 := Lib.hid hb1
    have HK1 := Lib.hid hbk
    clear hb1 hbk
    refine (HI.out _ HB1.out).mono ?_
    rintro e w2 ⟨rfl, hb⟩
    have HB2 := Lib.hid (HB1.out.trans (hb.mono HB1.out.size))
    have HK2 := Lib.hid (HK1.out.below hb HK1.out.lt)
    have e0 := (HB2.out.cell (p := ⟨b0, o, none⟩) hb0).trans hcQ0
    clear hb
    go_wp2_with fail
    go_ret2
    exact RowsRes.none_ HB2.out
  · have g1 : ¬ a < 0 := by omega
    have g1d : decide (a < 0) = false := decide_eq_false (by omega)
    have g2 : (m : Int) ≤ a := by omega
    have g2d : decide ((m : Int) ≤ a) = true := decide_eq_true (by omega)
    clear h
    go_enter Try.func26, Try.ntmps26
    go_wp2_with fail
    have hbk := Blk.new w 32 #[.int .i64 c0, .slice A n c]
    have hb1 := ((Ext.refl w).alloc (Obj.cells #[.int .i64 c0, .slice A n c] 32)).below (Nat.le_refl w.heap.size)
    generalize w.alloc (Obj.cells #[.int .i64 c0, .slice A n c] 32) = w1 at *
    have HB1 := Lib.hid hb1
    have HK1 := Lib.hid hbk
    clear hb1 hbk
    refine (HI.out _ HB1.out).mono ?_
    rintro e w2 ⟨rfl, hb⟩
    have HB2 := Lib.hid (HB1.out.trans (hb.mono HB1.out.size))
    have HK2 := Lib.hid (HK1.out.below hb HK1.out.lt)
    have e0 := (HB2.out.cell (p := ⟨b0, o, none⟩) hb0).trans hcQ0
    clear hb
    go_wp2_with fail
    go_ret2
    exact RowsRes.none_ HB2.out
  · have g1 : ¬ a < 0 := by omega
    have g1d : decide (a < 0) = false := decide_eq_false (by omega)
    have g2 : ¬ (m : Int) ≤ a := by omega
    have g2d : decide ((m : Int) ≤ a) = false := decide_eq_false (by omega)
    have g3 : b < 0 := by omega
    have g3d : decide (b < 0) = true := decide_eq_true (by omega)
    clear h
    go_enter Try.func26, Try.ntmps26
    go_wp2_with fail
    have hbk := Blk.new w 32 #[.int .i64 c0, .slice A n c]
    have hb1 := ((Ext.refl w).alloc (Obj.cells #[.int .i64 c0, .slice A n c] 32)).below (Nat.le_refl w.heap.size)
    generalize w.alloc (Obj.cells #[.int .i64 c0, .slice A n c] 32) = w1 at *
    have HB1 := Lib.hid hb1
    have HK1 := Lib.hid hbk
    clear hb1 hbk
    refine (HI.out _ HB1.out).mono ?_
    rintro e w2 ⟨rfl, hb⟩
    have HB2 := Lib.hid (HB1.out.trans (hb.mono HB1.out.size))
    have HK2 := Lib.hid (HK1.out.below hb HK1.out.lt)
    have e0 := (HB2.out.cell (p := ⟨b0, o, none⟩) hb0).trans hcQ0
    clear hb
    go_wp2_with fail
    go_ret2
    exact RowsRes.none_ HB2.out
  · have g1 : ¬ a < 0 := by omega
    have g1d : decide (a < 0) = false := decide_eq_false (by omega)
    have g2 : ¬ (m : Int) ≤ a := by omega
    have g2d : decide ((m : Int) ≤ a) = false := decide_eq_false (by omega)
    have g3 : ¬ b < 0 := by omega
    have g3d : decide (b < 0) = false := decide_eq_false (by omega)
    have g4 : (wd : Int) ≤ b := by omega
    have g4d : decide ((wd : Int) ≤ b) = true := decide_eq_true (by omega)
    clear h
    go_enter Try.func26, Try.ntmps26
    go_wp2_with fail
    have hbk := Blk.new w 32 #[.int .i64 c0, .slice A n c]
    have hb1 := ((Ext.refl w).alloc (Obj.cells #[.int .i64 c0, .slice A n c] 32)).below (Nat.le_refl w.heap.size)
    generalize w.alloc (Obj.cells #[.int .i64 c0, .slice A n c] 32) = w1 at *
    have HB1 := Lib.hid hb1
    have HK1 := Lib.hid hbk
    clear hb1 hbk
    refine (HI.out _ HB1.out).mono ?_
    rintro e w2 ⟨rfl, hb⟩
    have HB2 := Lib.hid (HB1.out.trans (hb.mono HB1.out.size))
    have HK2 := Lib.hid (HK1.out.below hb HK1.out.lt)
    have e0 := (HB2.out.cell (p := ⟨b0, o, none⟩) hb0).trans hcQ0
    clear hb
    go_wp2_with fail
    go_ret2
    exact RowsRes.none_ HB2.out

set_option maxRecDepth 100000 in
set_option maxHeartbeats 4000000 in
theorem implShift_no (c0 : Int) (A : Option Addr) (n c : Nat) (ts : List Tl) (B : Option Addr) (m d : Nat) (rs : List (List Int)) (a b : Nat) (w : World) (hn : n ≤ 1048576) (hl : ts.length = n) (hA : TR w w.heap.size A ts) (hm : m ≤ 1048576) (hlr : rs.length = m) (hB : IRR w w.heap.size B rs) (hrow : ∀ k, k < m → (rs.getD k []).length ≤ 1048576) (hc : fillCode c0 ts rs = 0) (ha : a < m) (hb : b < (rs.getD 0 []).length) (hr : torAns c0 ts rs = false) :
    Calls Try.prog 26 #[.agg #[.int .i64 c0, .slice A n c], .slice B m d, .int .i64 (a : Int), .int .i64 (b : Int)] w (RowsRes w [] 5) := by
  have hit : ∀ W, Below w.heap.size w W → Calls Try.prog 20 #[.agg #[.int .i64 c0, .slice A n c], .slice B m d] W _ := fun W hW => implTorus_any c0 A n c ts B m d rs W hn hl ((hA.below hW (Nat.le_refl _)).more hW.size) hm hlr ((hB.below hW (Nat.le_refl _)).more hW.size) hrow
  rw [hc, hr] at hit
  have hok := (fillCode_ok hc).2
  obtain ⟨⟨hm1, hm8⟩, ⟨hw1, hw8⟩, hwd⟩ := rowsOk_facts hok hlr
  have HIRR := Lib.hid hB
  obtain ⟨b0, o, rfl, hb0, hcr⟩ := hB (by omega)
  obtain ⟨Q0, q0, hcQ0, -, -⟩ := hcr 0 (by omega)
  rw [Nat.add_zero] at hcQ0
  clear hcr
  generalize hWD : (rs.getD 0 []).length = wd at *
  have HWD := Lib.hid hwd
  have HWD0 := Lib.hid hWD
  have hmi : (0 : Int) < (m : Int) := by omega
  have hmn : 0 < m := by omega
  clear hwd hWD
  have HI := Lib.hid hit
  have hsl := shR_len a b rs
  rw [hlr] at hsl
  clear hit hA hrow hc hok hr
  have g1 : ¬ (a : Int) < 0 := by omega
  have g1d : decide ((a : Int) < 0) = false := decide_eq_false (by omega)
  have g2 : ¬ (m : Int) ≤ (a : Int) := by omega
  have g2d : decide ((m : Int) ≤ (a : Int)) = false := decide_eq_false (by omega)
  have g3 : ¬ (b : Int) < 0 := by omega
  have g3d : decide ((b : Int) < 0) = false := decide_eq_false (by omega)
  have g4 : ¬ (wd : Int) ≤ (b : Int) := by omega
  have g4d : decide ((wd : Int) ≤ (b : Int)) = false := decide_eq_false (by omega)
  go_enter Try.func26, Try.ntmps26
  go_wp2_with fail
  have hbk := Blk.new w 32 #[.int .i64 c0, .slice A n c]
  have hb1 := ((Ext.refl w).alloc (Obj.cells #[.int .i64 c0, .slice A n c] 32)).below (Nat.le_refl w.heap.size)
  generalize w.alloc (Obj.cells #[.int .i64 c0, .slice A n c] 32) = w1 at *
  have HB1 := Lib.hid hb1
  have HK1 := Lib.hid hbk
  clear hb1 hbk
  refine (HI.out _ HB1.out).mono ?_
  rintro e w2 ⟨rfl, hb⟩
  have HB2 := Lib.hid (HB1.out.trans (hb.mono HB1.out.size))
  have HK2 := Lib.hid (HK1.out.below hb HK1.out.lt)
  have e0 := (HB2.out.cell (p := ⟨b0, o, none⟩) hb0).trans hcQ0
  clear hb
  go_wp2_with fail
  go_ret2
  exact RowsRes.none_ HB2.out

set_option maxRecDepth 100000 in
set_option maxHeartbeats 4000000 in
theorem implShift_0 (c0 : Int) (A : Option Addr) (n c : Nat) (ts : List Tl) (B : Option Addr) (m d : Nat) (rs : List (List Int)) (a b : Nat) (w : World) (hn : n ≤ 1048576) (hl : ts.length = n) (hA : TR w w.heap.size A ts) (hm : m ≤ 1048576) (hlr : rs.length = m) (hB : IRR w w.heap.size B rs) (hrow : ∀ k, k < m → (rs.getD k []).length ≤ 1048576) (hmd : m ≤ d) (hc : fillCode c0 ts rs = 0) (ha : a < m) (hb : b < (rs.getD 0 []).length) (hr : torAns c0 ts rs = true) :
    Calls Try.prog 26 #[.agg #[.int .i64 c0, .slice A n c], .slice B m d, .int .i64 (a : Int), .int .i64 (b : Int)] w (RowsRes w (shR a b rs) 0) := by
  have hit : ∀ W, Below w.heap.size w W → Calls Try.prog 20 #[.agg #[.int .i64 c0, .slice A n c], .slice B m d] W _ := fun W hW => implTorus_any c0 A n c ts B m d rs W hn hl ((hA.below hW (Nat.le_refl _)).more hW.size) hm hlr ((hB.below hW (Nat.le_refl _)).more hW.size) hrow
  rw [hc, hr] at hit
  have hok := (fillCode_ok hc).2
  obtain ⟨⟨hm1, hm8⟩, ⟨hw1, hw8⟩, hwd⟩ := rowsOk_facts hok hlr
  have HIRR := Lib.hid hB
  obtain ⟨b0, o, rfl, hb0, hcr⟩ := hB (by omega)
  obtain ⟨Q0, q0, hcQ0, -, -⟩ := hcr 0 (by omega)
  rw [Nat.add_zero] at hcQ0
  clear hcr
  generalize hWD : (rs.getD 0 []).length = wd at *
  have HWD := Lib.hid hwd
  have HWD0 := Lib.hid hWD
  have hmi : (0 : Int) < (m : Int) := by omega
  have hmn : 0 < m := by omega
  clear hwd hWD
  have HI := Lib.hid hit
  have hsl := shR_len a b rs
  rw [hlr] at hsl
  clear hit hA hrow hc hok hr
  have g1 : ¬ (a : Int) < 0 := by omega
  have g1d : decide ((a : Int) < 0) = false := decide_eq_false (by omega)
  have g2 : ¬ (m : Int) ≤ (a : Int) := by omega
  have g2d : decide ((m : Int) ≤ (a : Int)) = false := decide_eq_false (by omega)
  have g3 : ¬ (b : Int) < 0 := by omega
  have g3d : decide ((b : Int) < 0) = false := decide_eq_false (by omega)
  have g4 : ¬ (wd : Int) ≤ (b : Int) := by omega
  have g4d : decide ((wd : Int) ≤ (b : Int)) = false := decide_eq_false (by omega)
  go_enter Try.func26, Try.ntmps26
  go_wp2_with fail
  have hbk := Blk.new w 32 #[.int .i64 c0, .slice A n c]
  have hb1 := ((Ext.refl w).alloc (Obj.cells #[.int .i64 c0, .slice A n c] 32)).below (Nat.le_refl w.heap.size)
  generalize w.alloc (Obj.cells #[.int .i64 c0, .slice A n c] 32) = w1 at *
  have HB1 := Lib.hid hb1
  have HK1 := Lib.hid hbk
  clear hb1 hbk
  refine (HI.out _ HB1.out).mono ?_
  rintro e w2 ⟨rfl, hb⟩
  have HB2 := Lib.hid (HB1.out.trans (hb.mono HB1.out.size))
  have HK2 := Lib.hid (HK1.out.below hb HK1.out.lt)
  have e0 := (HB2.out.cell (p := ⟨b0, o, none⟩) hb0).trans hcQ0
  clear hb
  go_wp2_with fail
  refine (shiftBy_any _ _ _).mono ?_
  rintro e w3 ⟨rfl, rfl⟩
  have hx3 := ((Ext.refl w2).alloc (Obj.cells #[.int .i64 (a : Int)] 2)).alloc (Obj.cells #[.int .i64 (b : Int)] 2)
  have hga := (Blk.new w2 2 #[.int .i64 (a : Int)]).ext ((Ext.refl _).alloc (Obj.cells #[.int .i64 (b : Int)] 2))
  have hgb := Blk.new (w2.alloc (Obj.cells #[.int .i64 (a : Int)] 2)) 2 #[.int .i64 (b : Int)]
  rw [World.size_alloc] at hgb
  have HX3 := Lib.hid (And.intro hx3 (And.intro hga hgb))
  clear hx3 hga hgb e0
  generalize ((w2.alloc (Obj.cells #[.int .i64 (a : Int)] 2)).alloc (Obj.cells #[.int .i64 (b : Int)] 2)) = w3 at *
  have HB3 := Lib.hid (HB2.out.trans (HX3.out.1.below HB2.out.size))
  go_wp2_with fail
  refine (shiftBy1_any _ m d rs wd a b w2.heap.size (w2.heap.size + 1) w3 ⟨hm1, hm8⟩ hmd ⟨hw1, hw8⟩ hlr HWD.out ((HIRR.out.below HB3.out (Nat.le_refl _)).more HB3.out.size) ha hb HX3.out.2.1 HX3.out.2.2).mono ?_
  rintro e w4 ⟨A4, cap4, rfl, hiw, hb4⟩
  have HB4 := Lib.hid (HB3.out.trans (hb4.mono HB3.out.size))
  have HW4 := Lib.hid hiw
  have hs3 := HB3.out.size
  clear hiw hb4
  go_wp2_with fail
  go_ret2
  exact ⟨A4, cap4, by first | rfl | (rw [hsl]; rfl), HB4.out, HW4.out.lo_ hs3⟩

set_option maxRecDepth 100000 in
set_option maxHeartbeats 4000000 in
theorem specShift_code (c0 : Int) (A : Option Addr) (n c : Nat) (ts : List Tl) (B : Option Addr) (m d : Nat) (rs : List (List Int)) (a b : Int) (w : World) (hn : n ≤ 1048576) (hl : ts.length = n) (hA : TR w w.heap.size A ts) (hm : m ≤ 1048576) (hlr : rs.length = m) (hB : IRR w w.heap.size B rs) (hrow : ∀ k, k < m → (rs.getD k []).length ≤ 1048576) (hc : fillCode c0 ts rs ≠ 0) :
    Calls Try.prog 25 #[.agg #[.int .i64 c0, .slice A n c], .slice B m d, .int .i64 a, .int .i64 b] w (RowsRes w [] (fillCode c0 ts rs)) := by
  have har : ∀ W, Ext w W → Calls Try.prog 56 #[.agg #[.int .i64 c0, .slice A n c], .slice B m d] W _ := fun W hW => l01Rows_any c0 A n c ts B m d rs W hn hl ((hA.ext hW (Nat.le_refl _)).more (hW.below (Nat.le_refl _)).size) hm hlr ((hB.ext hW (Nat.le_refl _)).more (hW.below (Nat.le_refl _)).size) hrow
  generalize fillCode c0 ts rs = code at *
  have hne : (code != 0) = true := by simp [hc]
  have hne2 : (code == 0) = false := by simp [hc]
  have hne3 : decide (code = 0) = false := by simp [hc]
  have HR := Lib.hid har
  clear har hA hB hrow
  go_enter Try.func25, Try.ntmps25
  go_wp2_with fail
  refine (HR.out _ ((Ext.refl w).alloc _)).mono ?_
  rintro e w1 ⟨rfl, hx⟩
  have HX := Lib.hid (((Ext.refl w).alloc _).trans hx)
  have HK := Lib.hid ((Blk.new w 32 #[.int .i64 c0, .slice A n c]).ext hx)
  clear hx
  go_wp2_with fail
  go_ret2
  exact RowsRes.none_ (HX.out.below (Nat.le_refl _))

set_option maxRecDepth 100000 in
set_option maxHeartbeats 4000000 in
theorem specShift_rng (c0 : Int) (A : Option Addr) (n c : Nat) (ts : List Tl) (B : Option Addr) (m d : Nat) (rs : List (List Int)) (a b : Int) (w : World) (hn : n ≤ 1048576) (hl : ts.length = n) (hA : TR w w.heap.size A ts) (hm : m ≤ 1048576) (hlr : rs.length = m) (hB : IRR w w.heap.size B rs) (hrow : ∀ k, k < m → (rs.getD k []).length ≤ 1048576) (hc : fillCode c0 ts rs = 0) (hr : ¬ (0 ≤ a ∧ a < m ∧ 0 ≤ b ∧ b < (rs.getD 0 []).length)) :
    Calls Try.prog 25 #[.agg #[.int .i64 c0, .slice A n c], .slice B m d, .int .i64 a, .int .i64 b] w (RowsRes w [] 2) := by
  have har : ∀ W, Ext w W → Calls Try.prog 56 #[.agg #[.int .i64 c0, .slice A n c], .slice B m d] W _ := fun W hW => l01Rows_any c0 A n c ts B m d rs W hn hl ((hA.ext hW (Nat.le_refl _)).more (hW.below (Nat.le_refl _)).size) hm hlr ((hB.ext hW (Nat.le_refl _)).more (hW.below (Nat.le_refl _)).size) hrow
  rw [hc] at har
  have hok := (fillCode_ok hc).2
  obtain ⟨⟨hm1, hm8⟩, ⟨hw1, hw8⟩, hwd⟩ := rowsOk_facts hok hlr
  have HIRR := Lib.hid hB
  obtain ⟨b0, o, rfl, hb0, hcr⟩ := hB (by omega)
  obtain ⟨Q0, q0, hcQ0, -, -⟩ := hcr 0 (by omega)
  rw [Nat.add_zero] at hcQ0
  clear hcr
  generalize hWD : (rs.getD 0 []).length = wd at *
  have HWD := Lib.hid hwd
  have HWD0 := Lib.hid hWD
  have hmi : (0 : Int) < (m : Int) := by omega
  have hmn : 0 < m := by omega
  clear hwd hWD
  have HR := Lib.hid har
  have hla := fun W => l01In_any a 0 ((m : Int) - 1) W
  have hlb := fun W => l01In_any b 0 ((wd : Int) - 1) W
  have hwm : IntKind.i64.wrap ((m : Int) - 1) = (m : Int) - 1 := IntWalk.i64_in _ (by omega)
  have hww : IntKind.i64.wrap ((wd : Int) - 1) = (wd : Int) - 1 := IntWalk.i64_in _ (by omega)
  clear har hA hrow hc hok
  by_cases ha : 0 ≤ a ∧ a ≤ (m : Int) - 1
  · rw [decide_eq_true ha] at hla
    have hb' : ¬ (0 ≤ b ∧ b ≤ (wd : Int) - 1) := by omega
    rw [decide_eq_false hb'] at hlb
    have HLA := Lib.hid hla
    have HLB := Lib.hid hlb
    clear ha hb' hr hla hlb
    go_enter Try.func25, Try.ntmps25
    go_wp2_with fail
    refine (HR.out _ ((Ext.refl w).alloc _)).mono ?_
    rintro e w1 ⟨rfl, hx⟩
    have HX := Lib.hid (((Ext.refl w).alloc _).trans hx)
    have HK := Lib.hid ((Blk.new w 32 #[.int .i64 c0, .slice A n c]).ext hx)
    clear hx
    have e0 := ((HX.out.below (Nat.le_refl _)).cell (p := ⟨b0, o, none⟩) hb0).trans hcQ0
    go_wp2_with fail
    refine (HLA.out _).mono ?_
    rintro e w2 ⟨rfl, rfl⟩
    go_wp2_with fail
    refine (HLB.out _).mono ?_
    rintro e w2 ⟨rfl, rfl⟩
    go_wp2_with fail
    go_ret2
    exact RowsRes.none_ (HX.out.below (Nat.le_refl _))
  · rw [decide_eq_false ha] at hla
    have HLA := Lib.hid hla
    clear ha hr hla hlb
    go_enter Try.func25, Try.ntmps25
    go_wp2_with fail
    refine (HR.out _ ((Ext.refl w).alloc _)).mono ?_
    rintro e w1 ⟨rfl, hx⟩
    have HX := Lib.hid (((Ext.refl w).alloc _).trans hx)
    have HK := Lib.hid ((Blk.new w 32 #[.int .i64 c0, .slice A n c]).ext hx)
    clear hx
    have e0 := ((HX.out.below (Nat.le_refl _)).cell (p := ⟨b0, o, none⟩) hb0).trans hcQ0
    go_wp2_with fail
    refine (HLA.out _).mono ?_
    rintro e w2 ⟨rfl, rfl⟩
    go_wp2_with fail
    go_ret2
    exact RowsRes.none_ (HX.out.below (Nat.le_refl _))

set_option maxRecDepth 100000 in
set_option maxHeartbeats 4000000 in
theorem specShift_no (c0 : Int) (A : Option Addr) (n c : Nat) (ts : List Tl) (B : Option Addr) (m d : Nat) (rs : List (List Int)) (a b : Nat) (w : World) (hn : n ≤ 1048576) (hl : ts.length = n) (hA : TR w w.heap.size A ts) (hm : m ≤ 1048576) (hlr : rs.length = m) (hB : IRR w w.heap.size B rs) (hrow : ∀ k, k < m → (rs.getD k []).length ≤ 1048576) (hc : fillCode c0 ts rs = 0) (ha : a < m) (hb : b < (rs.getD 0 []).length) (hr : torAns c0 ts rs = false) :
    Calls Try.prog 25 #[.agg #[.int .i64 c0, .slice A n c], .slice B m d, .int .i64 (a : Int), .int .i64 (b : Int)] w (RowsRes w [] 5) := by
  have har : ∀ W, Ext w W → Calls Try.prog 56 #[.agg #[.int .i64 c0, .slice A n c], .slice B m d] W _ := fun W hW => l01Rows_any c0 A n c ts B m d rs W hn hl ((hA.ext hW (Nat.le_refl _)).more (hW.below (Nat.le_refl _)).size) hm hlr ((hB.ext hW (Nat.le_refl _)).more (hW.below (Nat.le_refl _)).size) hrow
  have hgv : ∀ W, Ext w W → Calls Try.prog 66 #[.agg #[.int .i64 c0, .slice A n c], .slice B m d] W _ := fun W hW => l05Given_any c0 A n c ts B m d rs W hn hl ((hA.ext hW (Nat.le_refl _)).more (hW.below (Nat.le_refl _)).size) hm hlr ((hB.ext hW (Nat.le_refl _)).more (hW.below (Nat.le_refl _)).size) hrow
  have htc : torCode c0 ts rs = 5 := by
    unfold torCode
    rw [if_pos hc, hr]
    simp
  rw [htc] at hgv
  rw [hc] at har
  have hok := (fillCode_ok hc).2
  obtain ⟨⟨hm1, hm8⟩, ⟨hw1, hw8⟩, hwd⟩ := rowsOk_facts hok hlr
  have HIRR := Lib.hid hB
  obtain ⟨b0, o, rfl, hb0, hcr⟩ := hB (by omega)
  obtain ⟨Q0, q0, hcQ0, -, -⟩ := hcr 0 (by omega)
  rw [Nat.add_zero] at hcQ0
  clear hcr
  generalize hWD : (rs.getD 0 []).length = wd at *
  have HWD := Lib.hid hwd
  have HWD0 := Lib.hid hWD
  have hmi : (0 : Int) < (m : Int) := by omega
  have hmn : 0 < m := by omega
  clear hwd hWD
  have HR := Lib.hid har
  have HG := Lib.hid hgv
  have hla := fun W => l01In_any (a : Int) 0 ((m : Int) - 1) W
  have hlb := fun W => l01In_any (b : Int) 0 ((wd : Int) - 1) W
  have hwm : IntKind.i64.wrap ((m : Int) - 1) = (m : Int) - 1 := IntWalk.i64_in _ (by omega)
  have hww : IntKind.i64.wrap ((wd : Int) - 1) = (wd : Int) - 1 := IntWalk.i64_in _ (by omega)
  rw [decide_eq_true (show 0 ≤ (a : Int) ∧ (a : Int) ≤ (m : Int) - 1 by omega)] at hla
  rw [decide_eq_true (show 0 ≤ (b : Int) ∧ (b : Int) ≤ (wd : Int) - 1 by omega)] at hlb
  have HLA := Lib.hid hla
  have HLB := Lib.hid hlb
  have hsl := shR_len a b rs
  rw [hlr] at hsl
  clear har hA hrow hc hok hr hla hlb hgv htc
  go_enter Try.func25, Try.ntmps25
  go_wp2_with fail
  refine (HR.out _ ((Ext.refl w).alloc _)).mono ?_
  rintro e w1 ⟨rfl, hx⟩
  have HX := Lib.hid (((Ext.refl w).alloc _).trans hx)
  have HK := Lib.hid ((Blk.new w 32 #[.int .i64 c0, .slice A n c]).ext hx)
  clear hx
  have e0 := ((HX.out.below (Nat.le_refl _)).cell (p := ⟨b0, o, none⟩) hb0).trans hcQ0
  have r0 := HK.out.rd 0 rfl
  have r1 := HK.out.rd 1 rfl
  go_wp2_with fail
  refine (HLA.out _).mono ?_
  rintro e w2 ⟨rfl, rfl⟩
  go_wp2_with fail
  refine (HLB.out _).mono ?_
  rintro e w2 ⟨rfl, rfl⟩
  go_wp2_with fail
  refine (HG.out _ HX.out).mono ?_
  rintro e w2 ⟨rfl, hx⟩
  have HX2 := Lib.hid (HX.out.trans hx)
  clear hx r0 r1 e0
  go_wp2_with fail
  go_ret2
  exact RowsRes.none_ (HX2.out.below (Nat.le_refl _))

set_option maxRecDepth 100000 in
set_option maxHeartbeats 4000000 in
theorem specShift_0 (c0 : Int) (A : Option Addr) (n c : Nat) (ts : List Tl) (B : Option Addr) (m d : Nat) (rs : List (List Int)) (a b : Nat) (w : World) (hn : n ≤ 1048576) (hl : ts.length = n) (hA : TR w w.heap.size A ts) (hm : m ≤ 1048576) (hlr : rs.length = m) (hB : IRR w w.heap.size B rs) (hrow : ∀ k, k < m → (rs.getD k []).length ≤ 1048576) (hc : fillCode c0 ts rs = 0) (ha : a < m) (hb : b < (rs.getD 0 []).length) (hr : torAns c0 ts rs = true) :
    Calls Try.prog 25 #[.agg #[.int .i64 c0, .slice A n c], .slice B m d, .int .i64 (a : Int), .int .i64 (b : Int)] w (RowsRes w (shR a b rs) 0) := by
  have har : ∀ W, Ext w W → Calls Try.prog 56 #[.agg #[.int .i64 c0, .slice A n c], .slice B m d] W _ := fun W hW => l01Rows_any c0 A n c ts B m d rs W hn hl ((hA.ext hW (Nat.le_refl _)).more (hW.below (Nat.le_refl _)).size) hm hlr ((hB.ext hW (Nat.le_refl _)).more (hW.below (Nat.le_refl _)).size) hrow
  have hgv : ∀ W, Ext w W → Calls Try.prog 66 #[.agg #[.int .i64 c0, .slice A n c], .slice B m d] W _ := fun W hW => l05Given_any c0 A n c ts B m d rs W hn hl ((hA.ext hW (Nat.le_refl _)).more (hW.below (Nat.le_refl _)).size) hm hlr ((hB.ext hW (Nat.le_refl _)).more (hW.below (Nat.le_refl _)).size) hrow
  have htc : torCode c0 ts rs = 0 := by
    unfold torCode
    rw [if_pos hc, hr]
    simp
  rw [htc] at hgv
  rw [hc] at har
  have hok := (fillCode_ok hc).2
  obtain ⟨⟨hm1, hm8⟩, ⟨hw1, hw8⟩, hwd⟩ := rowsOk_facts hok hlr
  have HIRR := Lib.hid hB
  obtain ⟨b0, o, rfl, hb0, hcr⟩ := hB (by omega)
  obtain ⟨Q0, q0, hcQ0, -, -⟩ := hcr 0 (by omega)
  rw [Nat.add_zero] at hcQ0
  clear hcr
  generalize hWD : (rs.getD 0 []).length = wd at *
  have HWD := Lib.hid hwd
  have HWD0 := Lib.hid hWD
  have hmi : (0 : Int) < (m : Int) := by omega
  have hmn : 0 < m := by omega
  clear hwd hWD
  have HR := Lib.hid har
  have HG := Lib.hid hgv
  have hla := fun W => l01In_any (a : Int) 0 ((m : Int) - 1) W
  have hlb := fun W => l01In_any (b : Int) 0 ((wd : Int) - 1) W
  have hwm : IntKind.i64.wrap ((m : Int) - 1) = (m : Int) - 1 := IntWalk.i64_in _ (by omega)
  have hww : IntKind.i64.wrap ((wd : Int) - 1) = (wd : Int) - 1 := IntWalk.i64_in _ (by omega)
  rw [decide_eq_true (show 0 ≤ (a : Int) ∧ (a : Int) ≤ (m : Int) - 1 by omega)] at hla
  rw [decide_eq_true (show 0 ≤ (b : Int) ∧ (b : Int) ≤ (wd : Int) - 1 by omega)] at hlb
  have HLA := Lib.hid hla
  have HLB := Lib.hid hlb
  have hsl := shR_len a b rs
  rw [hlr] at hsl
  clear har hA hrow hc hok hr hla hlb hgv htc
  go_enter Try.func25, Try.ntmps25
  go_wp2_with fail
  refine (HR.out _ ((Ext.refl w).alloc _)).mono ?_
  rintro e w1 ⟨rfl, hx⟩
  have HX := Lib.hid (((Ext.refl w).alloc _).trans hx)
  have HK := Lib.hid ((Blk.new w 32 #[.int .i64 c0, .slice A n c]).ext hx)
  clear hx
  have e0 := ((HX.out.below (Nat.le_refl _)).cell (p := ⟨b0, o, none⟩) hb0).trans hcQ0
  have r0 := HK.out.rd 0 rfl
  have r1 := HK.out.rd 1 rfl
  go_wp2_with fail
  refine (HLA.out _).mono ?_
  rintro e w2 ⟨rfl, rfl⟩
  go_wp2_with fail
  refine (HLB.out _).mono ?_
  rintro e w2 ⟨rfl, rfl⟩
  go_wp2_with fail
  refine (HG.out _ HX.out).mono ?_
  rintro e w2 ⟨rfl, hx⟩
  have HX2 := Lib.hid (HX.out.trans hx)
  clear hx r0 r1 e0
  go_wp2_with fail
  have hb2 := HX2.out.below (Nat.le_refl w.heap.size)
  have HB2 := Lib.hid hb2
  have hs2 := hb2.size
  clear hb2
  refine (l05Shift_any _ m d rs wd a b w2 ⟨hm1, hm8⟩ ⟨hw1, hw8⟩ hlr HWD.out ((HIRR.out.below HB2.out (Nat.le_refl _)).more HB2.out.size) ha hb).mono ?_
  rintro e w4 ⟨v4, rfl, hown, hb4⟩
  obtain ⟨A4, cap4, rfl, -, hiw⟩ := hown.done
  have HB4 := Lib.hid (HB2.out.trans (hb4.mono HB2.out.size))
  have HW4 := Lib.hid hiw
  clear hiw hb4 hown
  go_wp2_with fail
  go_ret2
  exact ⟨A4, cap4, by first | rfl | (rw [hsl]; rfl), HB4.out, HW4.out.lo_ hs2⟩
end Go.Proofs.Ytjoaoimebdkpaaa
