/- Columns: the program's small functions. -/
import Derived.Test.YtblcghefnikmeaaGc1
import Derived.Lib.Hide
import Derived.Outline
namespace Go.Proofs.Ytblcghefnikmeaa
set_option linter.unusedVariables false
set_option linter.unusedSimpArgs false
open Go.RowKit Go.Sort

/-- The west colours of the tiles with these numbers. -/
def colW (ts : List Tl) (xs : List Int) : List Int := xs.map fun x => (ts.getD x.toNat T0).1
theorem colW_len (ts : List Tl) (xs : List Int) : (colW ts xs).length = xs.length := by simp [colW]
theorem colW_at (ts : List Tl) {xs : List Int} {k : Nat} (hk : k < xs.length) : (colW ts xs).getD k 0 = (ts.getD (xs.getD k 0).toNat T0).1 := by simp [colW, List.getD, hk]
set_option maxRecDepth 100000 in
set_option maxHeartbeats 1000000 in
theorem coloursAt_W (c0 : Int) (A : Option Addr) (n c : Nat) (ts : List Tl) (B : Option Addr) (m d : Nat) (xs : List Int) (w : World) (hn : n ≤ 1048576) (hl : ts.length = n) (hA : TR w w.heap.size A ts) (hm : m ≤ 1048576) (hlx : xs.length = m) (hB : IR w w.heap.size B xs) (hal : allT ts xs = true) :
    Calls Try.prog 129 #[.agg #[.int .i64 c0, .slice A n c], .slice B m d, .int .i64 0] w fun e w' => ∃ A' cap, e = .returned (.slice A' (colW ts xs).length cap) ∧ Below w.heap.size w w' ∧ IWr w' w.heap.size w'.heap.size A' (colW ts xs) := by
  go_enter Try.func129, Try.ntmps129
  go_wp2_with fail
  obtain ⟨W0, hW0⟩ : ∃ W0, w.alloc (Obj.cells #[.int .i64 c0, .slice A n c] 30) = W0 := ⟨_, rfl⟩
  have hs0 : W0.heap.size = w.heap.size + 1 := by rw [← hW0]; simp
  have hE : Ext w W0 := by rw [← hW0]; exact (Ext.refl w).alloc _
  have hB0 : Blk W0 w.heap.size 30 #[.int .i64 c0, .slice A n c] := by rw [← hW0]; exact Blk.new w _ _
  have HH := Lib.hid (And.intro hs0 (And.intro hE hB0))
  rw [hW0]
  clear hW0 hs0 hE hB0
  go_loopw [7, 12] (fun v i wr => ∃ k : Nat, k ≤ m ∧ i = .int .i64 k ∧ wr.ownsRow W0.heap.size 2 1 v k (vis ((colW ts xs).take k)) ∧ Below W0.heap.size W0 wr) (fun _ i _ => m - (intOf i).toNat)
  case atStart => exact ⟨0, Nat.zero_le _, rfl, World.ownsRow_nil _ _ _ _, Below.refl _ _⟩
  case round =>
    obtain ⟨k, hk, rfl, hown, hb⟩ := hrel
    have HO := Lib.hid hown
    have HB := Lib.hid hb
    have hE := HH.out.2.1.below (Nat.le_refl _)
    have hE2 := hE.trans (hb.mono (by have := HH.out.1; omega))
    by_cases hlt : k < m
    · obtain ⟨bx, ox, rfl, -, hcx⟩ := (hB.below hE2 (Nat.le_refl _)) (by omega)
      have q1 := hcx k (by omega)
      have hx := allT_in hal (k := k) (by omega)
      have EY := Lib.hid (colW_at ts (xs := xs) (k := k) (by omega))
      generalize xs.getD k 0 = x at q1 hx EY
      simp only [inT, decide_eq_true_eq, hl] at hx
      obtain ⟨j, rfl⟩ : ∃ j : Nat, x = (j : Int) := ⟨x.toNat, by omega⟩
      have hj3 : (j : Int) < (n : Int) := by omega
      obtain ⟨b, o, rfl, -, ht⟩ := (hA.below hE2 (Nat.le_refl _)) (by omega)
      have tj := (ht j (by omega)).1
      simp only [Int.toNat_natCast] at EY
      generalize (ts.getD j T0).1 = y at tj EY
      have r1 := (HH.out.2.2.below hb HH.out.2.2.lt).rd 1 rfl
      clear hown hb hA hB hcx ht hE hE2 hx
      go_wp2_with (at_builtin; refine wpList_push rfl _ _ rfl W0.heap.size _ k _ rfl (HO.out.alloc _) wr.heap.size y rfl (heap_alloc_new wr _) ?c1 ?c2 ?c3 ?_)
      case c1 => unfold maxLen; omega
      case c2 => omega
      case c3 => have := HB.out.size; simp; omega
      intro v' w3 hown' hgrow _
      have O3 := Lib.hid (istep (us := colW ts xs) (k := k) (y := y) (by rw [colW_len]; omega) EY.out.symm hown')
      have B3 := Lib.hid ((HB.out.alloc HB.out.size _).grown hgrow (by have := HB.out.size; simp; omega) (fun j hj => (HO.out.lt j hj).1))
      clear hown' hgrow HO HB q1 tj r1
      go_wp2_with fail
      go_roundw
      case rel => exact ⟨k + 1, by omega, by go_num, O3.out, B3.out⟩
      case measure => simp [intOf]; omega
    · clear hown hb hA hB hE hE2
      have hmk := HO.out
      obtain rfl : k = m := by omega
      rw [List.take_of_length_le (by rw [colW_len]; omega)] at hmk
      obtain ⟨A2, cap2, rfl, hcap, htw⟩ := own_iwr hmk (by rw [colW_len]; omega)
      have HT := Lib.hid htw
      clear hmk htw HO
      go_wp2_with fail
      go_ret
      exact ⟨A2, cap2, by rw [colW_len, hlx]; rfl, (HH.out.2.1.below (Nat.le_refl _)).trans (HB.out.mono (by have := HH.out.1; omega)), HT.out.low (by have := HH.out.1; omega)⟩

/-- The east colours of the tiles with these numbers. -/
def colE (ts : List Tl) (xs : List Int) : List Int := xs.map fun x => (ts.getD x.toNat T0).2.2.1
theorem colE_len (ts : List Tl) (xs : List Int) : (colE ts xs).length = xs.length := by simp [colE]
theorem colE_at (ts : List Tl) {xs : List Int} {k : Nat} (hk : k < xs.length) : (colE ts xs).getD k 0 = (ts.getD (xs.getD k 0).toNat T0).2.2.1 := by simp [colE, List.getD, hk]
set_option maxRecDepth 100000 in
set_option maxHeartbeats 1000000 in
theorem coloursAt_E (c0 : Int) (A : Option Addr) (n c : Nat) (ts : List Tl) (B : Option Addr) (m d : Nat) (xs : List Int) (w : World) (hn : n ≤ 1048576) (hl : ts.length = n) (hA : TR w w.heap.size A ts) (hm : m ≤ 1048576) (hlx : xs.length = m) (hB : IR w w.heap.size B xs) (hal : allT ts xs = true) :
    Calls Try.prog 129 #[.agg #[.int .i64 c0, .slice A n c], .slice B m d, .int .i64 2] w fun e w' => ∃ A' cap, e = .returned (.slice A' (colE ts xs).length cap) ∧ Below w.heap.size w w' ∧ IWr w' w.heap.size w'.heap.size A' (colE ts xs) := by
  go_enter Try.func129, Try.ntmps129
  go_wp2_with fail
  obtain ⟨W0, hW0⟩ : ∃ W0, w.alloc (Obj.cells #[.int .i64 c0, .slice A n c] 30) = W0 := ⟨_, rfl⟩
  have hs0 : W0.heap.size = w.heap.size + 1 := by rw [← hW0]; simp
  have hE : Ext w W0 := by rw [← hW0]; exact (Ext.refl w).alloc _
  have hB0 : Blk W0 w.heap.size 30 #[.int .i64 c0, .slice A n c] := by rw [← hW0]; exact Blk.new w _ _
  have HH := Lib.hid (And.intro hs0 (And.intro hE hB0))
  rw [hW0]
  clear hW0 hs0 hE hB0
  go_loopw [7, 12] (fun v i wr => ∃ k : Nat, k ≤ m ∧ i = .int .i64 k ∧ wr.ownsRow W0.heap.size 2 1 v k (vis ((colE ts xs).take k)) ∧ Below W0.heap.size W0 wr) (fun _ i _ => m - (intOf i).toNat)
  case atStart => exact ⟨0, Nat.zero_le _, rfl, World.ownsRow_nil _ _ _ _, Below.refl _ _⟩
  case round =>
    obtain ⟨k, hk, rfl, hown, hb⟩ := hrel
    have HO := Lib.hid hown
    have HB := Lib.hid hb
    have hE := HH.out.2.1.below (Nat.le_refl _)
    have hE2 := hE.trans (hb.mono (by have := HH.out.1; omega))
    by_cases hlt : k < m
    · obtain ⟨bx, ox, rfl, -, hcx⟩ := (hB.below hE2 (Nat.le_refl _)) (by omega)
      have q1 := hcx k (by omega)
      have hx := allT_in hal (k := k) (by omega)
      have EY := Lib.hid (colE_at ts (xs := xs) (k := k) (by omega))
      generalize xs.getD k 0 = x at q1 hx EY
      simp only [inT, decide_eq_true_eq, hl] at hx
      obtain ⟨j, rfl⟩ : ∃ j : Nat, x = (j : Int) := ⟨x.toNat, by omega⟩
      have hj3 : (j : Int) < (n : Int) := by omega
      obtain ⟨b, o, rfl, -, ht⟩ := (hA.below hE2 (Nat.le_refl _)) (by omega)
      have tj := (ht j (by omega)).2.2.1
      simp only [Int.toNat_natCast] at EY
      generalize (ts.getD j T0).2.2.1 = y at tj EY
      have r1 := (HH.out.2.2.below hb HH.out.2.2.lt).rd 1 rfl
      clear hown hb hA hB hcx ht hE hE2 hx
      go_wp2_with (at_builtin; refine wpList_push rfl _ _ rfl W0.heap.size _ k _ rfl (HO.out.alloc _) wr.heap.size y rfl (heap_alloc_new wr _) ?c1 ?c2 ?c3 ?_)
      case c1 => unfold maxLen; omega
      case c2 => omega
      case c3 => have := HB.out.size; simp; omega
      intro v' w3 hown' hgrow _
      have O3 := Lib.hid (istep (us := colE ts xs) (k := k) (y := y) (by rw [colE_len]; omega) EY.out.symm hown')
      have B3 := Lib.hid ((HB.out.alloc HB.out.size _).grown hgrow (by have := HB.out.size; simp; omega) (fun j hj => (HO.out.lt j hj).1))
      clear hown' hgrow HO HB q1 tj r1
      go_wp2_with fail
      go_roundw
      case rel => exact ⟨k + 1, by omega, by go_num, O3.out, B3.out⟩
      case measure => simp [intOf]; omega
    · clear hown hb hA hB hE hE2
      have hmk := HO.out
      obtain rfl : k = m := by omega
      rw [List.take_of_length_le (by rw [colE_len]; omega)] at hmk
      obtain ⟨A2, cap2, rfl, hcap, htw⟩ := own_iwr hmk (by rw [colE_len]; omega)
      have HT := Lib.hid htw
      clear hmk htw HO
      go_wp2_with fail
      go_ret
      exact ⟨A2, cap2, by rw [colE_len, hlx]; rfl, (HH.out.2.1.below (Nat.le_refl _)).trans (HB.out.mono (by have := HH.out.1; omega)), HT.out.low (by have := HH.out.1; omega)⟩

set_option maxRecDepth 100000 in
set_option maxHeartbeats 1000000 in
theorem fits_below (c0 : Int) (A : Option Addr) (n c : Nat) (ts : List Tl) (i k : Nat) (w : World) (hn : n ≤ 1048576) (hl : ts.length = n) (hi : i < n) (hk : k < n) (hA : TR w w.heap.size A ts) :
    Calls Try.prog 164 #[.agg #[.int .i64 c0, .slice A n c], .int .i64 i, .int .i64 3, .int .i64 k] w fun e w' => e = .returned (.bool (decide ((ts.getD i T0).2.2.2 = (ts.getD k T0).2.1))) ∧ Ext w w' := by
  have hi3 : (i : Int) < (n : Int) := by omega
  have hk3 : (k : Int) < (n : Int) := by omega
  obtain ⟨b, o, rfl, -, ht⟩ := hA (by omega)
  have hx : Ext w (w.alloc (.cells #[.int .i64 c0, .slice (some ⟨b, o, none⟩) n c] 30)) := (Ext.refl w).alloc _
  have hlt : b < w.heap.size := by
    obtain ⟨b', o', e, h, _⟩ := hA (by omega)
    cases e
    exact h
  have ti : (w.alloc (.cells #[.int .i64 c0, .slice (some ⟨b, o, none⟩) n c] 30)).cell? ⟨b, o + i * 4 + 3, none⟩ = _ := (World.cell?_alloc_lt w _ _ hlt).trans (ht i (by omega)).2.2.2
  have tk : (w.alloc (.cells #[.int .i64 c0, .slice (some ⟨b, o, none⟩) n c] 30)).cell? ⟨b, o + k * 4 + 1, none⟩ = _ := (World.cell?_alloc_lt w _ _ hlt).trans (ht k (by omega)).2.1
  generalize (ts.getD i T0).2.2.2 = e at ti ⊢
  generalize (ts.getD k T0).2.1 = f at tk ⊢
  have r1 := (Blk.new w 30 #[.int .i64 c0, .slice (some ⟨b, o, none⟩) n c]).rd 1 rfl
  clear hA ht hx
  go_enter Try.func164, Try.ntmps164
  go_wp2_with fail
  go_quiet (fail)
  clear ti tk r1
  go_wp2_with fail
  go_ret
  exact ⟨ret_b (by rw [Bool.eq_iff_iff]; simp; exact eq_comm), by repeat (first | exact Ext.refl _ | refine Ext.drewN ?_ _ | refine Ext.alloc ?_ _)⟩

theorem pow_le4 {C k : Nat} (hC : C ≤ 6) (hk : k ≤ 4) : C ^ k ≤ 1296 := by
  rcases Nat.eq_zero_or_pos C with h | h
  · subst h; rcases Nat.eq_zero_or_pos k with h | h
    · subst h; simp
    · rw [Nat.zero_pow h]; omega
  · exact Nat.le_trans (Nat.pow_le_pow_left hC k) (Nat.le_trans (Nat.pow_le_pow_right (by omega) hk) (by decide))
theorem wnum_small {C : Nat} (h1 : 1 ≤ C) (h6 : C ≤ 6) {xs : List Int} (hl : xs.length ≤ 4) (h : ∀ x ∈ xs, 0 ≤ x ∧ x < (C : Int)) (k : Nat) : ∃ m : Nat, wnum (C : Int) (xs.take k) = (m : Int) ∧ m < 1296 := by
  obtain ⟨m, e, hm⟩ := wnum_lt (c := C) (by omega) (xs := xs.take k) fun x hx => h x (List.mem_of_mem_take hx)
  exact ⟨m, e, Nat.lt_of_lt_of_le hm (pow_le4 h6 (by rw [List.length_take]; omega))⟩

set_option maxRecDepth 100000 in
set_option maxHeartbeats 1000000 in
theorem wordNumber_any (C : Nat) (A : Option Addr) (n c : Nat) (B : Option Addr) (m d : Nat) (xs : List Int) (w : World) (hc1 : 1 ≤ C) (hc6 : C ≤ 6) (hm : m ≤ 4) (hlx : xs.length = m) (hB : IR w w.heap.size B xs) (hcol : ∀ x ∈ xs, 0 ≤ x ∧ x < (C : Int)) :
    Calls Try.prog 137 #[.agg #[.int .i64 (C : Int), .slice A n c], .slice B m d] w fun e w' => e = .returned (.int .i64 (wnum (C : Int) xs)) ∧ Ext w w' := by
  have HB := Lib.hid hB
  have hsm := fun k => wnum_small hc1 hc6 (xs := xs) (by omega) hcol k
  have HS := Lib.hid hsm
  have HCO := Lib.hid hcol
  clear hB hsm hcol
  go_enter Try.func137, Try.ntmps137
  go_wp2_with fail
  have HX0 := Lib.hid ((Ext.refl w).alloc (Obj.cells #[.int .i64 (C : Int), .slice A n c] 30))
  have HS0 := Lib.hid (Blk.new w 30 #[.int .i64 (C : Int), .slice A n c])
  generalize w.alloc (Obj.cells #[.int .i64 (C : Int), .slice A n c] 30) = W0 at *
  go_loopw [5, 10] (fun v i wr => ∃ k : Nat, k ≤ m ∧ i = .int .i64 k ∧ v = .int .i64 (wnum (C : Int) (xs.take k)) ∧ Ext W0 wr) (fun _ i _ => m - (intOf i).toNat)
  case atStart => exact ⟨0, Nat.zero_le _, rfl, rfl, Ext.refl _⟩
  case round =>
    obtain ⟨k, hk, rfl, rfl, hx⟩ := hrel
    have HX := Lib.hid hx
    by_cases hlt : k < m
    · obtain ⟨bx, ox, rfl, -, hcx⟩ := (HB.out.ext (HX0.out.trans hx) (Nat.le_refl _)) (by omega)
      have q1 := hcx k (by omega)
      have hin := HCO.out (xs.getD k 0) (by simp [List.getD, show k < xs.length by omega])
      have EW := Lib.hid (wnum_take (C : Int) xs (k := k) (by omega))
      obtain ⟨p, ep, hp⟩ := HS.out k
      have r1 := (HS0.out.ext hx).rd 0 rfl
      generalize xs.getD k 0 = y at q1 hin EW
      obtain ⟨y', rfl⟩ : ∃ y' : Nat, y = (y' : Int) := ⟨y.toNat, by omega⟩
      have hpc : p * C ≤ 1296 * 6 := Nat.mul_le_mul (by omega) hc6
      have hcast : ((p * C : Nat) : Int) = (p : Int) * (C : Int) := by push_cast; rfl
      rw [ep] at EW ⊢
      have hw1 : IntKind.i64.wrap ((p : Int) * (C : Int)) = (p : Int) * (C : Int) := IntWalk.i64_in _ (by omega)
      have hw2 : IntKind.i64.wrap ((p : Int) * (C : Int) + (y' : Int)) = (p : Int) * (C : Int) + (y' : Int) := IntWalk.i64_in _ (by omega)
      have hlt3 : (k : Int) < (m : Int) := by omega
      clear hx hcx
      go_wp2_with fail
      go_roundw
      case rel => exact ⟨k + 1, by omega, by go_num, by rw [EW.out], HX.out⟩
      case measure => simp [intOf]; omega
    · obtain rfl : k = m := by omega
      have e1 : xs.take k = xs := List.take_of_length_le (by omega)
      clear hx
      go_wp2_with fail
      go_ret
      exact ⟨by rw [e1]; rfl, HX0.out.trans HX.out⟩

/-- A column as an edge: a tile with its words, as numbers, at the west and the east. -/
def edgeT (C : Int) (ts : List Tl) (xs : List Int) : Tl := (wnum C (colW ts xs), 0, wnum C (colE ts xs), 0)
theorem mem_colW {C : Nat} {ts : List Tl} {xs : List Int} (hs : colOk C ts) (hal : allT ts xs = true) : ∀ x ∈ colW ts xs, 0 ≤ x ∧ x < (C : Int) := by
  intro x hx
  simp only [colW, List.mem_map] at hx
  obtain ⟨y, hy, rfl⟩ := hx
  obtain ⟨k, hk, rfl⟩ := List.getElem_of_mem hy
  have := allT_in hal hk
  rw [show xs.getD k 0 = xs[k] by simp [List.getD, hk]] at this
  simp only [inT, decide_eq_true_eq] at this
  obtain ⟨a, b, e1, h1, e2, h2⟩ := hs (xs[k]).toNat (by omega)
  omega
theorem mem_colE {C : Nat} {ts : List Tl} {xs : List Int} (hs : colOk C ts) (hal : allT ts xs = true) : ∀ x ∈ colE ts xs, 0 ≤ x ∧ x < (C : Int) := by
  intro x hx
  simp only [colE, List.mem_map] at hx
  obtain ⟨y, hy, rfl⟩ := hx
  obtain ⟨k, hk, rfl⟩ := List.getElem_of_mem hy
  have := allT_in hal hk
  rw [show xs.getD k 0 = xs[k] by simp [List.getD, hk]] at this
  simp only [inT, decide_eq_true_eq] at this
  obtain ⟨a, b, e1, h1, e2, h2⟩ := hs (xs[k]).toNat (by omega)
  omega
end Go.Proofs.Ytblcghefnikmeaa
