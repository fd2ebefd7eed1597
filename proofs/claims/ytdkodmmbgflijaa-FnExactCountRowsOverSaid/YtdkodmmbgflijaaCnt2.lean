/- The program's CountRows. -/
import Derived.Test.YtdkodmmbgflijaaCnt1
namespace Go.Proofs.Ytdkodmmbgflijaa
set_option linter.unusedVariables false
set_option linter.unusedSimpArgs false
open Go.RowKit Go.Sort

theorem blk_store6 {w : World} {g : Nat} {t : TypeId} {f : Nat → Int} (h : Blk w g t (l6 f)) (a0 a1 a2 a3 a4 a5 : Int) :
    Blk ((((((w.setCell ⟨g, 0, none⟩ (.int .i64 a0)).setCell ⟨g, 1, none⟩ (.int .i64 a1)).setCell ⟨g, 2, none⟩ (.int .i64 a2)).setCell ⟨g, 3, none⟩ (.int .i64 a3)).setCell ⟨g, 4, none⟩ (.int .i64 a4)).setCell ⟨g, 5, none⟩ (.int .i64 a5)) g t #[.int .i64 a0, .int .i64 a1, .int .i64 a2, .int .i64 a3, .int .i64 a4, .int .i64 a5] := by
  have := (((((h.set_ 0 (.int .i64 a0)).set_ 1 (.int .i64 a1)).set_ 2 (.int .i64 a2)).set_ 3 (.int .i64 a3)).set_ 4 (.int .i64 a4)).set_ 5 (.int .i64 a5)
  simpa [l6] using this

set_option maxRecDepth 100000 in
set_option maxHeartbeats 1000000 in
theorem oneEach_any (w : World) : Calls Try.prog 85 #[] w fun e w' => e = .returned (.agg (l6 fun _ => 1)) ∧ Below w.heap.size w w' := by
  go_enter Try.func85, Try.ntmps85
  go_wp2_with fail
  refine wp_loop_rounds 7 ?_
  iterate 6 (rw [rounds_succ]; go_wp2)
  rw [rounds_succ]
  go_wp2
  refine bodyPost_ret (v := .agg (l6 fun _ => 1)) (by simp [results, Try.results85, go_sem, l6]) rfl ⟨rfl, ?_⟩
  exact ((Below.refl _ _).alloc (Nat.le_refl _) _).alloc (by simp) _

def tot6 (f : Nat → Int) : Int := f 0 + f 1 + f 2 + f 3 + f 4 + f 5
set_option maxRecDepth 100000 in
set_option maxHeartbeats 1000000 in
theorem total_any (f : Nat → Int) (hf : Cap f) (w : World) : Calls Try.prog 88 #[.agg (l6 f)] w fun e w' => e = .returned (.int .i64 (tot6 f)) ∧ Below w.heap.size w w' := by
  have h0 := hf 0
  have h1 := hf 1
  have h2 := hf 2
  have h3 := hf 3
  have h4 := hf 4
  have h5 := hf 5
  clear hf
  unfold l6 tot6
  generalize f 0 = a0 at *
  generalize f 1 = a1 at *
  generalize f 2 = a2 at *
  generalize f 3 = a3 at *
  generalize f 4 = a4 at *
  generalize f 5 = a5 at *
  have i0 : ∀ w, (Instr.index 84 (.agg #[.int .i64 a0, .int .i64 a1, .int .i64 a2, .int .i64 a3, .int .i64 a4, .int .i64 a5]) (.int .i64 0)).run Try.prog w = .ok (.int .i64 a0) w := fun _ => by kernel_rfl
  have i1 : ∀ w, (Instr.index 84 (.agg #[.int .i64 a0, .int .i64 a1, .int .i64 a2, .int .i64 a3, .int .i64 a4, .int .i64 a5]) (.int .i64 1)).run Try.prog w = .ok (.int .i64 a1) w := fun _ => by kernel_rfl
  have i2 : ∀ w, (Instr.index 84 (.agg #[.int .i64 a0, .int .i64 a1, .int .i64 a2, .int .i64 a3, .int .i64 a4, .int .i64 a5]) (.int .i64 2)).run Try.prog w = .ok (.int .i64 a2) w := fun _ => by kernel_rfl
  have i3 : ∀ w, (Instr.index 84 (.agg #[.int .i64 a0, .int .i64 a1, .int .i64 a2, .int .i64 a3, .int .i64 a4, .int .i64 a5]) (.int .i64 3)).run Try.prog w = .ok (.int .i64 a3) w := fun _ => by kernel_rfl
  have i4 : ∀ w, (Instr.index 84 (.agg #[.int .i64 a0, .int .i64 a1, .int .i64 a2, .int .i64 a3, .int .i64 a4, .int .i64 a5]) (.int .i64 4)).run Try.prog w = .ok (.int .i64 a4) w := fun _ => by kernel_rfl
  have i5 : ∀ w, (Instr.index 84 (.agg #[.int .i64 a0, .int .i64 a1, .int .i64 a2, .int .i64 a3, .int .i64 a4, .int .i64 a5]) (.int .i64 5)).run Try.prog w = .ok (.int .i64 a5) w := fun _ => by kernel_rfl
  go_enter Try.func88, Try.ntmps88
  go_wp2_with fail
  refine wp_loop_rounds 7 ?_
  iterate 6 (rw [rounds_succ]; go_wp2)
  rw [rounds_succ]
  go_wp2
  go_ret
  exact ⟨ret_i (by omega), (Below.refl _ _).alloc (Nat.le_refl _) _⟩

def cnt (n : Int) : Int := if 1000000000000000 < n then 0 else n
def cntCode (n : Int) : Int := if 1000000000000000 < n then 3 else 0
theorem limitedCount_any (n : Int) (w : World) : Calls Try.prog 87 #[.int .i64 n] w fun e w' => e = .returned (.tuple #[.int .i64 (cnt n), .int .i64 (cntCode n)]) ∧ w' = w := by
  unfold cnt cntCode
  go_enter Try.func87, Try.ntmps87
  by_cases h : 1000000000000000 < n
  · go_wp2
    go_ret2
    exact ⟨by simp [h], rfl⟩
  · go_wp2
    go_ret2
    exact ⟨by simp [h], rfl⟩

/-- The code of a set and a number of tiles. -/
def lenCode (c0 : Int) (ts : List Tl) (i : Int) : Int := if isSet c0 ts = true then (if 1 ≤ i ∧ i ≤ 40 then 0 else 2) else 1
theorem checkLength_any (c0 : Int) (A : Option Addr) (n c : Nat) (ts : List Tl) (i : Int) (w : World) (hn : n ≤ 1048576) (hl : ts.length = n) (hA : TR w w.heap.size A ts) :
    Calls Try.prog 84 #[.agg #[.int .i64 c0, .slice A n c], .int .i64 i] w fun e w' => e = .returned (.int .i64 (lenCode c0 ts i)) ∧ Ext w w' := by
  have his : ∀ W, Ext w W → Calls Try.prog 18 #[.agg #[.int .i64 c0, .slice A n c]] W _ := fun W hW => isSet_any c0 A n c ts W (by omega) hl ((hA.ext hW (Nat.le_refl _)).more (hW.below (Nat.le_refl _)).size)
  have HI := Lib.hid his
  clear his hA
  unfold lenCode
  generalize isSet c0 ts = s at HI ⊢
  cases s with
  | false =>
    go_enter Try.func84, Try.ntmps84
    go_wp2_with fail
    refine (HI.out _ ((Ext.refl w).alloc _)).mono ?_
    rintro e w1 ⟨rfl, hx⟩
    have HX := Lib.hid (((Ext.refl w).alloc _).trans hx)
    clear hx
    go_wp2_with fail
    go_ret
    exact ⟨ret_i (by simp), HX.out⟩
  | true =>
    by_cases h1 : i < 1
    · go_enter Try.func84, Try.ntmps84
      go_wp2_with fail
      refine (HI.out _ ((Ext.refl w).alloc _)).mono ?_
      rintro e w1 ⟨rfl, hx⟩
      have HX := Lib.hid (((Ext.refl w).alloc _).trans hx)
      clear hx
      go_wp2_with fail
      go_ret
      exact ⟨ret_i rfl, HX.out⟩
    · by_cases h2 : 40 < i
      · go_enter Try.func84, Try.ntmps84
        go_wp2_with fail
        refine (HI.out _ ((Ext.refl w).alloc _)).mono ?_
        rintro e w1 ⟨rfl, hx⟩
        have HX := Lib.hid (((Ext.refl w).alloc _).trans hx)
        clear hx
        go_wp2_with fail
        go_ret
        exact ⟨ret_i rfl, HX.out⟩
      · go_enter Try.func84, Try.ntmps84
        go_wp2_with fail
        refine (HI.out _ ((Ext.refl w).alloc _)).mono ?_
        rintro e w1 ⟨rfl, hx⟩
        have HX := Lib.hid (((Ext.refl w).alloc _).trans hx)
        clear hx
        go_wp2_with fail
        go_ret
        exact ⟨ret_i rfl, HX.out⟩

/-- An integer and a code have been handed back; what was there is as it was. -/
def IntRes (w : World) (r code : Int) (e : Ending) (w' : World) : Prop := e = .returned (.tuple #[.int .i64 r, .int .i64 code]) ∧ Below w.heap.size w w'
theorem IntRes.mk {w w' : World} {r code : Int} {e : Ending} (he : e = .returned (.tuple #[.int .i64 r, .int .i64 code])) (hb : Below w.heap.size w w') : IntRes w r code e w' := ⟨he, hb⟩

def wpow (ts : List Tl) (f : Nat → Int) : Nat → (Nat → Int)
  | 0 => f
  | k + 1 => wstep ts (wpow ts f k)
theorem wpow_cap (ts : List Tl) {f : Nat → Int} (h : Cap f) : ∀ k, Cap (wpow ts f k)
  | 0 => h
  | k + 1 => wstep_cap (wpow_cap ts h k) ts
theorem tileOk_mono {c d : Int} (h : c ≤ d) {t : Tl} (ht : tileOk c t = true) : tileOk d t = true := by
  simp only [tileOk, decide_eq_true_eq] at ht ⊢
  omega
theorem ok_of_isSet' {c : Int} {ts : List Tl} (h : isSet c ts = true) : ∀ t ∈ ts, tileOk c t = true := by
  intro t ht
  obtain ⟨i, hi, rfl⟩ := List.mem_iff_getElem.1 ht
  simp only [isSet, Bool.and_eq_true, List.all_eq_true, List.mem_range] at h
  have := h.2 i hi
  simp only [good, Bool.and_eq_true] at this
  simpa [List.getD, hi] using this.1
end Go.Proofs.Ytdkodmmbgflijaa
