/- A word from its number: the program's side, the range itself. -/
import Derived.Test.YtleabblnikbmpaaWn1
import Derived.Lib.SliceRun
import Derived.WalkSpells
import Derived.IntWalk
namespace Go.Proofs.Ytleabblnikbmpaa
set_option linter.unusedVariables false
set_option linter.unusedSimpArgs false
open Go.RowKit Go.Shelf

attribute [local go_sem] Oper.semAt_some

theorem blk_kept' {W W' : World} {row : Option Nat} {g : Nat} {t : TypeId} {cs : Array Value} (h : Blk W g t cs) (hg : W.grownBy W' row) (hr : ∀ r, row = some r → ∃ o : Obj, W.heap[r]? = some o ∧ o.isCells = false) : Blk W' g t cs := by
  refine (hg.block g h.lt fun e => ?_).trans h
  obtain ⟨o, ho, hc⟩ := hr g e.symm
  have h6 : W.heap[g]? = _ := h
  rw [h6] at ho
  cases ho
  cases hc
theorem di_kept' {W W' : World} {row : Option Nat} {g n : Nat} {d : Nat → Int} (h : DI W g n d) (hg : W.grownBy W' row) (hr : ∀ r, row = some r → ∃ o : Obj, W.heap[r]? = some o ∧ o.isCells = false) : DI W' g n d := by
  obtain ⟨cs, hb, r⟩ := h
  exact ⟨cs, blk_kept' hb hg hr, r⟩
/-- What the rounds of the word keep: the set's box, the number's, the word's, the word, all below. -/
def WordI (n₀ C h code : Nat) (sl : Value) (w3 : World) (k : Nat) (W : World) : Prop :=
  Blk W n₀ 30 #[.int .i64 (C : Int), sl] ∧ Blk W (n₀ + 1) 2 #[.int .i64 ((code / C ^ k : Nat) : Int)] ∧ Blk W (n₀ + 1 + 1 + 1) 42 #[.slice (some ⟨n₀ + 1 + 1, 0, none⟩) h h] ∧ DI W (n₀ + 1 + 1) h (partW C h code k) ∧ Below n₀ w3 W
theorem wordI_own (B n₀ C h code : Nat) (sl : Value) (w3 : World) (hB : n₀ ≤ B) : OwnFrom B (WordI n₀ C h code sl w3) := fun k W W' row hI hg hr => by
  obtain ⟨h1, h2, h3, h4, h5⟩ := hI
  have hr' := fun r e => (hr r e).2
  have hbl : Below n₀ W W' := ⟨hg.os, hg.tape, hg.output, hg.size, fun k hk => hg.block k (by have := h1.lt; omega) fun e => by have := (hr k e.symm).1; omega⟩
  exact ⟨blk_kept' h1 hg hr', blk_kept' h2 hg hr', blk_kept' h3 hg hr', di_kept' h4 hg hr', h5.trans hbl⟩
theorem backwardOf_in (m : Nat) (B : Option Addr) (n d : Nat) (w : World) :
    CallsIn Fence.wide m Try.prog 106 #[.slice B n d] w fun e w' =>
      e = .returned (.func (.func 145) #[] #[.pointer (some ⟨w.heap.size, 0, none⟩)]) ∧
      w' = w.alloc (.cells #[.slice B n d] 42) := by
  refine callsIn_of_wp Try.func106 rfl trivial ?_ rfl
  simp only [Try.ntmps106, List.size_toArray, List.length_cons, List.length_nil, Nat.reduceAdd, Nat.reduceSub, Array.replicate_succ, Array.replicate_zero, List.push_toArray, List.append_toArray, List.nil_append, List.cons_append]
  gi_wp2
  go_ret
  exact ⟨rfl, rfl⟩

theorem word_step (n₀ C h code : Nat) (sl : Value) (w3 W : World) (k i q r d l : Nat) (a' : Act) (hn : n₀ + 1 + 1 + 1 + 1 < w3.heap.size) (hi : i < h) (hik : i + k + 1 = h)
    (HS : Blk W n₀ 30 #[.int .i64 (C : Int), sl]) (HN : Blk W (n₀ + 1) 2 #[.int .i64 (q : Int)]) (HB : Blk W (n₀ + 1 + 1 + 1) 42 #[.slice (some ⟨n₀ + 1 + 1, 0, none⟩) h h]) (HD : DI W (n₀ + 1 + 1) h (partW C h code k)) (HBL : Below n₀ w3 W)
    (HQ : code / C ^ (k + 1) = d) (HDG : r = digW C h code i) :
    goesOnR w3.heap.size (fun b => b = n₀ + 1 + 1 + 1 + 1) (WordI n₀ C h code sl w3 (k + 1)) W .normal a' ((W.setCell ⟨n₀ + 1 + 1, i, none⟩ (.int .i64 (r : Int))).setCell ⟨n₀ + 1, 0, none⟩ (.int .i64 (d : Int))).drew := by
  have hk : KeepsFrom w3.heap.size W ((W.setCell ⟨n₀ + 1 + 1, i, none⟩ (.int .i64 (r : Int))).setCell ⟨n₀ + 1, 0, none⟩ (.int .i64 (d : Int))) := ((KeepsOthers.setCell _ _ _).trans (KeepsOthers.setCell _ _ _)).from _
  refine ⟨⟨hk.size, hk.same⟩, fun b hb => ?_, ?_, ?_, ?_, ?_, ?_⟩
  · subst hb
    exact (Below.heap_setCell _ ⟨n₀ + 1, 0, none⟩ _ _ (by show n₀ + 1 + 1 + 1 + 1 ≠ n₀ + 1; omega)).trans (Below.heap_setCell _ ⟨n₀ + 1 + 1, i, none⟩ _ _ (by show n₀ + 1 + 1 + 1 + 1 ≠ n₀ + 1 + 1; omega))
  · exact (HS.far (p := ⟨n₀ + 1 + 1, i, none⟩) (by show n₀ ≠ n₀ + 1 + 1; omega) _).far (p := ⟨n₀ + 1, 0, none⟩) (by show n₀ ≠ n₀ + 1; omega) _
  · rw [HQ]
    exact (HN.far (p := ⟨n₀ + 1 + 1, i, none⟩) (by show n₀ + 1 ≠ n₀ + 1 + 1; omega) _).set_ 0 (.int .i64 (d : Int))
  · exact (HB.far (p := ⟨n₀ + 1 + 1, i, none⟩) (by show n₀ + 1 + 1 + 1 ≠ n₀ + 1 + 1; omega) _).far (p := ⟨n₀ + 1, 0, none⟩) (by show n₀ + 1 + 1 + 1 ≠ n₀ + 1; omega) _
  · exact ((HD.set_ hi (r : Int)).congr (d' := partW C h code (k + 1)) fun x hx => by
      unfold partW
      by_cases e : x = i
      · rw [if_pos e, if_pos (by omega), e, HDG]
      · rw [if_neg e]
        by_cases e2 : h ≤ x + k
        · rw [if_pos e2, if_pos (by omega)]
        · rw [if_neg e2, if_neg (by omega)]).far (p := ⟨n₀ + 1, 0, none⟩) (by show n₀ + 1 + 1 ≠ n₀ + 1; omega) _
  · exact ((HBL.setCell (p := ⟨n₀ + 1 + 1, i, none⟩) (by show n₀ ≤ n₀ + 1 + 1; omega) _).setCell (p := ⟨n₀ + 1, 0, none⟩) (by show n₀ ≤ n₀ + 1; omega) _).drew

set_option maxRecDepth 100000 in
set_option maxHeartbeats 4000000 in
theorem wordWithNumber_in (mm : Nat) (h1 : 3 ≤ mm) (C h code : Nat) (A : Option Addr) (n c : Nat) (w : World) (hC : 0 < C) (hC2 : C ≤ 1000) (hc : code ≤ 1000000) (hh1 : 1 ≤ h) (hh : h ≤ 1000) :
    CallsIn Fence.wide mm Try.prog 59 #[.agg #[.int .i64 (C : Int), .slice A n c], .int .i64 (h : Int), .int .i64 (code : Int)] w fun e w' => e = .returned (.slice (some ⟨w.heap.size + 1 + 1, 0, none⟩) h h) ∧ Below w.heap.size w w' ∧ DI w' (w.heap.size + 1 + 1) h (fun x => (digW C h code x : Int)) := by
  have h2 : 1 ≤ mm := by omega
  have h3 : 1 ≤ mm - 1 := by omega
  have mixed : Try.prog.follows .mixedOrders = true := by kernel_rfl
  obtain ⟨i1, hi1, hy0, hy1, hy2⟩ := info_parts info_int
  have hmk1 := fun W => run_make_rowN (P := Try.prog) 42 2 i1 _ (by kernel_rfl) hi1 hy0 .i64 .i64 h h (Nat.le_refl _) (by rw [hy2]; omega) (by omega) W
  rw [hy1] at hmk1
  have hat := made_ints h
  have hsz := show (madeCells (Value.cells (.int .i64 0)) (h * 1)).size = h by rw [size_madeCells, Nat.mul_one]
  generalize madeCells (Value.cells (.int .i64 0)) (h * 1) = cs1 at hmk1 hat hsz
  have HD0 := Lib.hid (fun W => show DI (World.alloc W (Obj.cells cs1 2)) W.heap.size h (partW C h code 0) from DI.congr (d := fun _ => 0) ⟨cs1, Blk.new W _ _, hsz, fun j hj => hat j hj⟩ fun j hj => by unfold partW; rw [if_neg (by omega)])
  clear hi1 hy0 hy1 hy2 hat hsz
  refine callsIn_of_wp_marks Try.func59 rfl trivial ?_ rfl
  simp only [Try.ntmps59, List.size_toArray, List.length_cons, List.length_nil, Nat.reduceAdd, Nat.reduceSub, Array.replicate_succ, Array.replicate_zero, List.push_toArray, List.append_toArray, List.nil_append, List.cons_append]
  gi_wp2
  refine ⟨trivial, (backwardOf_in _ _ h h _).mono ?_⟩
  rintro e w3 ⟨rfl, rfl⟩
  gi_wp2
  have bS : Blk (((((w.alloc (Obj.cells #[.int .i64 (C : Int), .slice A n c] 30)).alloc (Obj.cells #[.int .i64 (code : Int)] 2)).alloc (Obj.cells cs1 2)).alloc (Obj.cells #[.slice (some ⟨w.heap.size + 1 + 1, 0, none⟩) h h] 42)).alloc (Obj.cells #[.slice (some ⟨w.heap.size + 1 + 1, 0, none⟩) h h] 42)) w.heap.size 30 #[.int .i64 (C : Int), .slice A n c] := (Blk.new w _ _).ext (((((Ext.refl _).alloc _).alloc _).alloc _).alloc _)
  have bN : Blk (((((w.alloc (Obj.cells #[.int .i64 (C : Int), .slice A n c] 30)).alloc (Obj.cells #[.int .i64 (code : Int)] 2)).alloc (Obj.cells cs1 2)).alloc (Obj.cells #[.slice (some ⟨w.heap.size + 1 + 1, 0, none⟩) h h] 42)).alloc (Obj.cells #[.slice (some ⟨w.heap.size + 1 + 1, 0, none⟩) h h] 42)) (w.heap.size + 1) 2 #[.int .i64 ((code / C ^ 0 : Nat) : Int)] := by
    have := (Blk.new (w.alloc (Obj.cells #[.int .i64 (C : Int), .slice A n c] 30)) 2 #[.int .i64 (code : Int)]).ext ((((Ext.refl _).alloc (Obj.cells cs1 2)).alloc (Obj.cells #[.slice (some ⟨w.heap.size + 1 + 1, 0, none⟩) h h] 42)).alloc (Obj.cells #[.slice (some ⟨w.heap.size + 1 + 1, 0, none⟩) h h] 42))
    rw [World.size_alloc] at this
    rw [Nat.pow_zero, Nat.div_one]
    exact this
  have bD : DI (((((w.alloc (Obj.cells #[.int .i64 (C : Int), .slice A n c] 30)).alloc (Obj.cells #[.int .i64 (code : Int)] 2)).alloc (Obj.cells cs1 2)).alloc (Obj.cells #[.slice (some ⟨w.heap.size + 1 + 1, 0, none⟩) h h] 42)).alloc (Obj.cells #[.slice (some ⟨w.heap.size + 1 + 1, 0, none⟩) h h] 42)) (w.heap.size + 1 + 1) h (partW C h code 0) := by
    have := (HD0.out ((w.alloc (Obj.cells #[.int .i64 (C : Int), .slice A n c] 30)).alloc (Obj.cells #[.int .i64 (code : Int)] 2))).ext (((Ext.refl _).alloc (Obj.cells #[.slice (some ⟨w.heap.size + 1 + 1, 0, none⟩) h h] 42)).alloc (Obj.cells #[.slice (some ⟨w.heap.size + 1 + 1, 0, none⟩) h h] 42))
    rw [World.size_alloc, World.size_alloc] at this
    exact this
  have bB : Blk (((((w.alloc (Obj.cells #[.int .i64 (C : Int), .slice A n c] 30)).alloc (Obj.cells #[.int .i64 (code : Int)] 2)).alloc (Obj.cells cs1 2)).alloc (Obj.cells #[.slice (some ⟨w.heap.size + 1 + 1, 0, none⟩) h h] 42)).alloc (Obj.cells #[.slice (some ⟨w.heap.size + 1 + 1, 0, none⟩) h h] 42)) (w.heap.size + 1 + 1 + 1) 42 #[.slice (some ⟨w.heap.size + 1 + 1, 0, none⟩) h h] := by
    have := (Blk.new (((w.alloc (Obj.cells #[.int .i64 (C : Int), .slice A n c] 30)).alloc (Obj.cells #[.int .i64 (code : Int)] 2)).alloc (Obj.cells cs1 2)) 42 #[.slice (some ⟨w.heap.size + 1 + 1, 0, none⟩) h h]).ext ((Ext.refl _).alloc (Obj.cells #[.slice (some ⟨w.heap.size + 1 + 1, 0, none⟩) h h] 42))
    rw [World.size_alloc, World.size_alloc, World.size_alloc] at this
    exact this
  have bT : Blk (((((w.alloc (Obj.cells #[.int .i64 (C : Int), .slice A n c] 30)).alloc (Obj.cells #[.int .i64 (code : Int)] 2)).alloc (Obj.cells cs1 2)).alloc (Obj.cells #[.slice (some ⟨w.heap.size + 1 + 1, 0, none⟩) h h] 42)).alloc (Obj.cells #[.slice (some ⟨w.heap.size + 1 + 1, 0, none⟩) h h] 42)) (w.heap.size + 1 + 1 + 1 + 1) 42 #[.slice (some ⟨w.heap.size + 1 + 1, 0, none⟩) h h] := by
    have := Blk.new ((((w.alloc (Obj.cells #[.int .i64 (C : Int), .slice A n c] 30)).alloc (Obj.cells #[.int .i64 (code : Int)] 2)).alloc (Obj.cells cs1 2)).alloc (Obj.cells #[.slice (some ⟨w.heap.size + 1 + 1, 0, none⟩) h h] 42)) 42 #[.slice (some ⟨w.heap.size + 1 + 1, 0, none⟩) h h]
    rw [World.size_alloc, World.size_alloc, World.size_alloc, World.size_alloc] at this
    exact this
  have hbel : Below w.heap.size w (((((w.alloc (Obj.cells #[.int .i64 (C : Int), .slice A n c] 30)).alloc (Obj.cells #[.int .i64 (code : Int)] 2)).alloc (Obj.cells cs1 2)).alloc (Obj.cells #[.slice (some ⟨w.heap.size + 1 + 1, 0, none⟩) h h] 42)).alloc (Obj.cells #[.slice (some ⟨w.heap.size + 1 + 1, 0, none⟩) h h] 42)) := ((((((Ext.refl w).alloc _).alloc _).alloc _).alloc _).alloc _).below (Nat.le_refl _)
  generalize (((((w.alloc (Obj.cells #[.int .i64 (C : Int), .slice A n c] 30)).alloc (Obj.cells #[.int .i64 (code : Int)] 2)).alloc (Obj.cells cs1 2)).alloc (Obj.cells #[.slice (some ⟨w.heap.size + 1 + 1, 0, none⟩) h h] 42)).alloc (Obj.cells #[.slice (some ⟨w.heap.size + 1 + 1, 0, none⟩) h h] 42)) = W3 at *
  clear hmk1 HD0
  have hs3 := bT.lt
  refine rangeAllR h2 (gf := 145) (lb := #[.pointer (some ⟨w.heap.size + 1 + 1 + 1 + 1, 0, none⟩)]) rfl (enters_of Try.func145 (by kernel_rfl) rfl)
    (backward_in (mm - 1) (w.heap.size + 1 + 1 + 1 + 1) (w.heap.size + 1 + 1) h h W3 h3 (by omega) bT)
    (fun b hb => by subst hb; exact bT.lt) (fun _ => rfl)
    (fun k W => WordI w.heap.size C h code (.slice A n c) W3 k W) (wordI_own _ _ _ _ _ _ _ (by omega))
    (fun k W hI i hi => ⟨_, (hI.2.2.2.1.at_ hi).1⟩)
    (fun k x a' W => a' = { tmps := #[.agg #[.int .i64 (C : Int), .slice A n c], .int .i64 (h : Int), .int .i64 (code : Int), .pointer (some ⟨w.heap.size, 0, none⟩), undef, .pointer (some ⟨w.heap.size + 1, 0, none⟩), .slice none 0 0, .pointer (some ⟨w.heap.size + 1 + 1 + 1, 0, none⟩), .int .i64 (x.1 : Int), .int .i64 (h : Int), .slice (some ⟨w.heap.size + 1 + 1, 0, none⟩) h h, .slice (some ⟨w.heap.size + 1 + 1, 0, none⟩) h h, .func (.func 145) #[] #[.pointer (some ⟨w.heap.size + 1 + 1 + 1 + 1, 0, none⟩)], .int .i64 (x.1 : Int), .int .i64 x.2, undef, undef, undef, undef, undef, undef, undef, undef, undef, undef, undef, undef], defers := [] } ∧ WordI w.heap.size C h code (.slice A n c) W3 k W ∧ x.1 + k + 1 = h)
    (fun k x a' s W W' row hM hg hr => ⟨hM.1, wordI_own _ _ _ _ _ _ _ (by omega) k W W' row hM.2.1 hg hr, hM.2.2⟩)
    ⟨bS, bN, bB, bD, (Below.refl _ _)⟩ ?assign ?body ?done
  case assign =>
    intro l k x W K hk hi hx hK
    gi_wp2
    exact hK _ _ ⟨rfl, hi, hx⟩ (KeepsFrom.refl _ _) (fun _ _ => rfl)
  case body =>
    rintro l k ⟨i, v⟩ a' W hk ⟨rfl, ⟨hS, hN, hB, hD, hbl⟩, hik⟩
    simp only at hik
    have hi : i < h := by omega
    have HQ1 := Lib.hid (show code / C ^ (k + 1) = code / C ^ k / C by rw [Nat.pow_succ, Nat.div_div_eq_div_mul])
    have hq0 : code / C ^ k ≤ 1000000 := Nat.le_trans (Nat.div_le_self _ _) hc
    have HDG := Lib.hid (show code / C ^ k % C = digW C h code i by unfold digW; rw [show h - 1 - i = k by omega])
    generalize code / C ^ k = q at *
    have s0 := hS.rd 0 (v := .int .i64 (C : Int)) rfl
    have n0 := hN.rd 0 (v := .int .i64 (q : Int)) rfl
    have nz := hN.frozen 0
    have b0 := hB.rd 0 (v := .slice (some ⟨w.heap.size + 1 + 1, 0, none⟩) h h) rfl
    obtain ⟨d0, dz⟩ := hD.at_ hi
    have hr : Int.tmod (q : Int) (C : Int) = ((q % C : Nat) : Int) := by rw [Int.tmod_eq_emod_of_nonneg (by omega)]; push_cast; rfl
    have hd : Int.tdiv (q : Int) (C : Int) = ((q / C : Nat) : Int) := by rw [Int.tdiv_eq_ediv_of_nonneg (by omega)]; push_cast; rfl
    have hlt := Nat.mod_lt q hC
    have hle := Nat.div_le_self q C
    have hC4 : ¬ (C : Int) = 0 := by omega
    have hC5 : ((C : Int) == 0) = false := by rw [beq_eq_false_iff_ne]; omega
    obtain ⟨r, hrr⟩ : ∃ r, r = q % C := ⟨_, rfl⟩
    obtain ⟨d, hdd⟩ : ∃ d, d = q / C := ⟨_, rfl⟩
    rw [← hrr] at hr hlt HDG
    rw [← hdd] at hd hle HQ1
    have hwr : IntKind.i64.wrap (r : Int) = (r : Int) := IntWalk.i64_in _ (by omega)
    have hwd : IntKind.i64.wrap (d : Int) = (d : Int) := IntWalk.i64_in _ (by omega)
    have hii : (i : Int) < (h : Int) := by omega
    have hi0 : (0 : Int) ≤ (i : Int) := by omega
    have HS := Lib.hid hS
    have HN := Lib.hid hN
    have HB := Lib.hid hB
    have HD := Lib.hid hD
    have HBL := Lib.hid hbl
    clear hrr hdd hS hN hB hD hbl
    gi_wp2
    gi_region_o
    all_goals
      gi_wp2
      exact word_step w.heap.size C h code _ W3 W k i q r d l _ hs3 hi hik HS.out HN.out HB.out HD.out HBL.out HQ1.out HDG.out
  case done =>
    rintro D W hD ⟨hS, hN, hB, hdi, hbl⟩ hK
    have b0 := hB.rd 0 (v := .slice (some ⟨w.heap.size + 1 + 1, 0, none⟩) h h) rfl
    have HDD := Lib.hid (hdi.congr (d' := fun x => (digW C h code x : Int)) fun x hx => by unfold partW; rw [if_pos (by omega)])
    have HBL := Lib.hid hbl
    clear hS hN hB hdi hbl
    gi_wp2
    refine ⟨by simp, .inl ⟨_, _, rfl, run_takeDeferred hK, ?_⟩⟩
    have hb4 : Below w.heap.size W (W.putObj D (.deferred none)) := ⟨rfl, rfl, rfl, by simp, fun k hk => World.putObj_heap_other (by omega)⟩
    exact ⟨_, results_tmp rfl _ _ _, rfl, hbel.trans (HBL.out.trans hb4), di_kept' HDD.out (grownBy_putObj' W D _) (fun r e => by cases e; exact ⟨_, hK, rfl⟩)⟩
set_option maxRecDepth 100000 in
theorem wordWithNumber_any (C h code : Nat) (A : Option Addr) (n c : Nat) (w : World) (hC : 0 < C) (hC2 : C ≤ 1000) (hc : code ≤ 1000000) (hh1 : 1 ≤ h) (hh : h ≤ 1000) :
    Calls Try.prog 59 #[.agg #[.int .i64 (C : Int), .slice A n c], .int .i64 (h : Int), .int .i64 (code : Int)] w fun e w' => e = .returned (.slice (some ⟨w.heap.size + 1 + 1, 0, none⟩) h h) ∧ Below w.heap.size w w' ∧ DI w' (w.heap.size + 1 + 1) h (fun x => (digW C h code x : Int)) :=
  (callsIn_wide (n := 8)).1 (wordWithNumber_in 8 (by omega) C h code A n c w hC hC2 hc hh1 hh)
end Go.Proofs.Ytleabblnikbmpaa
