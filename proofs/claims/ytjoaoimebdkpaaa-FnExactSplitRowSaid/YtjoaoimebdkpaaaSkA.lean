/- The model's search in an ascending list, and its tile of a stacked pair. -/
import Derived.Test.YtjoaoimebdkpaaaStA
import Derived.Test.YtjoaoimebdkpaaaCut2
import Derived.Test.YtjoaoimebdkpaaaSBridge
import Derived.Deep.RegionHeld3
import Derived.Deep.RegionLaw
import Derived.Lib.Hide
import Derived.Test.YtjoaoimebdkpaaaSpB
import Derived.Test.YtjoaoimebdkpaaaNum
import Derived.Test.YtjoaoimebdkpaaaMChanged
import Derived.Test.YtjoaoimebdkpaaaAppT
namespace Go.Proofs.Ytjoaoimebdkpaaa
section
set_option linter.unusedVariables false
set_option linter.unusedSimpArgs false
open Go.RowKit Go.Sort

theorem asc_le {xs : List Int} (h : AscI xs) {i j : Nat} (hij : i ≤ j) (hj : j < xs.length) : xs.getD i 0 ≤ xs.getD j 0 := by
  rcases Nat.eq_or_lt_of_le hij with rfl | hlt
  · exact Int.le_refl _
  · exact Int.le_of_lt (asc_lt h hlt hj)
theorem find_end {xs : List Int} (h : AscI xs) {y : Int} (hy : y ∈ xs) {p : Nat} (hp : p ≤ xs.length) (hlo : ∀ j, j < p → xs.getD j 0 < y) (hhi : ∀ j, p ≤ j → j < xs.length → y ≤ xs.getD j 0) : p < xs.length ∧ xs.getD p 0 = y ∧ rk xs y = p := by
  obtain ⟨i, hi, e⟩ := mem_getD hy
  have h1 : p ≤ i := by
    rcases Nat.lt_or_ge i p with hlt | hge
    · have := hlo i hlt; omega
    · exact hge
  have h2 := asc_le h h1 hi
  have h3 := hhi p (Nat.le_refl _) (by omega)
  exact ⟨by omega, by omega, rk_at hp hlo hhi⟩
set_option maxHeartbeats 1000000 in
theorem l04Find_any (A : Option Addr) (n c : Nat) (xs : List Int) (y : Int) (w : World) (hn : n ≤ 1048576) (hl : xs.length = n) (hA : IR w w.heap.size A xs) (ha : AscI xs) (hy : y ∈ xs) :
    Calls Try.prog 133 #[.slice A n c, .int .i64 y] w fun e w' => e = .returned (.int .i64 (rk xs y : Nat)) ∧ w' = w := by
  have hpos : 0 < xs.length := List.length_pos_of_mem hy
  obtain ⟨b, o, rfl, -, hc⟩ := hA hpos
  have HC := Lib.hid hc
  have HASC := Lib.hid ha
  have HY := Lib.hid hy
  have HLN := Lib.hid hl
  obtain ⟨r, hr⟩ : ∃ r, r = rk xs y := ⟨_, rfl⟩
  rw [← hr]
  have HR := Lib.hid hr
  clear hc ha hy hl hr hA
  go_enter Try.func133, Try.ntmps133
  go_wp2_with fail
  go_loop [5, 6] (fun s t => ∃ lo hi : Nat, lo ≤ hi ∧ hi ≤ n ∧ s = .int .i64 lo ∧ t = .int .i64 hi ∧ (∀ j, j < lo → xs.getD j 0 < y) ∧ (∀ j, hi ≤ j → j < xs.length → y ≤ xs.getD j 0)) (fun s t => (intOf t).toNat - (intOf s).toNat)
  case atStart => exact ⟨0, n, Nat.zero_le _, Nat.le_refl _, rfl, rfl, fun j hj => absurd hj (Nat.not_lt_zero _), fun j h1 h2 => absurd h2 (by have := HLN.out; omega)⟩
  case round =>
    obtain ⟨lo, hi, hlh, hin, rfl, rfl, hlo, hhi⟩ := hrel
    have HLO := Lib.hid hlo
    have HHI := Lib.hid hhi
    clear hlo hhi
    by_cases hlt : lo < hi
    · have hmid : (lo : Int) + (hi : Int) = ((lo + hi : Nat) : Int) := by omega
      have hq : ((lo : Int) + (hi : Int)) / 2 = (((lo + hi) / 2 : Nat) : Int) := by omega
      have hcell := HC.out ((lo + hi) / 2) (by have := HLN.out; omega)
      have hm1 : lo ≤ (lo + hi) / 2 := by omega
      have hm2 : (lo + hi) / 2 < hi := by omega
      obtain ⟨md, hmd⟩ : ∃ md, md = (lo + hi) / 2 := ⟨_, rfl⟩
      rw [← hmd] at hq hcell hm1 hm2
      clear hmd hmid
      have hmn : (md : Int) < (n : Int) := by omega
      obtain ⟨x, hX⟩ : ∃ x, x = xs.getD md 0 := ⟨_, rfl⟩
      rw [← hX] at hcell
      have EX := Lib.hid hX
      clear hX
      by_cases hxy : x < y
      · have HN := Lib.hid (show ∀ j, j < md + 1 → xs.getD j 0 < y from fun j hj => by have h1 := asc_le HASC.out (show j ≤ md by omega) (by have := HLN.out; omega); rw [← EX.out] at h1; omega)
        go_wp2_with fail
        go_round
        case rel => exact ⟨md + 1, hi, by omega, by omega, by go_num, rfl, HN.out, HHI.out⟩
        case measure => simp [intOf]; omega
      · have HN := Lib.hid (show ∀ j, md ≤ j → j < xs.length → y ≤ xs.getD j 0 from fun j h1 h2 => by have h3 := asc_le HASC.out h1 h2; rw [← EX.out] at h3; omega)
        go_wp2_with fail
        go_round
        case rel => exact ⟨lo, md, by omega, by omega, rfl, congrArg (Value.int .i64) hq, HLO.out, HN.out⟩
        case measure => simp [intOf]; omega
    · obtain rfl : hi = lo := by omega
      obtain ⟨h1, h2, h3⟩ := find_end HASC.out HY.out (p := hi) (by have := HLN.out; omega) HLO.out HHI.out
      have hcell := HC.out hi h1
      rw [h2] at hcell
      have h1' : (hi : Int) < (n : Int) := by have := HLN.out; omega
      have h1n : hi < n := by omega
      have hyy : (y == y) = true := by simp
      have H3 := Lib.hid (show hi = r by rw [HR.out, h3])
      clear h2 h3 h1
      go_wp2_with fail
      go_ret
      exact ⟨ret_i (by rw [H3.out]), rfl⟩

theorem Blk.far4 {w : World} {g : Nat} {t : TypeId} {cs : Array Value} (h : Blk w g t cs) {k : Nat} (hne : g ≠ k) {a b c d : Value} : Blk ((((w.setCell ⟨k, 0, none⟩ a).setCell ⟨k, 1, none⟩ b).setCell ⟨k, 2, none⟩ c).setCell ⟨k, 3, none⟩ d) g t cs := (((h.far hne a).far hne b).far hne c).far hne d
set_option maxRecDepth 100000 in
set_option maxHeartbeats 2000000 in
theorem l04Tile_any (a b : Tl) (A : Option Addr) (n c : Nat) (ps : List Int) (w : World) (hn : n ≤ 1048576) (hl : ps.length = n) (hA : IR w w.heap.size A ps) (hps : AscI ps) (hw : cw (a, b) ∈ ps) (he : ce (a, b) ∈ ps) (ha : tileOk 6 a = true) (hb : tileOk 6 b = true) :
    Calls Try.prog 89 #[tv a, tv b, .slice A n c] w fun e w' => e = .returned (tv (stT ps (a, b))) ∧ Below w.heap.size w w' := by
  have hf1 := fun W (hW : Ext w W) => l04Find_any A n c ps (cw (a, b)) W hn hl ((hA.ext hW (Nat.le_refl _)).more (hW.below (Nat.le_refl _)).size) hps hw
  have hf2 := fun W (hW : Ext w W) => l04Find_any A n c ps (ce (a, b)) W hn hl ((hA.ext hW (Nat.le_refl _)).more (hW.below (Nat.le_refl _)).size) hps he
  unfold stT
  generalize hr1 : rk ps (cw (a, b)) = r1 at hf1 ⊢
  generalize hr2 : rk ps (ce (a, b)) = r2 at hf2 ⊢
  obtain ⟨a0, a1, a2, a3⟩ := a
  obtain ⟨b0, b1, b2, b3⟩ := b
  simp only [tileOk, decide_eq_true_eq] at ha hb
  simp only [cw, ce] at hf1 hf2
  have HF1 := Lib.hid hf1
  have HF2 := Lib.hid hf2
  clear hf1 hf2 hr1 hr2 hw he hps hA hl
  simp only [tv]
  go_enter Try.func89, Try.ntmps89
  go_wp2_with fail
  have hx0 : Ext w (((w.alloc (Obj.cells #[.int .i64 a0, .int .i64 a1, .int .i64 a2, .int .i64 a3] 48)).alloc (Obj.cells #[.int .i64 b0, .int .i64 b1, .int .i64 b2, .int .i64 b3] 48)).alloc (Obj.cells #[.int .i64 0, .int .i64 0, .int .i64 0, .int .i64 0] 48)) := (((Ext.refl w).alloc _).alloc _).alloc _
  have hb0 : Blk (((w.alloc (Obj.cells #[.int .i64 a0, .int .i64 a1, .int .i64 a2, .int .i64 a3] 48)).alloc (Obj.cells #[.int .i64 b0, .int .i64 b1, .int .i64 b2, .int .i64 b3] 48)).alloc (Obj.cells #[.int .i64 0, .int .i64 0, .int .i64 0, .int .i64 0] 48)) w.heap.size 48 #[.int .i64 a0, .int .i64 a1, .int .i64 a2, .int .i64 a3] := (Blk.new w _ _).ext (((Ext.refl _).alloc _).alloc _)
  have hb1 : Blk (((w.alloc (Obj.cells #[.int .i64 a0, .int .i64 a1, .int .i64 a2, .int .i64 a3] 48)).alloc (Obj.cells #[.int .i64 b0, .int .i64 b1, .int .i64 b2, .int .i64 b3] 48)).alloc (Obj.cells #[.int .i64 0, .int .i64 0, .int .i64 0, .int .i64 0] 48)) (w.heap.size + 1) 48 #[.int .i64 b0, .int .i64 b1, .int .i64 b2, .int .i64 b3] := by have := (Blk.new (w.alloc (Obj.cells #[.int .i64 a0, .int .i64 a1, .int .i64 a2, .int .i64 a3] 48)) 48 #[.int .i64 b0, .int .i64 b1, .int .i64 b2, .int .i64 b3]).ext ((Ext.refl _).alloc (Obj.cells #[.int .i64 0, .int .i64 0, .int .i64 0, .int .i64 0] 48)); simpa using this
  have hb2 : Blk (((w.alloc (Obj.cells #[.int .i64 a0, .int .i64 a1, .int .i64 a2, .int .i64 a3] 48)).alloc (Obj.cells #[.int .i64 b0, .int .i64 b1, .int .i64 b2, .int .i64 b3] 48)).alloc (Obj.cells #[.int .i64 0, .int .i64 0, .int .i64 0, .int .i64 0] 48)) (w.heap.size + 1 + 1) 48 #[.int .i64 0, .int .i64 0, .int .i64 0, .int .i64 0] := by have := (Blk.new ((w.alloc (Obj.cells #[.int .i64 a0, .int .i64 a1, .int .i64 a2, .int .i64 a3] 48)).alloc (Obj.cells #[.int .i64 b0, .int .i64 b1, .int .i64 b2, .int .i64 b3] 48)) 48 #[.int .i64 0, .int .i64 0, .int .i64 0, .int .i64 0]); simpa using this
  have HX0 := Lib.hid hx0
  have HB2 := Lib.hid hb2
  have p0 := hb0.rd 0 (v := .int .i64 a0) rfl
  have p1 := hb0.rd 1 (v := .int .i64 a1) rfl
  have p2 := hb0.rd 2 (v := .int .i64 a2) rfl
  have s0 := hb1.rd 0 (v := .int .i64 b0) rfl
  have s2 := hb1.rd 2 (v := .int .i64 b2) rfl
  have s3 := hb1.rd 3 (v := .int .i64 b3) rfl
  have q0 := hb2.rd 0 (v := .int .i64 0) rfl
  have z0 := hb2.frozen 0
  have q1 := hb2.rd 1 (v := .int .i64 0) rfl
  have z1 := hb2.frozen 1
  have q2 := hb2.rd 2 (v := .int .i64 0) rfl
  have z2 := hb2.frozen 2
  have q3 := hb2.rd 3 (v := .int .i64 0) rfl
  have z3 := hb2.frozen 3
  have HB0 := Lib.hid hb0
  have HB1 := Lib.hid hb1
  clear hx0 hb0 hb1 hb2
  generalize (((w.alloc (Obj.cells #[.int .i64 a0, .int .i64 a1, .int .i64 a2, .int .i64 a3] 48)).alloc (Obj.cells #[.int .i64 b0, .int .i64 b1, .int .i64 b2, .int .i64 b3] 48)).alloc (Obj.cells #[.int .i64 0, .int .i64 0, .int .i64 0, .int .i64 0] 48)) = w0 at *
  have wr1 : IntKind.i64.wrap (16 * a0) = 16 * a0 := IntWalk.i64_in _ (by omega)
  have wr2 : IntKind.i64.wrap (16 * a0 + b0) = 16 * a0 + b0 := IntWalk.i64_in _ (by omega)
  have wr3 : IntKind.i64.wrap (16 * a2) = 16 * a2 := IntWalk.i64_in _ (by omega)
  have wr4 : IntKind.i64.wrap (16 * a2 + b2) = 16 * a2 + b2 := IntWalk.i64_in _ (by omega)
  go_wp2_with fail
  have hne0 : w.heap.size ≠ w.heap.size + 1 + 1 := by omega
  have hne1 : w.heap.size + 1 ≠ w.heap.size + 1 + 1 := by omega
  go_region_held3 (fun w' => w'.cell? ⟨w.heap.size, 0, none⟩ = some (.int .i64 a0) ∧ w'.cell? ⟨w.heap.size, 1, none⟩ = some (.int .i64 a1) ∧ w'.cell? ⟨w.heap.size, 2, none⟩ = some (.int .i64 a2) ∧ w'.cell? ⟨w.heap.size + 1, 0, none⟩ = some (.int .i64 b0) ∧ w'.cell? ⟨w.heap.size + 1, 2, none⟩ = some (.int .i64 b2) ∧ w'.cell? ⟨w.heap.size + 1, 3, none⟩ = some (.int .i64 b3))
    (first | exact ⟨p0, p1, p2, s0, s2, s3⟩ | exact ⟨((HB0.out.far4 hne0).ext ((Ext.refl _).drew)).rd 0 rfl, ((HB0.out.far4 hne0).ext ((Ext.refl _).drew)).rd 1 rfl, ((HB0.out.far4 hne0).ext ((Ext.refl _).drew)).rd 2 rfl, ((HB1.out.far4 hne1).ext ((Ext.refl _).drew)).rd 0 rfl, ((HB1.out.far4 hne1).ext ((Ext.refl _).drew)).rd 2 rfl, ((HB1.out.far4 hne1).ext ((Ext.refl _).drew)).rd 3 rfl⟩ | exact ⟨((HB0.out.far4 hne0)).rd 0 rfl, ((HB0.out.far4 hne0)).rd 1 rfl, ((HB0.out.far4 hne0)).rd 2 rfl, ((HB1.out.far4 hne1)).rd 0 rfl, ((HB1.out.far4 hne1)).rd 2 rfl, ((HB1.out.far4 hne1)).rd 3 rfl⟩ | go_keep)
    (first
    | (go_at_call 133; with_reducible refine (HF1.out _ (HX0.out.trans (Ext.refl _).drew)).mono ?_; rintro e w9 ⟨rfl, rfl⟩)
    | (go_at_call 133; with_reducible refine (HF2.out _ (HX0.out.trans (Ext.refl _).drew)).mono ?_; rintro e w9 ⟨rfl, rfl⟩))
  all_goals
    go_wp2_with fail
    refine bodyPost_ret (v := .agg #[.int .i64 (r1 : Int), .int .i64 a1, .int .i64 (r2 : Int), .int .i64 b3]) (by simp [results, Try.results89, go_sem, q0, q1, q2, q3, z0, z1, z2, z3]) rfl ⟨rfl, ?_⟩
    exact (((((HX0.out.below (Nat.le_refl _)).setCell (show w.heap.size ≤ w.heap.size + 1 + 1 by omega) _).setCell (show w.heap.size ≤ w.heap.size + 1 + 1 by omega) _).setCell (show w.heap.size ≤ w.heap.size + 1 + 1 by omega) _).setCell (show w.heap.size ≤ w.heap.size + 1 + 1 by omega) _).drew
end

section
set_option linter.unusedVariables false
set_option linter.unusedSimpArgs false
open Go.RowKit Go.Sort

theorem own_emptyT {X : World} {B g : Nat} (h : Blk X g 48 #[]) (hB : B ≤ g) : X.ownsRow B 48 4 (.slice (some ⟨g, 0, none⟩) 0 0) 0 [] :=
  ⟨rfl, .inr ⟨g, 0, #[], rfl, hB, h, Nat.le_refl _, by unfold maxLen; omega, rfl, rfl⟩⟩
theorem tok6 {c : Int} {t : Tl} (h : tileOk c t = true) (hc : c ≤ 6) : tileOk 6 t = true := by
  simp only [tileOk, decide_eq_true_eq] at *
  omega
/-- What the model's stack hands back. -/
def MadeRes (c0 c1 : Int) (ts us : List Tl) (w : World) : Ending → World → Prop := if stkC c0 c1 ts us ≤ 6 ∧ (stkT ts us).length ≤ 16 then SetRes w (stkC c0 c1 ts us) (stkT ts us) 0 else SetRes w 0 [] 3
set_option maxRecDepth 100000 in
set_option maxHeartbeats 8000000 in
theorem l04Made_any (c0 : Int) (A0 : Option Addr) (n0 q0 : Nat) (ts : List Tl) (c1 : Int) (A1 : Option Addr) (n1 q1 : Nat) (us : List Tl) (w : World) (hl0 : ts.length = n0) (hA0 : TR w w.heap.size A0 ts) (hl1 : us.length = n1) (hA1 : TR w w.heap.size A1 us) (hs0 : isSet c0 ts = true) (hs1 : isSet c1 us = true) :
    Calls Try.prog 131 #[.agg #[.int .i64 c0, .slice A0 n0 q0], .agg #[.int .i64 c1, .slice A1 n1 q1]] w (MadeRes c0 c1 ts us w) := by
  have hn0 := isSet_len hs0
  have hn1 := isSet_len hs1
  rw [hl0] at hn0
  rw [hl1] at hn1
  have hcc0 := isSet_col hs0
  have hcc1 := isSet_col hs1
  have HOKA := Lib.hid (fun k (hk : k < n0) => tok6 (ok_of_isSet hs0 (ts.getD k T0) (by simp [List.getD, show k < ts.length by omega])) hcc0.2)
  have HOKB := Lib.hid (fun k (hk : k < n1) => tok6 (ok_of_isSet hs1 (us.getD k T0) (by simp [List.getD, show k < us.length by omega])) hcc1.2)
  have HA0 := Lib.hid hA0
  have HA1 := Lib.hid hA1
  have hmul : n0 * n1 ≤ 16 * 16 := Nat.mul_le_mul hn0 hn1
  have hpr := fun W (hW : Below w.heap.size w W) => l04Pairs_any c0 A0 n0 q0 ts c1 A1 n1 q1 us W hl0 ((hA0.below hW (Nat.le_refl _)).more hW.size) hl1 ((hA1.below hW (Nat.le_refl _)).more hW.size) hs0 hs1
  have HPR := Lib.hid hpr
  have hpl := prs_len (ts := ts) (us := us)
  have hmul2 : ts.length * us.length ≤ 16 * 16 := by rw [hl0, hl1]; exact hmul
  have hpm : (prs ts us).length ≤ 512 := by omega
  have HASC := Lib.hid (show AscI (prs ts us) from sortI_asc _)
  have HMEM := Lib.hid (fun (p : Tl × Tl) (hp : p ∈ stk ts us) => And.intro (show cw p ∈ prs ts us from sortI_mem.2 (cw_mem hp)) (show ce p ∈ prs ts us from sortI_mem.2 (ce_mem hp)))
  have HST := Lib.hid (show stkT ts us = sortT ((stk ts us).map (stT (prs ts us))) from rfl)
  have HSC := Lib.hid (show stkC c0 c1 ts us = max (max ((prs ts us).length : Int) c0) c1 from rfl)
  clear hA0 hA1 hs0 hs1 hpr hpl hmul2
  go_enter Try.func131, Try.ntmps131
  go_wp2_with fail
  have hx0 : Ext w (((w.alloc (Obj.cells #[.int .i64 c0, .slice A0 n0 q0] 32)).alloc (Obj.cells #[.int .i64 c1, .slice A1 n1 q1] 32)).alloc (Obj.cells #[.int .i64 0, .slice none 0 0] 32)) := (((Ext.refl w).alloc _).alloc _).alloc _
  have hb0 : Blk (((w.alloc (Obj.cells #[.int .i64 c0, .slice A0 n0 q0] 32)).alloc (Obj.cells #[.int .i64 c1, .slice A1 n1 q1] 32)).alloc (Obj.cells #[.int .i64 0, .slice none 0 0] 32)) w.heap.size 32 #[.int .i64 c0, .slice A0 n0 q0] := (Blk.new w 32 #[.int .i64 c0, .slice A0 n0 q0]).ext (((Ext.refl _).alloc _).alloc _)
  have hb1 : Blk (((w.alloc (Obj.cells #[.int .i64 c0, .slice A0 n0 q0] 32)).alloc (Obj.cells #[.int .i64 c1, .slice A1 n1 q1] 32)).alloc (Obj.cells #[.int .i64 0, .slice none 0 0] 32)) (w.heap.size + 1) 32 #[.int .i64 c1, .slice A1 n1 q1] := by have := (Blk.new (w.alloc (Obj.cells #[.int .i64 c0, .slice A0 n0 q0] 32)) 32 #[.int .i64 c1, .slice A1 n1 q1]).ext ((Ext.refl _).alloc (Obj.cells #[.int .i64 0, .slice none 0 0] 32)); simpa using this
  have hb2 : Blk (((w.alloc (Obj.cells #[.int .i64 c0, .slice A0 n0 q0] 32)).alloc (Obj.cells #[.int .i64 c1, .slice A1 n1 q1] 32)).alloc (Obj.cells #[.int .i64 0, .slice none 0 0] 32)) (w.heap.size + 2) 32 #[.int .i64 0, .slice none 0 0] := by have := (Blk.new ((w.alloc (Obj.cells #[.int .i64 c0, .slice A0 n0 q0] 32)).alloc (Obj.cells #[.int .i64 c1, .slice A1 n1 q1] 32)) 32 #[.int .i64 0, .slice none 0 0]); simpa using this
  have HK := Lib.hid (hx0.below (Nat.le_refl _))
  have hL : w.heap.size + 3 ≤ (((w.alloc (Obj.cells #[.int .i64 c0, .slice A0 n0 q0] 32)).alloc (Obj.cells #[.int .i64 c1, .slice A1 n1 q1] 32)).alloc (Obj.cells #[.int .i64 0, .slice none 0 0] 32)).heap.size := by simp
  have r0 := hb0.rd 0 rfl
  have r1 := hb0.rd 1 rfl
  have s0 := hb1.rd 0 rfl
  have s1 := hb1.rd 1 rfl
  have HB0 := Lib.hid hb0
  have HB1 := Lib.hid hb1
  have HB2 := Lib.hid hb2
  clear hx0 hb0 hb1 hb2
  generalize (((w.alloc (Obj.cells #[.int .i64 c0, .slice A0 n0 q0] 32)).alloc (Obj.cells #[.int .i64 c1, .slice A1 n1 q1] 32)).alloc (Obj.cells #[.int .i64 0, .slice none 0 0] 32)) = w1 at *
  refine (HPR.out _ HK.out).mono ?_
  rintro e w5 ⟨A5, cap5, rfl, hc5, hir5, hb5⟩
  obtain ⟨pp, hpp⟩ : ∃ pp, pp = prs ts us := ⟨_, rfl⟩
  rw [← hpp] at hc5 hir5 hpm HASC HMEM HST HSC ⊢
  have hk5 := HK.out.trans (hb5.mono HK.out.size)
  have HK5 := Lib.hid hk5
  have HIR := Lib.hid hir5
  have hs5 : w.heap.size + 3 ≤ w5.heap.size := by have := hb5.size; omega
  have HB0 := Lib.hid (HB0.out.below hb5 (by omega))
  have HB1 := Lib.hid (HB1.out.below hb5 (by omega))
  have HB2 := Lib.hid (HB2.out.below hb5 (by omega))
  obtain ⟨m, hm⟩ : ∃ m, m = pp.length := ⟨_, rfl⟩
  rw [← hm] at hc5 hpm ⊢
  have HM := Lib.hid hm
  have HPP := Lib.hid hpp
  have HO0 := Lib.hid (own_emptyT (X := w5.alloc (Obj.cells #[] 48)) (B := w5.heap.size) (g := w5.heap.size) (Blk.new w5 48 #[]) (Nat.le_refl _))
  have HX5 := Lib.hid (show Below w5.heap.size w5 (w5.alloc (Obj.cells #[] 48)) from ((Ext.refl w5).alloc _).below (Nat.le_refl _))
  clear hir5 hb5 hk5 hm hpp r0 r1 s0 s1
  go_wp2_with fail
  obtain ⟨w2, hw2⟩ : ∃ w2, w2 = w5 := ⟨_, rfl⟩
  subst hw2
  go_loopw [7, 8] (fun v ii wr => ∃ i : Nat, i ≤ n0 ∧ ii = .int .i64 i ∧ wr.ownsRow w2.heap.size 48 4 v (stk (ts.take i) us).length (flat ((stk (ts.take i) us).map (stT pp))) ∧ Below w2.heap.size w2 wr) (fun _ ii _ => n0 - (intOf ii).toNat)
  case atStart => exact ⟨0, Nat.zero_le _, rfl, by simpa [stk, flat] using HO0.out, HX5.out⟩
  case round =>
    clear HO0 HX5
    obtain ⟨i, hi, rfl, hown, hb⟩ := hrel
    have HO := Lib.hid hown
    have HBW := Lib.hid hb
    have hszw := hb.size
    have hbw := HK5.out.trans (hb.mono (by omega))
    have HBWW := Lib.hid hbw
    have ra := (HB0.out.below hb (by omega)).rd 1 rfl
    have rb := (HB1.out.below hb (by omega)).rd 1 rfl
    clear hown hb hbw
    by_cases hlt : i < n0
    · obtain ⟨b0, o, hA, hbb, ht⟩ := HA0.out (by omega)
      subst hA
      have hsu := stkO_succ (ss := ts) (ts := us) (i := i) (by omega)
      have hok := HOKA.out i hlt
      have hmem0 : ts.getD i T0 ∈ ts := by simp [List.getD, show i < ts.length by omega]
      replace ht := ht i (by omega)
      have hpl := stk_len (ts.take i) us
      rw [List.length_take, hl1, Nat.min_eq_left (by omega)] at hpl
      have hpb : i * n1 ≤ 16 * 16 := Nat.mul_le_mul (by omega) (by omega)
      have HMS := Lib.hid (fun (k : Nat) (hk : k < us.length) (he : (ts.getD i T0).2.2.2 = (us.getD k T0).2.1) => show (ts.getD i T0, us.getD k T0) ∈ stk ts us from by
        simp only [stk, List.mem_flatMap, List.mem_map, List.mem_filter]
        exact ⟨_, hmem0, _, ⟨by simp [List.getD, hk], by simpa using he⟩, rfl⟩)
      generalize ts.getD i T0 = a at *
      have HSU := Lib.hid hsu
      obtain ⟨x0, x1, x2, x3⟩ := a
      have HT := Lib.hid ht
      have HOA := Lib.hid hok
      have b3 : (i : Int) < (n0 : Int) := by omega
      generalize hP : stk (ts.take i) us = ps at *
      have hpl2 : ps.length ≤ 256 := by omega
      clear hP hpl hsu ht hok hmem0
      go_wp2_with fail
      clear ra rb
      obtain ⟨WR, hWR⟩ : ∃ WR, WR = wr := ⟨_, rfl⟩
      subst hWR
      go_loopw [7, 9] (fun v kk wr => ∃ k : Nat, k ≤ n1 ∧ kk = .int .i64 k ∧ wr.ownsRow w2.heap.size 48 4 v (ps ++ stkI us (x0, x1, x2, x3) k).length (flat ((ps ++ stkI us (x0, x1, x2, x3) k).map (stT pp))) ∧ Below w2.heap.size w2 wr) (fun _ kk _ => n1 - (intOf kk).toNat)
      case atStart => exact ⟨0, Nat.zero_le _, rfl, by simpa [stkI] using HO.out, HBW.out⟩
      case round =>
        obtain ⟨k, hk, rfl, hown, hb⟩ := hrel
        have HO2 := Lib.hid hown
        have HB9 := Lib.hid hb
        have hszb := hb.size
        have hbw := HK5.out.trans (hb.mono (by omega))
        have HBW2 := Lib.hid hbw
        have ra := (HB0.out.below hb (by omega)).rd 1 rfl
        have rb := (HB1.out.below hb (by omega)).rd 1 rfl
        have hob := hown.lt
        clear hown hb
        by_cases hltk : k < n1
        · obtain ⟨b1, o1, hA, hbb1, ht1⟩ := HA1.out (by omega)
          subst hA
          replace ht1 := ht1 k (by omega)
          have hyes := fun h => stkI_yes (ts := us) (a := (x0, x1, x2, x3)) (k := k) (by omega) h
          have hno := fun h => stkI_no (ts := us) (a := (x0, x1, x2, x3)) (k := k) (by omega) h
          have hil := stkI_len us (x0, x1, x2, x3) k
          have hok2 := HOKB.out k hltk
          have hms := fun h => HMS.out k (by omega) h
          generalize us.getD k T0 = b at *
          obtain ⟨y0, y1, y2, y3⟩ := b
          simp only at hyes hno hms
          obtain ⟨e0, e1, e2, e3⟩ := HT.out
          obtain ⟨f0, f1, f2, f3⟩ := ht1
          have a0 := (hbw.cell (p := ⟨b0, o + i * 4, none⟩) hbb).trans e0
          have a1 := (hbw.cell (p := ⟨b0, o + i * 4 + 1, none⟩) hbb).trans e1
          have a2 := (hbw.cell (p := ⟨b0, o + i * 4 + 2, none⟩) hbb).trans e2
          have a3 := (hbw.cell (p := ⟨b0, o + i * 4 + 3, none⟩) hbb).trans e3
          have c0 := (hbw.cell (p := ⟨b1, o1 + k * 4, none⟩) hbb1).trans f0
          have c1 := (hbw.cell (p := ⟨b1, o1 + k * 4 + 1, none⟩) hbb1).trans f1
          have c2 := (hbw.cell (p := ⟨b1, o1 + k * 4 + 2, none⟩) hbb1).trans f2
          have c3 := (hbw.cell (p := ⟨b1, o1 + k * 4 + 3, none⟩) hbb1).trans f3
          simp only at a0 a1 a2 a3 c0 c1 c2 c3
          have HY := Lib.hid hyes
          have HN := Lib.hid hno
          have HMP := Lib.hid hms
          have HOB := Lib.hid hok2
          have b4 : (k : Int) < (n1 : Int) := by omega
          have nebra : some w.heap.size ≠ u7.ownBlock := fun e9 => by have := hob _ e9.symm; omega
          have nebrb : some (w.heap.size + 1) ≠ u7.ownBlock := fun e9 => by have := hob _ e9.symm; omega
          have nea : some b0 ≠ u7.ownBlock := fun e9 => by have := hob _ e9.symm; omega
          have nec : some b1 ≠ u7.ownBlock := fun e9 => by have := hob _ e9.symm; omega
          generalize hL : ps ++ stkI us (x0, x1, x2, x3) k = l at *
          have hll : l.length ≤ 272 := by rw [← hL, List.length_append]; omega
          have HL := Lib.hid hL
          clear hyes hno hms hil hL hbw e0 e1 e2 e3 f0 f1 f2 f3 hob hbb hbb1 hok2
          by_cases heq : x3 = y1
          · have HAPP := Lib.hid (show ps ++ stkI us (x0, x1, x2, x3) (k + 1) = l ++ [((x0, x1, x2, x3), (y0, y1, y2, y3))] by rw [HY.out heq, ← List.append_assoc, HL.out])
            have hqe : (x3 == y1) = true := by simpa using heq
            have hmm := HMEM.out _ (HMP.out heq)
            have htl := fun W (hW : Below w2.heap.size w2 W) => l04Tile_any (x0, x1, x2, x3) (y0, y1, y2, y3) A5 m cap5 pp W (by omega) HM.out.symm ((HIR.out.below hW (Nat.le_refl _)).more hW.size) HASC.out hmm.1 hmm.2 HOA.out HOB.out
            generalize hz : stT pp ((x0, x1, x2, x3), (y0, y1, y2, y3)) = z at htl
            obtain ⟨z0, z1, z2, z3⟩ := z
            simp only [tv] at htl
            have HTL := Lib.hid htl
            have HZ := Lib.hid hz
            have HEQ := Lib.hid heq
            clear heq hmm htl hz
            have gra := fun dn os => (cell?_grow (wr.drewN dn) os ⟨w.heap.size, 1, none⟩ (by have := World.block_lt_of_cell? wr _ ra; exact this)).trans ra
            have grb := fun dn os => (cell?_grow (wr.drewN dn) os ⟨w.heap.size + 1, 1, none⟩ (by have := World.block_lt_of_cell? wr _ rb; exact this)).trans rb
            have ga3 := fun dn os => (cell?_grow (wr.drewN dn) os ⟨b0, o + i * 4 + 3, none⟩ (by have := World.block_lt_of_cell? wr _ a3; exact this)).trans a3
            have gc1 := fun dn os => (cell?_grow (wr.drewN dn) os ⟨b1, o1 + k * 4 + 1, none⟩ (by have := World.block_lt_of_cell? wr _ c1; exact this)).trans c1
            go_wp2_with fail
            refine wp_region_quiet_grown mixed (by kernel_rfl) ?_
            repeat (go_big_quiet_step ((fail)))
            refine wpQuiet_nil ?_
            intro _ hw'
            obtain ⟨⟨nq, osq⟩, hw''⟩ := hw'
            subst hw''
            clear gra grb ga3 gc1
            have hx6 : Ext wr (grow (wr.drewN nq) osq) := ⟨nq, osq, rfl⟩
            replace ra := (hx6.below (Nat.le_refl _)).cell (p := ⟨w.heap.size, 1, none⟩) (by have := World.block_lt_of_cell? wr _ ra; exact this) |>.trans ra
            replace rb := (hx6.below (Nat.le_refl _)).cell (p := ⟨w.heap.size + 1, 1, none⟩) (by have := World.block_lt_of_cell? wr _ rb; exact this) |>.trans rb
            replace a0 := (hx6.below (Nat.le_refl _)).cell (p := ⟨b0, o + i * 4, none⟩) (by have := World.block_lt_of_cell? wr _ a0; exact this) |>.trans a0
            replace a1 := (hx6.below (Nat.le_refl _)).cell (p := ⟨b0, o + i * 4 + 1, none⟩) (by have := World.block_lt_of_cell? wr _ a1; exact this) |>.trans a1
            replace a2 := (hx6.below (Nat.le_refl _)).cell (p := ⟨b0, o + i * 4 + 2, none⟩) (by have := World.block_lt_of_cell? wr _ a2; exact this) |>.trans a2
            replace a3 := (hx6.below (Nat.le_refl _)).cell (p := ⟨b0, o + i * 4 + 3, none⟩) (by have := World.block_lt_of_cell? wr _ a3; exact this) |>.trans a3
            replace c0 := (hx6.below (Nat.le_refl _)).cell (p := ⟨b1, o1 + k * 4, none⟩) (by have := World.block_lt_of_cell? wr _ c0; exact this) |>.trans c0
            replace c1 := (hx6.below (Nat.le_refl _)).cell (p := ⟨b1, o1 + k * 4 + 1, none⟩) (by have := World.block_lt_of_cell? wr _ c1; exact this) |>.trans c1
            replace c2 := (hx6.below (Nat.le_refl _)).cell (p := ⟨b1, o1 + k * 4 + 2, none⟩) (by have := World.block_lt_of_cell? wr _ c2; exact this) |>.trans c2
            replace c3 := (hx6.below (Nat.le_refl _)).cell (p := ⟨b1, o1 + k * 4 + 3, none⟩) (by have := World.block_lt_of_cell? wr _ c3; exact this) |>.trans c3
            have HX6 := Lib.hid hx6
            clear hx6
            generalize grow (wr.drewN nq) osq = w6 at *
            have HOX := Lib.hid (own_ext HO2.out HX6.out)
            have HBX := Lib.hid (HB9.out.trans (HX6.out.below hszb))
            have HB7S := Lib.hid HBX.out
            have hs6 : w2.heap.size ≤ w6.heap.size := HBX.out.size
            have HS6 := Lib.hid hs6
            clear hqe
            go_wp2_with fail
            go_region_held3 (fun w' => w'.cell? ⟨w.heap.size, 1, none⟩ = some (.slice (some ⟨b0, o, none⟩) n0 q0) ∧ w'.cell? ⟨w.heap.size + 1, 1, none⟩ = some (.slice (some ⟨b1, o1, none⟩) n1 q1) ∧ w'.cell? ⟨b0, o + i * 4, none⟩ = some (.int .i64 x0) ∧ w'.cell? ⟨b0, o + i * 4 + 1, none⟩ = some (.int .i64 x1) ∧ w'.cell? ⟨b0, o + i * 4 + 2, none⟩ = some (.int .i64 x2) ∧ w'.cell? ⟨b0, o + i * 4 + 3, none⟩ = some (.int .i64 x3) ∧ w'.cell? ⟨b1, o1 + k * 4, none⟩ = some (.int .i64 y0) ∧ w'.cell? ⟨b1, o1 + k * 4 + 1, none⟩ = some (.int .i64 y1) ∧ w'.cell? ⟨b1, o1 + k * 4 + 2, none⟩ = some (.int .i64 y2) ∧ w'.cell? ⟨b1, o1 + k * 4 + 3, none⟩ = some (.int .i64 y3))
              (first | exact ⟨ra, rb, a0, a1, a2, a3, c0, c1, c2, c3⟩ | exact ⟨kra, krb, ka0, ka1, ka2, ka3, kc0, kc1, kc2, kc3⟩ | exact ⟨hgrow9.cell (by first | exact kra | go_simp) nebra, hgrow9.cell (by first | exact krb | go_simp) nebrb, hgrow9.cell (by first | exact ka0 | go_simp) nea, hgrow9.cell (by first | exact ka1 | go_simp) nea, hgrow9.cell (by first | exact ka2 | go_simp) nea, hgrow9.cell (by first | exact ka3 | go_simp) nea, hgrow9.cell (by first | exact kc0 | go_simp) nec, hgrow9.cell (by first | exact kc1 | go_simp) nec, hgrow9.cell (by first | exact kc2 | go_simp) nec, hgrow9.cell (by first | exact kc3 | go_simp) nec⟩ | go_keep)
              (first | (go_at_call 89; with_reducible refine (HTL.out _ (HB7S.out.trans (below_next0 (Below.refl w6.heap.size w6) (by with_reducible first | exact Ext.refl _ | exact (Ext.refl _).drew | exact (Ext.refl _).alloc _ | exact ((Ext.refl _).alloc _).drew | exact ((Ext.refl _).drew).alloc _ | exact (((Ext.refl _).drew).alloc _).drew) (Nat.le_refl _) |>.mono HS6.out))).mono ?_; rintro e w7 ⟨rfl, hb7⟩; have hB7 := below_next (Below.refl w6.heap.size w6) (by with_reducible first | exact Ext.refl _ | exact (Ext.refl _).drew | exact (Ext.refl _).alloc _ | exact ((Ext.refl _).alloc _).drew | exact ((Ext.refl _).drew).alloc _ | exact (((Ext.refl _).drew).alloc _).drew) hb7 (Nat.le_refl _); have kra := (hB7.cell (p := ⟨w.heap.size, 1, none⟩) (by have := World.block_lt_of_cell? w6 _ ra; exact this)).trans ra; have krb := (hB7.cell (p := ⟨w.heap.size + 1, 1, none⟩) (by have := World.block_lt_of_cell? w6 _ rb; exact this)).trans rb; have ka0 := (hB7.cell (p := ⟨b0, o + i * 4, none⟩) (by have := World.block_lt_of_cell? w6 _ a0; exact this)).trans a0; have ka1 := (hB7.cell (p := ⟨b0, o + i * 4 + 1, none⟩) (by have := World.block_lt_of_cell? w6 _ a1; exact this)).trans a1; have ka2 := (hB7.cell (p := ⟨b0, o + i * 4 + 2, none⟩) (by have := World.block_lt_of_cell? w6 _ a2; exact this)).trans a2; have ka3 := (hB7.cell (p := ⟨b0, o + i * 4 + 3, none⟩) (by have := World.block_lt_of_cell? w6 _ a3; exact this)).trans a3; have kc0 := (hB7.cell (p := ⟨b1, o1 + k * 4, none⟩) (by have := World.block_lt_of_cell? w6 _ c0; exact this)).trans c0; have kc1 := (hB7.cell (p := ⟨b1, o1 + k * 4 + 1, none⟩) (by have := World.block_lt_of_cell? w6 _ c1; exact this)).trans c1; have kc2 := (hB7.cell (p := ⟨b1, o1 + k * 4 + 2, none⟩) (by have := World.block_lt_of_cell? w6 _ c2; exact this)).trans c2; have kc3 := (hB7.cell (p := ⟨b1, o1 + k * 4 + 3, none⟩) (by have := World.block_lt_of_cell? w6 _ c3; exact this)).trans c3; have hz7 := hB7.size) | (refine step_pushT rfl (.tmp 42) (.tmp 55) rfl w2.heap.size u7 l.length (flat (l.map (stT pp))) (by go_simp) (own_ext (own_belowA HOX.out hB7) (by with_reducible first | exact Ext.refl _ | exact (Ext.refl _).drew | exact (Ext.refl _).alloc _ | exact ((Ext.refl _).alloc _).drew | exact ((Ext.refl _).drew).alloc _ | exact (((Ext.refl _).drew).alloc _).drew)) w7.heap.size (z0, z1, z2, z3) (by go_simp) ((Blk.new w7 48 #[.int .i64 z0, .int .i64 z1, .int .i64 z2, .int .i64 z3]).ext (by with_reducible first | exact Ext.refl _ | exact (Ext.refl _).drew | exact (Ext.refl _).alloc _ | exact ((Ext.refl _).alloc _).drew | exact ((Ext.refl _).drew).alloc _ | exact (((Ext.refl _).drew).alloc _).drew)) (by unfold maxLen; omega) (by omega) (by simp; omega) ?_; intro v9 w9 hown9 hgrow9 hat9; have hB9 := (below_next0 (HBX.out.trans (hB7.mono hs6)) (by with_reducible first | exact Ext.refl _ | exact (Ext.refl _).drew | exact (Ext.refl _).alloc _ | exact ((Ext.refl _).alloc _).drew | exact ((Ext.refl _).drew).alloc _ | exact (((Ext.refl _).drew).alloc _).drew) (Nat.le_refl _)).grown hgrow9 (by simp; omega) (fun j hj => (HOX.out.lt j hj).1)))
            all_goals
              have hc9 : (ps ++ stkI us (x0, x1, x2, x3) (k + 1)).map (stT pp) = l.map (stT pp) ++ [(z0, z1, z2, z3)] := by rw [HAPP.out, List.map_append, List.map_cons, List.map_nil, HZ.out]
              have hlen9 : l.length + 1 = (ps ++ stkI us (x0, x1, x2, x3) (k + 1)).length := by rw [HAPP.out]; simp
              rw [← flat_snoc, ← hc9, hlen9] at hown9
              have N1 := Lib.hid hown9
              have N2 := Lib.hid hB9
              clear hown9 hgrow9 hat9 hB9 hc9 hlen9 ra  rb  a0  a1  a2  a3  c0  c1  c2  c3 kra krb ka0 ka1 ka2 ka3 kc0 kc1 kc2 kc3
              go_wp2_with fail
              go_roundw
              case rel => first | exact ⟨k + 1, by omega, by go_num, N1.out, N2.out⟩ | ((repeat apply Exists.intro); exact ⟨⟨k + 1, by omega, by go_num, N1.out, N2.out⟩, rfl⟩)
              case measure => simp [intOf]; omega
          · have HAPP := Lib.hid (show l = ps ++ stkI us (x0, x1, x2, x3) (k + 1) by rw [HN.out heq, HL.out])
            have hqe : (x3 == y1) = false := by simpa using heq
            have gra := fun dn os => (cell?_grow (wr.drewN dn) os ⟨w.heap.size, 1, none⟩ (by have := World.block_lt_of_cell? wr _ ra; exact this)).trans ra
            have grb := fun dn os => (cell?_grow (wr.drewN dn) os ⟨w.heap.size + 1, 1, none⟩ (by have := World.block_lt_of_cell? wr _ rb; exact this)).trans rb
            have ga3 := fun dn os => (cell?_grow (wr.drewN dn) os ⟨b0, o + i * 4 + 3, none⟩ (by have := World.block_lt_of_cell? wr _ a3; exact this)).trans a3
            have gc1 := fun dn os => (cell?_grow (wr.drewN dn) os ⟨b1, o1 + k * 4 + 1, none⟩ (by have := World.block_lt_of_cell? wr _ c1; exact this)).trans c1
            go_wp2_with fail
            refine wp_region_quiet_grown mixed (by kernel_rfl) ?_
            repeat (go_big_quiet_step ((fail)))
            refine wpQuiet_nil ?_
            intro _ hw'
            obtain ⟨⟨nq, osq⟩, hw''⟩ := hw'
            subst hw''
            clear gra grb ga3 gc1
            have hx6 : Ext wr (grow (wr.drewN nq) osq) := ⟨nq, osq, rfl⟩
            replace ra := (hx6.below (Nat.le_refl _)).cell (p := ⟨w.heap.size, 1, none⟩) (by have := World.block_lt_of_cell? wr _ ra; exact this) |>.trans ra
            replace rb := (hx6.below (Nat.le_refl _)).cell (p := ⟨w.heap.size + 1, 1, none⟩) (by have := World.block_lt_of_cell? wr _ rb; exact this) |>.trans rb
            replace a0 := (hx6.below (Nat.le_refl _)).cell (p := ⟨b0, o + i * 4, none⟩) (by have := World.block_lt_of_cell? wr _ a0; exact this) |>.trans a0
            replace a1 := (hx6.below (Nat.le_refl _)).cell (p := ⟨b0, o + i * 4 + 1, none⟩) (by have := World.block_lt_of_cell? wr _ a1; exact this) |>.trans a1
            replace a2 := (hx6.below (Nat.le_refl _)).cell (p := ⟨b0, o + i * 4 + 2, none⟩) (by have := World.block_lt_of_cell? wr _ a2; exact this) |>.trans a2
            replace a3 := (hx6.below (Nat.le_refl _)).cell (p := ⟨b0, o + i * 4 + 3, none⟩) (by have := World.block_lt_of_cell? wr _ a3; exact this) |>.trans a3
            replace c0 := (hx6.below (Nat.le_refl _)).cell (p := ⟨b1, o1 + k * 4, none⟩) (by have := World.block_lt_of_cell? wr _ c0; exact this) |>.trans c0
            replace c1 := (hx6.below (Nat.le_refl _)).cell (p := ⟨b1, o1 + k * 4 + 1, none⟩) (by have := World.block_lt_of_cell? wr _ c1; exact this) |>.trans c1
            replace c2 := (hx6.below (Nat.le_refl _)).cell (p := ⟨b1, o1 + k * 4 + 2, none⟩) (by have := World.block_lt_of_cell? wr _ c2; exact this) |>.trans c2
            replace c3 := (hx6.below (Nat.le_refl _)).cell (p := ⟨b1, o1 + k * 4 + 3, none⟩) (by have := World.block_lt_of_cell? wr _ c3; exact this) |>.trans c3
            have HX6 := Lib.hid hx6
            clear hx6
            generalize grow (wr.drewN nq) osq = w6 at *
            have HOX := Lib.hid (own_ext HO2.out HX6.out)
            have HBX := Lib.hid (HB9.out.trans (HX6.out.below hszb))
            clear ra  rb  a0  a1  a2  a3  c0  c1  c2  c3 hqe
            go_wp2_with fail
            go_roundw
            case rel => first | exact ⟨k + 1, by omega, by go_num, by rw [← HAPP.out]; exact HOX.out, HBX.out⟩ | ((repeat apply Exists.intro); exact ⟨⟨k + 1, by omega, by go_num, by rw [← HAPP.out]; exact HOX.out, HBX.out⟩, rfl⟩)
            case measure => simp [intOf]; omega
        · obtain rfl : k = n1 := by omega
          have HUS := Lib.hid (show stk (ts.take (i + 1)) us = ps ++ stkI us (x0, x1, x2, x3) k by rw [HSU.out, ← hl1])
          have N1 := Lib.hid (show wr.ownsRow w2.heap.size 48 4 u7 (stk (ts.take (i + 1)) us).length (flat ((stk (ts.take (i + 1)) us).map (stT pp))) by rw [HUS.out]; exact HO2.out)
          clear hob hbw
          go_wp2_with fail
          go_roundw
          case rel => first | exact ⟨i + 1, by omega, by go_num, N1.out, HB9.out⟩ | ((repeat apply Exists.intro); exact ⟨⟨i + 1, by omega, by go_num, N1.out, HB9.out⟩, rfl⟩)
          case measure => simp [intOf]; omega
    · obtain rfl : i = n0 := by omega
      have hown := HO.out
      rw [← hl0, List.take_length] at hown
      have ra0 := (HB0.out.below HBW.out (by omega)).rd 0 rfl
      have rb0 := (HB1.out.below HBW.out (by omega)).rd 0 rfl
      have hls : (stk ts us).length ≤ 256 := by have h1 := stk_len ts us; rw [hl0, hl1] at h1; omega
      obtain ⟨A7, cap7, hv7, htw7⟩ := own_tw hown (by simp)
      subst hv7
      have hso := l01Sort_any A7 (stk ts us).length cap7 ((stk ts us).map (stT pp)) wr (by omega) (by simp) htw7.tr
      rw [← HST.out] at hso
      have HSO := Lib.hid hso
      have HLS := Lib.hid (show (stkT ts us).length ≤ 256 by rw [HST.out]; have h1 := sortT_len ((stk ts us).map (stT pp)); rw [List.length_map] at h1; omega)
      generalize (stk ts us).length = sl at *
      clear hown htw7 hso
      go_upto_region 10 with (fail)
      go_cut [10] (fun v wx => v = .int .i64 (stkC c0 c1 ts us) ∧ wx = wr)
      case first =>
        go_wp2_with fail
        all_goals
          go_meet
          exact ⟨congrArg (Value.int .i64) (by rw [HSC.out, ← HM.out]; omega), rfl⟩
      case rest =>
        obtain ⟨rfl, hwc⟩ := hcut
        subst hwc
        obtain ⟨M, hMM⟩ : ∃ M, M = stkC c0 c1 ts us := ⟨_, rfl⟩
        rw [← hMM]
        have HMX := Lib.hid hMM
        clear hMM
        go_wp2_with fail
        refine HSO.out.mono ?_
        rintro e w7 ⟨v7, rfl, hown7, hb7⟩
        have HB7 := Lib.hid hb7
        have HBW7 := Lib.hid (HBWW.out.trans (hb7.mono HBWW.out.size))
        have hsz7 := hb7.size
        obtain ⟨A8, cap8, hv8, htw8⟩ := own_tw hown7 rfl
        subst hv8
        have hbr := (HB2.out.below HBW.out (by omega)).below hb7 (by omega)
        have HBR := Lib.hid hbr
        have hlen8 : (stkT ts us).length ≤ 65536 := by rw [HST.out]; have := HLS.out; rw [HST.out] at this; omega
        have hmd := fun W (hW : Below w7.heap.size w7 W) => l01Made_any (M) A8 (stkT ts us).length cap8 (stkT ts us) W hlen8 rfl ((htw8.tr.below hW (Nat.le_refl _)).more hW.size)
        have hid8 : sortT (stkT ts us) = stkT ts us := sortT_of_asc (sortT_asc _)
        rw [hid8] at hmd
        have HMD := Lib.hid hmd
        have hmr : MadeRes c0 c1 ts us w = if (M) ≤ 6 ∧ (stkT ts us).length ≤ 16 then SetRes w (M) (stkT ts us) 0 else SetRes w 0 [] 3 := by unfold MadeRes; rw [← HMX.out]
        have HMR := Lib.hid hmr
        obtain ⟨sl8, hsl8⟩ : ∃ n, n = (stkT ts us).length := ⟨_, rfl⟩
        rw [← hsl8] at HMD HMR hlen8 ⊢
        have HSL8 := Lib.hid hsl8
        clear hown7 hb7 htw8 hbr hmd hid8 hmr hsl8 ra rb ra0 rb0
        by_cases h6 : (M) ≤ 6
        · by_cases h16 : sl8 ≤ 16
          · have h6n : ¬ (6 : Int) < M := by omega
            have h16n : ¬ (16 : Int) < (sl8 : Int) := by omega
            have HRS := HMR.out
            rw [if_pos ⟨h6, h16⟩] at HRS
            have HRS := Lib.hid HRS
            go_wp2_with fail
            refine (HMD.out _ (Below.refl _ _)).mono ?_
            rintro e w9 ⟨A9, cap9, rfl, hb9, htw9⟩
            have hbr9 := HBR.out.below hb9 (by omega)
            have q0 := hbr9.rd 0 rfl
            have q1 := hbr9.rd 1 rfl
            have z0 := hbr9.frozen 0
            have z1 := hbr9.frozen 1
            have HBF := Lib.hid (HBW7.out.trans (hb9.mono HBW7.out.size))
            have HT9 := Lib.hid htw9
            clear hb9 htw9 hbr9
            go_wp2_with fail
            refine bodyPost_ret (v := .tuple #[.agg #[.int .i64 (M), .slice A9 sl8 cap9], .int .i64 0]) (by simp [results, Try.results131, go_sem, q0, q1, z0, z1]) rfl ?_
            have h99 := HMR.out
            rw [if_pos ⟨h6, h16⟩] at h99
            rw [h99]
            exact ⟨A9, cap9, by rw [HSL8.out], (HBF.out.setCell (show w.heap.size ≤ w.heap.size + 2 by omega) _).setCell (show w.heap.size ≤ w.heap.size + 2 by omega) _, ((HT9.out.far (show w.heap.size + 2 < _ by omega) _).far (show w.heap.size + 2 < _ by omega) _).low (by omega)⟩
          · have h6n : ¬ (6 : Int) < M := by omega
            have h16n : (16 : Int) < (sl8 : Int) := by omega
            have h16m : 16 < sl8 := by omega
            have q0 := HBR.out.rd 0 rfl
            have q1 := HBR.out.rd 1 rfl
            have z0 := HBR.out.frozen 0
            have z1 := HBR.out.frozen 1
            go_wp2_with fail
            refine bodyPost_ret (v := .tuple #[.agg #[.int .i64 0, .slice none 0 0], .int .i64 3]) (by simp [results, Try.results131, go_sem, q0, q1, z0, z1]) rfl ?_
            have h99 := HMR.out
            rw [if_neg (fun h => absurd h.2 (by omega))] at h99
            rw [h99]
            exact ⟨none, 0, rfl, (HBW7.out.setCell (show w.heap.size ≤ w.heap.size + 2 by omega) _).setCell (show w.heap.size ≤ w.heap.size + 2 by omega) _, fun h => absurd h (Nat.lt_irrefl _)⟩
        · have h6n : (6 : Int) < M := by omega
          have q0 := HBR.out.rd 0 rfl
          have q1 := HBR.out.rd 1 rfl
          have z0 := HBR.out.frozen 0
          have z1 := HBR.out.frozen 1
          go_wp2_with fail
          refine bodyPost_ret (v := .tuple #[.agg #[.int .i64 0, .slice none 0 0], .int .i64 3]) (by simp [results, Try.results131, go_sem, q0, q1, z0, z1]) rfl ?_
          have h99 := HMR.out
          rw [if_neg (fun h => absurd h.1 (by omega))] at h99
          rw [h99]
          exact ⟨none, 0, rfl, (HBW7.out.setCell (show w.heap.size ≤ w.heap.size + 2 by omega) _).setCell (show w.heap.size ≤ w.heap.size + 2 by omega) _, fun h => absurd h (Nat.lt_irrefl _)⟩
end
end Go.Proofs.Ytjoaoimebdkpaaa
