/- The program's flipped, mirrored, turned and transposed sets. -/
import Derived.Test.YtdkodmmbgflijaaChanged
namespace Go.Proofs.Ytdkodmmbgflijaa
set_option linter.unusedVariables false
set_option linter.unusedSimpArgs false
open Go.RowKit Go.Sort
theorem nodup_map {f : Tl → Tl} (hf : ∀ a b, f a = f b → a = b) {l : List Tl} (h : l.Nodup) : (l.map f).Nodup := by
  induction l with
  | nil => simp
  | cons x r ih =>
    rw [List.map_cons, List.nodup_cons]
    obtain ⟨h1, h2⟩ := List.nodup_cons.1 h
    refine ⟨fun hm => ?_, ih h2⟩
    obtain ⟨y, hy, e⟩ := List.mem_map.1 hm
    exact h1 (hf _ _ e ▸ hy)

theorem flipped_any (x : Tl) (w : World) : Calls Try.prog 60 #[tv x] w fun e w' => e = .returned (tv (flippedT x)) ∧ Ext w w' := by
  obtain ⟨x0, x1, x2, x3⟩ := x
  unfold tv flippedT
  go_enter Try.func60, Try.ntmps60
  go_wp2
  go_returns
  exact ⟨rfl, by repeat (first | exact Ext.refl _ | refine Ext.drewN ?_ _ | refine Ext.alloc ?_ _ | refine Ext.drew ?_ | refine Ext.grow ?_ _)⟩
theorem flippedT_inj (x y : Tl) (h : flippedT x = flippedT y) : x = y := by
  obtain ⟨x0, x1, x2, x3⟩ := x
  obtain ⟨y0, y1, y2, y3⟩ := y
  simp only [flippedT, Prod.mk.injEq] at h ⊢
  omega
set_option maxHeartbeats 400000 in
theorem implFlipped_any (c0 : Int) (A : Option Addr) (n c : Nat) (ts : List Tl) (w : World) (hn : n ≤ 1048576) (hl : ts.length = n) (hA : TR w w.heap.size A ts) :
    Calls Try.prog 21 #[.agg #[.int .i64 c0, .slice A n c]] w (if isSet c0 ts = true then SetRes w c0 (sortT (ts.map flippedT)) 0 else SetRes w 0 [] 1) := by
  have eg : ∀ args w, (callFunc 60 args).run Try.prog w = .ok (.enter 60 args) w := enters_of Try.func60 (by kernel_rfl) rfl
  have hcon : ∃ c1 us code, (if isSet c0 ts = true then SetRes w c0 (sortT (ts.map flippedT)) 0 else SetRes w 0 [] 1) = SetRes w c1 us code ∧ ∀ W, Ext w W → Calls Try.prog 59 #[.agg #[.int .i64 c0, .slice A n c], .func (.func 60) #[] #[]] W (SetRes W c1 us code) := by
    cases hs : isSet c0 ts with
    | true =>
      refine ⟨c0, sortT (ts.map flippedT), 0, by simp, fun W hW => ?_⟩
      have := changedSet_yes c0 A n c ts flippedT 60 #[] W (by have := isSet_len hs; omega) hl ((hA.ext hW (Nat.le_refl _)).more (hW.below (Nat.le_refl _)).size) eg (fun V _ k _ => flipped_any (ts.getD k T0) V) hs
      rwa [sortM_eq (nodup_map flippedT_inj (nodup_of_asc (asc_of_isSet hs)))] at this
    | false =>
      exact ⟨0, [], 1, by simp, fun W hW => changedSet_no c0 A n c ts _ #[] W hn hl ((hA.ext hW (Nat.le_refl _)).more (hW.below (Nat.le_refl _)).size) hs⟩
  obtain ⟨c1, us, code, he, hcon⟩ := hcon
  rw [he]
  have HC := Lib.hid hcon
  clear hcon hA he
  unfold SetRes at HC ⊢
  generalize us.length = m at HC ⊢
  go_enter Try.func21, Try.ntmps21
  go_wp2_with fail
  refine (HC.out _ (((Ext.refl w).alloc _).alloc _)).mono ?_
  rintro e w1 ⟨A', cap, rfl, hb, htw⟩
  have HB := Lib.hid hb
  have HW := Lib.hid htw
  clear htw
  obtain ⟨hc, hf⟩ := bcell hb
  have hz : w.heap.size + 1 < w1.heap.size := by have := hb.size; simp at this; omega
  clear hb
  go_wp2_with fail
  refine bodyPost_ret (v := .tuple #[.agg #[.int .i64 c1, .slice A' m cap], .int .i64 code]) (by simp [results, Try.results21, go_sem, hc, hz]) rfl ⟨A', cap, rfl, ?_, ?_⟩
  · have h0 : Below w.heap.size w w1 := (((Below.refl w.heap.size w).alloc (Nat.le_refl _) _).alloc (by simp) _).trans (HB.out.mono (by simp; omega))
    exact (h0.setCell (by simp) _).setCell (by simp) _
  · have h0 : TW w1 (w.heap.size + 1 + 1) A' us := by simpa using HW.out
    exact ((h0.far (by simp) _).far (by simp) _).low (by omega)

theorem mirrored_any (x : Tl) (w : World) : Calls Try.prog 64 #[tv x] w fun e w' => e = .returned (tv (mirroredT x)) ∧ Ext w w' := by
  obtain ⟨x0, x1, x2, x3⟩ := x
  unfold tv mirroredT
  go_enter Try.func64, Try.ntmps64
  go_wp2
  go_returns
  exact ⟨rfl, by repeat (first | exact Ext.refl _ | refine Ext.drewN ?_ _ | refine Ext.alloc ?_ _ | refine Ext.drew ?_ | refine Ext.grow ?_ _)⟩
theorem mirroredT_inj (x y : Tl) (h : mirroredT x = mirroredT y) : x = y := by
  obtain ⟨x0, x1, x2, x3⟩ := x
  obtain ⟨y0, y1, y2, y3⟩ := y
  simp only [mirroredT, Prod.mk.injEq] at h ⊢
  omega
set_option maxHeartbeats 400000 in
theorem implMirrored_any (c0 : Int) (A : Option Addr) (n c : Nat) (ts : List Tl) (w : World) (hn : n ≤ 1048576) (hl : ts.length = n) (hA : TR w w.heap.size A ts) :
    Calls Try.prog 25 #[.agg #[.int .i64 c0, .slice A n c]] w (if isSet c0 ts = true then SetRes w c0 (sortT (ts.map mirroredT)) 0 else SetRes w 0 [] 1) := by
  have eg : ∀ args w, (callFunc 64 args).run Try.prog w = .ok (.enter 64 args) w := enters_of Try.func64 (by kernel_rfl) rfl
  have hcon : ∃ c1 us code, (if isSet c0 ts = true then SetRes w c0 (sortT (ts.map mirroredT)) 0 else SetRes w 0 [] 1) = SetRes w c1 us code ∧ ∀ W, Ext w W → Calls Try.prog 59 #[.agg #[.int .i64 c0, .slice A n c], .func (.func 64) #[] #[]] W (SetRes W c1 us code) := by
    cases hs : isSet c0 ts with
    | true =>
      refine ⟨c0, sortT (ts.map mirroredT), 0, by simp, fun W hW => ?_⟩
      have := changedSet_yes c0 A n c ts mirroredT 64 #[] W (by have := isSet_len hs; omega) hl ((hA.ext hW (Nat.le_refl _)).more (hW.below (Nat.le_refl _)).size) eg (fun V _ k _ => mirrored_any (ts.getD k T0) V) hs
      rwa [sortM_eq (nodup_map mirroredT_inj (nodup_of_asc (asc_of_isSet hs)))] at this
    | false =>
      exact ⟨0, [], 1, by simp, fun W hW => changedSet_no c0 A n c ts _ #[] W hn hl ((hA.ext hW (Nat.le_refl _)).more (hW.below (Nat.le_refl _)).size) hs⟩
  obtain ⟨c1, us, code, he, hcon⟩ := hcon
  rw [he]
  have HC := Lib.hid hcon
  clear hcon hA he
  unfold SetRes at HC ⊢
  generalize us.length = m at HC ⊢
  go_enter Try.func25, Try.ntmps25
  go_wp2_with fail
  refine (HC.out _ (((Ext.refl w).alloc _).alloc _)).mono ?_
  rintro e w1 ⟨A', cap, rfl, hb, htw⟩
  have HB := Lib.hid hb
  have HW := Lib.hid htw
  clear htw
  obtain ⟨hc, hf⟩ := bcell hb
  have hz : w.heap.size + 1 < w1.heap.size := by have := hb.size; simp at this; omega
  clear hb
  go_wp2_with fail
  refine bodyPost_ret (v := .tuple #[.agg #[.int .i64 c1, .slice A' m cap], .int .i64 code]) (by simp [results, Try.results25, go_sem, hc, hz]) rfl ⟨A', cap, rfl, ?_, ?_⟩
  · have h0 : Below w.heap.size w w1 := (((Below.refl w.heap.size w).alloc (Nat.le_refl _) _).alloc (by simp) _).trans (HB.out.mono (by simp; omega))
    exact (h0.setCell (by simp) _).setCell (by simp) _
  · have h0 : TW w1 (w.heap.size + 1 + 1) A' us := by simpa using HW.out
    exact ((h0.far (by simp) _).far (by simp) _).low (by omega)

theorem turned_any (x : Tl) (w : World) : Calls Try.prog 66 #[tv x] w fun e w' => e = .returned (tv (turnedT x)) ∧ Ext w w' := by
  obtain ⟨x0, x1, x2, x3⟩ := x
  unfold tv turnedT
  go_enter Try.func66, Try.ntmps66
  go_wp2
  go_returns
  exact ⟨rfl, by repeat (first | exact Ext.refl _ | refine Ext.drewN ?_ _ | refine Ext.alloc ?_ _ | refine Ext.drew ?_ | refine Ext.grow ?_ _)⟩
theorem turnedT_inj (x y : Tl) (h : turnedT x = turnedT y) : x = y := by
  obtain ⟨x0, x1, x2, x3⟩ := x
  obtain ⟨y0, y1, y2, y3⟩ := y
  simp only [turnedT, Prod.mk.injEq] at h ⊢
  omega
set_option maxHeartbeats 400000 in
theorem implTurned_any (c0 : Int) (A : Option Addr) (n c : Nat) (ts : List Tl) (w : World) (hn : n ≤ 1048576) (hl : ts.length = n) (hA : TR w w.heap.size A ts) :
    Calls Try.prog 27 #[.agg #[.int .i64 c0, .slice A n c]] w (if isSet c0 ts = true then SetRes w c0 (sortT (ts.map turnedT)) 0 else SetRes w 0 [] 1) := by
  have eg : ∀ args w, (callFunc 66 args).run Try.prog w = .ok (.enter 66 args) w := enters_of Try.func66 (by kernel_rfl) rfl
  have hcon : ∃ c1 us code, (if isSet c0 ts = true then SetRes w c0 (sortT (ts.map turnedT)) 0 else SetRes w 0 [] 1) = SetRes w c1 us code ∧ ∀ W, Ext w W → Calls Try.prog 59 #[.agg #[.int .i64 c0, .slice A n c], .func (.func 66) #[] #[]] W (SetRes W c1 us code) := by
    cases hs : isSet c0 ts with
    | true =>
      refine ⟨c0, sortT (ts.map turnedT), 0, by simp, fun W hW => ?_⟩
      have := changedSet_yes c0 A n c ts turnedT 66 #[] W (by have := isSet_len hs; omega) hl ((hA.ext hW (Nat.le_refl _)).more (hW.below (Nat.le_refl _)).size) eg (fun V _ k _ => turned_any (ts.getD k T0) V) hs
      rwa [sortM_eq (nodup_map turnedT_inj (nodup_of_asc (asc_of_isSet hs)))] at this
    | false =>
      exact ⟨0, [], 1, by simp, fun W hW => changedSet_no c0 A n c ts _ #[] W hn hl ((hA.ext hW (Nat.le_refl _)).more (hW.below (Nat.le_refl _)).size) hs⟩
  obtain ⟨c1, us, code, he, hcon⟩ := hcon
  rw [he]
  have HC := Lib.hid hcon
  clear hcon hA he
  unfold SetRes at HC ⊢
  generalize us.length = m at HC ⊢
  go_enter Try.func27, Try.ntmps27
  go_wp2_with fail
  refine (HC.out _ (((Ext.refl w).alloc _).alloc _)).mono ?_
  rintro e w1 ⟨A', cap, rfl, hb, htw⟩
  have HB := Lib.hid hb
  have HW := Lib.hid htw
  clear htw
  obtain ⟨hc, hf⟩ := bcell hb
  have hz : w.heap.size + 1 < w1.heap.size := by have := hb.size; simp at this; omega
  clear hb
  go_wp2_with fail
  refine bodyPost_ret (v := .tuple #[.agg #[.int .i64 c1, .slice A' m cap], .int .i64 code]) (by simp [results, Try.results27, go_sem, hc, hz]) rfl ⟨A', cap, rfl, ?_, ?_⟩
  · have h0 : Below w.heap.size w w1 := (((Below.refl w.heap.size w).alloc (Nat.le_refl _) _).alloc (by simp) _).trans (HB.out.mono (by simp; omega))
    exact (h0.setCell (by simp) _).setCell (by simp) _
  · have h0 : TW w1 (w.heap.size + 1 + 1) A' us := by simpa using HW.out
    exact ((h0.far (by simp) _).far (by simp) _).low (by omega)

theorem transposed_any (x : Tl) (w : World) : Calls Try.prog 68 #[tv x] w fun e w' => e = .returned (tv (transposedT x)) ∧ Ext w w' := by
  obtain ⟨x0, x1, x2, x3⟩ := x
  unfold tv transposedT
  go_enter Try.func68, Try.ntmps68
  go_wp2
  go_returns
  exact ⟨rfl, by repeat (first | exact Ext.refl _ | refine Ext.drewN ?_ _ | refine Ext.alloc ?_ _ | refine Ext.drew ?_ | refine Ext.grow ?_ _)⟩
theorem transposedT_inj (x y : Tl) (h : transposedT x = transposedT y) : x = y := by
  obtain ⟨x0, x1, x2, x3⟩ := x
  obtain ⟨y0, y1, y2, y3⟩ := y
  simp only [transposedT, Prod.mk.injEq] at h ⊢
  omega
set_option maxHeartbeats 400000 in
theorem implTransposed_any (c0 : Int) (A : Option Addr) (n c : Nat) (ts : List Tl) (w : World) (hn : n ≤ 1048576) (hl : ts.length = n) (hA : TR w w.heap.size A ts) :
    Calls Try.prog 29 #[.agg #[.int .i64 c0, .slice A n c]] w (if isSet c0 ts = true then SetRes w c0 (sortT (ts.map transposedT)) 0 else SetRes w 0 [] 1) := by
  have eg : ∀ args w, (callFunc 68 args).run Try.prog w = .ok (.enter 68 args) w := enters_of Try.func68 (by kernel_rfl) rfl
  have hcon : ∃ c1 us code, (if isSet c0 ts = true then SetRes w c0 (sortT (ts.map transposedT)) 0 else SetRes w 0 [] 1) = SetRes w c1 us code ∧ ∀ W, Ext w W → Calls Try.prog 59 #[.agg #[.int .i64 c0, .slice A n c], .func (.func 68) #[] #[]] W (SetRes W c1 us code) := by
    cases hs : isSet c0 ts with
    | true =>
      refine ⟨c0, sortT (ts.map transposedT), 0, by simp, fun W hW => ?_⟩
      have := changedSet_yes c0 A n c ts transposedT 68 #[] W (by have := isSet_len hs; omega) hl ((hA.ext hW (Nat.le_refl _)).more (hW.below (Nat.le_refl _)).size) eg (fun V _ k _ => transposed_any (ts.getD k T0) V) hs
      rwa [sortM_eq (nodup_map transposedT_inj (nodup_of_asc (asc_of_isSet hs)))] at this
    | false =>
      exact ⟨0, [], 1, by simp, fun W hW => changedSet_no c0 A n c ts _ #[] W hn hl ((hA.ext hW (Nat.le_refl _)).more (hW.below (Nat.le_refl _)).size) hs⟩
  obtain ⟨c1, us, code, he, hcon⟩ := hcon
  rw [he]
  have HC := Lib.hid hcon
  clear hcon hA he
  unfold SetRes at HC ⊢
  generalize us.length = m at HC ⊢
  go_enter Try.func29, Try.ntmps29
  go_wp2_with fail
  refine (HC.out _ (((Ext.refl w).alloc _).alloc _)).mono ?_
  rintro e w1 ⟨A', cap, rfl, hb, htw⟩
  have HB := Lib.hid hb
  have HW := Lib.hid htw
  clear htw
  obtain ⟨hc, hf⟩ := bcell hb
  have hz : w.heap.size + 1 < w1.heap.size := by have := hb.size; simp at this; omega
  clear hb
  go_wp2_with fail
  refine bodyPost_ret (v := .tuple #[.agg #[.int .i64 c1, .slice A' m cap], .int .i64 code]) (by simp [results, Try.results29, go_sem, hc, hz]) rfl ⟨A', cap, rfl, ?_, ?_⟩
  · have h0 : Below w.heap.size w w1 := (((Below.refl w.heap.size w).alloc (Nat.le_refl _) _).alloc (by simp) _).trans (HB.out.mono (by simp; omega))
    exact (h0.setCell (by simp) _).setCell (by simp) _
  · have h0 : TW w1 (w.heap.size + 1 + 1) A' us := by simpa using HW.out
    exact ((h0.far (by simp) _).far (by simp) _).low (by omega)

end Go.Proofs.Ytdkodmmbgflijaa
