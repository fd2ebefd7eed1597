/- Strong parts; the model's side. -/
import Derived.Test.YtleabblnikbmpaaGs3
import Derived.Test.YtleabblnikbmpaaGs4
import Derived.Deep.RegionLaw
import Derived.Deep.DeepCutAuto
import Derived.Lib.Hide
namespace Go.Proofs.Ytleabblnikbmpaa
set_option linter.unusedVariables false
set_option linter.unusedSimpArgs false
open Go.RowKit Go.Sort

theorem own_type_ne {w : World} {base size n g : Nat} {e t : TypeId} {v : Value} {xs : List Value} {cs : Array Value} (h : w.ownsRow base e size v n xs) (hb : Blk w g t cs) (hne : t ≠ e) : some g ≠ v.ownBlock := by
  intro e1
  rcases h.2 with ⟨hv, -⟩ | ⟨g', cap', cur, hv, -, hg, -⟩
  · rw [hv] at e1; cases e1
  · rw [hv] at e1
    have e2 : g = g' := by simpa [Value.ownBlock] using e1
    subst e2
    unfold Blk at hb
    rw [hb] at hg
    injection hg with hg
    injection hg with h1 h2 h3
    exact hne h2
theorem own_set_ne {w : World} {base n size : Nat} {e : TypeId} {v : Value} {xs : List Value} (h : w.ownsRow base e size v n xs) {p : Addr} (hp : some p.block ≠ v.ownBlock) (u : Value) : (w.setCell p u).ownsRow base e size v n xs := by
  refine ⟨h.1, ?_⟩
  rcases h.2 with h0 | ⟨g, cap, cur, hv, hb, hg, r⟩
  · exact .inl h0
  · refine .inr ⟨g, cap, cur, hv, hb, (Below.heap_setCell w p u g (fun e => hp ?_)).trans hg, r⟩
    rw [hv, ← e]; rfl
theorem OwnRR.set_bool {w : World} {base gm i : Nat} {v u : Value} {rs : List (List Int)} {cs : Array Value} (h : OwnRR w base v rs) (hm : Blk w gm 4 cs) (hc : ∀ j, j < cs.size → ∃ b, cs[j]? = some (.bool b)) : OwnRR (w.setCell ⟨gm, i, none⟩ u) base v rs := by
  obtain ⟨Q, q, ho, hr, ha⟩ := h
  refine ⟨Q, q, own_set_ne ho (p := ⟨gm, i, none⟩) (own_type_ne ho hm (by decide)) u, fun j hj => ?_, ha⟩
  obtain ⟨h1, h2, h3⟩ := hr j hj
  refine ⟨h1, ?_, h3⟩
  have := h2.set_far (p := ⟨gm, i, none⟩) (fun c u' e h0 e2 => by
    obtain ⟨b, off, t, cs', e3, -, -, hb, hcc⟩ := h2 h0
    rw [e] at e3
    cases e3
    have e4 : c = gm := e2
    subst e4
    have hc0 := hcc 0 h0
    unfold Blk at hm hb
    rw [hm] at hb
    injection hb with hb
    injection hb with hb1 hb2 hb3
    subst hb1
    have hsz : u' + 0 < cs.size := by
      rcases Nat.lt_or_ge (u' + 0) cs.size with h | h
      · exact h
      · rw [Array.getElem?_eq_none h] at hc0; cases hc0
    obtain ⟨bb, hbb⟩ := hc _ hsz
    rw [hbb] at hc0
    cases hc0) u
  simpa using this
theorem BMat.far_ {w : World} {lo b o n : Nat} {G O q : Nat → Nat} {R : Rel} (h : BMat w lo b o n G O q R) {p : Addr} (hb : b ≠ p.block) (hg : ∀ i, i < n → G i ≠ p.block) (u : Value) : BMat (w.setCell p u) lo b o n G O q R :=
  ⟨fun i hi => (set_cell_ne u hb).trans (h.cell i hi), h.cap, h.lob, by obtain ⟨cs, hb'⟩ := h.out; exact ⟨cs, hb'.far hb u⟩, h.log, fun i hi => by
    obtain ⟨cs, hb', hc⟩ := h.row i hi
    exact ⟨cs, hb'.far (hg i hi) u, hc⟩, h.inj⟩
theorem BMat.grown_ {w w' : World} {lo b o n : Nat} {G O q : Nat → Nat} {R : Rel} {row : Option Nat} (h : BMat w lo b o n G O q R) (hx : w.grownBy w' row) (hb : some b ≠ row) (hg : ∀ i, i < n → some (G i) ≠ row) : BMat w' lo b o n G O q R :=
  ⟨fun i hi => hx.cell (h.cell i hi) hb, h.cap, h.lob, by obtain ⟨cs, hb'⟩ := h.out; exact ⟨cs, (hx.block b hb'.lt hb).trans hb'⟩, h.log, fun i hi => by
    obtain ⟨cs, hb', hc⟩ := h.row i hi
    exact ⟨cs, (hx.block (G i) hb'.lt (hg i hi)).trans hb', hc⟩, h.inj⟩
theorem below_set_both {B : Nat} {a b : World} (h : Below B a b) {p : Addr} (hp : p.block < B) (u : Value) : Below B (a.setCell p u) (b.setCell p u) := by
  refine ⟨h.os, h.tape, h.output, by simpa using h.size, fun k hk => ?_⟩
  by_cases e : k = p.block
  · subst e
    have := h.block p.block hp
    simp [World.setCell, Array.getElem?_modify, this]
  · rw [Below.heap_setCell b p u k e, Below.heap_setCell a p u k e]
    exact h.block k hk
/-- Words that have been met, as bits. -/
def MetB (w : World) (gm n : Nat) (f : Nat → Bool) : Prop := ∃ cs, Blk w gm 4 cs ∧ cs.size = n ∧ ∀ j, j < n → cs[j]? = some (.bool (f j))
theorem MetB.lt {w : World} {gm n : Nat} {f : Nat → Bool} (h : MetB w gm n f) : gm < w.heap.size := by obtain ⟨cs, hb, -⟩ := h; exact hb.lt
theorem MetB.at_ {w : World} {gm n : Nat} {f : Nat → Bool} (h : MetB w gm n f) {j : Nat} (hj : j < n) : w.cell? ⟨gm, j, none⟩ = some (.bool (f j)) ∧ w.frozen? ⟨gm, j, none⟩ = false := by
  obtain ⟨cs, hb, -, hc⟩ := h
  exact ⟨(hb.cell _).trans (hc j hj), hb.frozen _⟩
theorem MetB.below {w w' : World} {gm n : Nat} {f : Nat → Bool} (h : MetB w gm n f) {B : Nat} (hx : Below B w w') (hg : gm < B) : MetB w' gm n f := by
  obtain ⟨cs, hb, r⟩ := h
  exact ⟨cs, hb.below hx hg, r⟩
theorem MetB.ext {w w' : World} {gm n : Nat} {f : Nat → Bool} (h : MetB w gm n f) (hx : Ext w w') : MetB w' gm n f := h.below (hx.below (Nat.le_refl _)) h.lt
theorem MetB.grown_ {w w' : World} {gm n : Nat} {f : Nat → Bool} {row : Option Nat} (h : MetB w gm n f) (hx : w.grownBy w' row) (hne : some gm ≠ row) : MetB w' gm n f := by
  obtain ⟨cs, hb, r⟩ := h
  exact ⟨cs, (hx.block gm hb.lt hne).trans hb, r⟩
theorem MetB.set_ {w : World} {gm n : Nat} {f : Nat → Bool} (h : MetB w gm n f) {j : Nat} (hj : j < n) (v : Bool) : MetB (w.setCell ⟨gm, j, none⟩ (.bool v)) gm n (fun k => if k = j then v else f k) := by
  obtain ⟨cs, hb, hs, hc⟩ := h
  refine ⟨_, hb.set_ j _, by simp [hs], fun k hk => ?_⟩
  by_cases e : k = j
  · subst e; rw [Array.getElem?_setIfInBounds_self_of_lt (by omega)]; simp
  · rw [Array.getElem?_setIfInBounds_ne (by omega), hc k hk]; simp [e]
theorem MetB.congr {w : World} {gm n : Nat} {f g : Nat → Bool} (h : MetB w gm n f) (he : ∀ k, k < n → f k = g k) : MetB w gm n g := by
  obtain ⟨cs, hb, hs, hc⟩ := h
  exact ⟨cs, hb, hs, fun k hk => by rw [← he k hk]; exact hc k hk⟩
theorem MetB.rr {w : World} {gm n base i : Nat} {f : Nat → Bool} {v u : Value} {rs : List (List Int)} (h : MetB w gm n f) (ho : OwnRR w base v rs) : OwnRR (w.setCell ⟨gm, i, none⟩ u) base v rs := by
  obtain ⟨cs, hb, hs, hc⟩ := h
  exact ho.set_bool hb fun j hj => ⟨_, hc j (by omega)⟩
theorem MetB.blk {w : World} {gm n : Nat} {f : Nat → Bool} (h : MetB w gm n f) : ∃ cs, Blk w gm 4 cs := by obtain ⟨cs, hb, -⟩ := h; exact ⟨cs, hb⟩
/-- What stands when the search for parts begins. -/
def PR (w wx : World) (n b : Nat) (G q : Nat → Nat) (R : Rel) (gm g3 : Nat) : Prop :=
  BMat wx w.heap.size b 0 n G (fun _ => 0) q R ∧ MetB wx gm n (fun _ => false) ∧ Blk wx g3 42 #[] ∧ (∀ i, i < n → G i ≠ gm) ∧ b ≠ gm ∧ w.heap.size ≤ gm ∧ w.heap.size ≤ g3 ∧ Below w.heap.size w wx
theorem met_new {W : World} {cs0 : Array Value} {n : Nat} (hF : cs0.size = n ∧ ∀ x : Nat, x < cs0.size → cs0[x]? = some (.bool false)) : MetB (W.alloc (.cells cs0 4)) W.heap.size n fun _ => false :=
  ⟨cs0, Blk.new W _ _, hF.1, fun j hj => hF.2 j (by omega)⟩
section
variable {w W w1 : World} {cs0 : Array Value} {n b : Nat} {G q : Nat → Nat} {R : Rel} (hF : cs0.size = n ∧ ∀ x : Nat, x < cs0.size → cs0[x]? = some (.bool false))
theorem pr_rows {wx : World} (hb : BMat w1 W.heap.size b 0 n G (fun _ => 0) q R) (hw : w.heap.size ≤ W.heap.size) (hx : Ext w1 wx) : BMat wx w.heap.size b 0 n G (fun _ => 0) q R := (hb.low hw).below (hx.below (Nat.le_refl _))
include hF
theorem pr_1 (h1 : Below w.drew.heap.size w.drew w1) (hb : BMat w1 w.drew.heap.size b 0 n G (fun _ => 0) q R) : PR w ((w1.alloc (.cells cs0 4)).alloc (.cells #[] 42)) n b G q R w1.heap.size (w1.heap.size + 1) := by
  have hx : Ext w1 ((w1.alloc (.cells cs0 4)).alloc (.cells #[] 42)) := ((Ext.refl _).alloc _).alloc _
  have hz : w.heap.size ≤ w1.heap.size := h1.size
  refine ⟨pr_rows hb (Nat.le_refl _) hx, (met_new hF).ext ((Ext.refl _).alloc _), ?_, fun i hi => ?_, ?_, hz, by omega, ?_⟩
  · have := Blk.new (w1.alloc (.cells cs0 4)) 42 #[]; simpa using this
  · obtain ⟨cs, hk, -⟩ := hb.row i hi; have := hk.lt; omega
  · have := hb.ltb; omega
  · exact ((Below.refl w.heap.size w).drew.trans h1).trans (hx.below hz)
theorem pr_2 (h1 : Below w.drew.heap.size w.drew w1) (hb : BMat w1 w.drew.heap.size b 0 n G (fun _ => 0) q R) : PR w ((w1.alloc (.cells #[] 42)).alloc (.cells cs0 4)) n b G q R (w1.heap.size + 1) w1.heap.size := by
  have hx : Ext w1 ((w1.alloc (.cells #[] 42)).alloc (.cells cs0 4)) := ((Ext.refl _).alloc _).alloc _
  have hz : w.heap.size ≤ w1.heap.size := h1.size
  refine ⟨pr_rows hb (Nat.le_refl _) hx, ?_, (Blk.new w1 _ _).ext ((Ext.refl _).alloc _), fun i hi => ?_, ?_, by omega, hz, ?_⟩
  · have := met_new (W := w1.alloc (.cells #[] 42)) hF; simpa using this
  · obtain ⟨cs, hk, -⟩ := hb.row i hi; have := hk.lt; omega
  · have := hb.ltb; omega
  · exact ((Below.refl w.heap.size w).drew.trans h1).trans (hx.below hz)
theorem pr_3 (h1 : Below (w.alloc (.cells cs0 4)).drew.heap.size (w.alloc (.cells cs0 4)).drew w1) (hb : BMat w1 (w.alloc (.cells cs0 4)).drew.heap.size b 0 n G (fun _ => 0) q R) : PR w (w1.alloc (.cells #[] 42)) n b G q R w.heap.size w1.heap.size := by
  have hx : Ext w1 (w1.alloc (.cells #[] 42)) := (Ext.refl _).alloc _
  have hz : w.heap.size + 1 ≤ w1.heap.size := by have := h1.size; simpa using this
  have hl : ∀ i, i < n → w.heap.size + 1 ≤ G i := fun i hi => by have := (hb.log i hi).1; simpa using this
  have hlb : w.heap.size + 1 ≤ b := by have := hb.lob; simpa using this
  have hmet : MetB (w.alloc (.cells cs0 4)).drew w.heap.size n fun _ => false := met_new hF
  refine ⟨pr_rows hb (by simp) hx, (hmet.below h1 (by simp)).below (hx.below (Nat.le_refl _)) (by omega), Blk.new w1 _ _, fun i hi => ?_, by omega, Nat.le_refl _, by omega, ?_⟩
  · have := hl i hi; omega
  · exact ((((Ext.refl w).alloc (.cells cs0 4)).drew.below (Nat.le_refl _)).trans (h1.mono (by simp))).trans (hx.below (by omega))
theorem pr_4 (h1 : Below (w.alloc (.cells #[] 42)).drew.heap.size (w.alloc (.cells #[] 42)).drew w1) (hb : BMat w1 (w.alloc (.cells #[] 42)).drew.heap.size b 0 n G (fun _ => 0) q R) : PR w (w1.alloc (.cells cs0 4)) n b G q R w1.heap.size w.heap.size := by
  have hx : Ext w1 (w1.alloc (.cells cs0 4)) := (Ext.refl _).alloc _
  have hz : w.heap.size + 1 ≤ w1.heap.size := by have := h1.size; simpa using this
  have hout : Blk (w.alloc (.cells #[] 42)).drew w.heap.size 42 #[] := Blk.new w _ _
  refine ⟨pr_rows hb (by simp) hx, met_new hF, (hout.below h1 (by simp)).ext hx, fun i hi => ?_, ?_, by omega, Nat.le_refl _, ?_⟩
  · obtain ⟨cs, hk, -⟩ := hb.row i hi; have := hk.lt; omega
  · have := hb.ltb; omega
  · exact ((((Ext.refl w).alloc (.cells #[] 42)).drew.below (Nat.le_refl _)).trans (h1.mono (by simp))).trans (hx.below (by omega))
theorem pr_5 (h1 : Below ((w.alloc (.cells cs0 4)).alloc (.cells #[] 42)).drew.heap.size ((w.alloc (.cells cs0 4)).alloc (.cells #[] 42)).drew w1) (hb : BMat w1 ((w.alloc (.cells cs0 4)).alloc (.cells #[] 42)).drew.heap.size b 0 n G (fun _ => 0) q R) : PR w w1 n b G q R w.heap.size (w.heap.size + 1) := by
  have hz : w.heap.size + 1 + 1 ≤ w1.heap.size := by have := h1.size; simpa using this
  have hl : ∀ i, i < n → w.heap.size + 1 + 1 ≤ G i := fun i hi => by have := (hb.log i hi).1; simpa using this
  have hlb : w.heap.size + 1 + 1 ≤ b := by have := hb.lob; simpa using this
  have hmet : MetB ((w.alloc (.cells cs0 4)).alloc (.cells #[] 42)).drew w.heap.size n fun _ => false := (met_new hF).ext (((Ext.refl _).alloc _).drew)
  have hout : Blk ((w.alloc (.cells cs0 4)).alloc (.cells #[] 42)).drew (w.heap.size + 1) 42 #[] := by
    have := (Blk.new (w.alloc (.cells cs0 4)) 42 #[]).ext ((Ext.refl _).drew); simpa using this
  refine ⟨pr_rows hb (by simp; omega) (Ext.refl _), hmet.below h1 (by simp; omega), hout.below h1 (by simp), fun i hi => ?_, by omega, Nat.le_refl _, by omega, ?_⟩
  · have := hl i hi; omega
  · exact (((((Ext.refl w).alloc (.cells cs0 4)).alloc (.cells #[] 42)).drew.below (Nat.le_refl _)).trans (h1.mono (by simp; omega)))
theorem pr_6 (h1 : Below ((w.alloc (.cells #[] 42)).alloc (.cells cs0 4)).drew.heap.size ((w.alloc (.cells #[] 42)).alloc (.cells cs0 4)).drew w1) (hb : BMat w1 ((w.alloc (.cells #[] 42)).alloc (.cells cs0 4)).drew.heap.size b 0 n G (fun _ => 0) q R) : PR w w1 n b G q R (w.heap.size + 1) w.heap.size := by
  have hz : w.heap.size + 1 + 1 ≤ w1.heap.size := by have := h1.size; simpa using this
  have hl : ∀ i, i < n → w.heap.size + 1 + 1 ≤ G i := fun i hi => by have := (hb.log i hi).1; simpa using this
  have hlb : w.heap.size + 1 + 1 ≤ b := by have := hb.lob; simpa using this
  have hmet : MetB ((w.alloc (.cells #[] 42)).alloc (.cells cs0 4)).drew (w.heap.size + 1) n fun _ => false := by
    have := (met_new (W := w.alloc (.cells #[] 42)) hF).ext ((Ext.refl _).drew)
    simpa using this
  have hout : Blk ((w.alloc (.cells #[] 42)).alloc (.cells cs0 4)).drew w.heap.size 42 #[] := (Blk.new w _ _).ext (((Ext.refl _).alloc _).drew)
  refine ⟨pr_rows hb (by simp; omega) (Ext.refl _), hmet.below h1 (by simp), hout.below h1 (by simp; omega), fun i hi => ?_, by omega, by omega, Nat.le_refl _, ?_⟩
  · have := hl i hi; omega
  · exact (((((Ext.refl w).alloc (.cells #[] 42)).alloc (.cells cs0 4)).drew.below (Nat.le_refl _)).trans (h1.mono (by simp; omega)))
end

set_option maxRecDepth 100000 in
set_option maxHeartbeats 1000000 in
theorem l06Parts_any (A : Option Addr) (n c : Nat) (f : Nat → Nat → Int) (w : World) (hn : n ≤ 40) (hA : IRR w w.heap.size A (matL n f)) :
    Calls Try.prog 65 #[.slice A n c] w fun e w' => ∃ T p, e = .returned (.slice T (partsL (fwR (relF f) n) n n).length p) ∧ Below w.heap.size w w' ∧ IWW w' w.heap.size w'.heap.size T (partsL (fwR (relF f) n) n n) := by
  obtain ⟨i0, hi, hz0, hz1, hz2⟩ := info_parts info_bool
  have hmk := fun W => run_make_rowN (P := Try.prog) 79 4 i0 _ (by kernel_rfl) hi hz0 .i64 .i64 n n (Nat.le_refl _) (by rw [hz2]; omega) (by omega) W
  rw [hz1] at hmk
  generalize hcs : madeCells (Value.cells (.bool false)) (n * 1) = cs0 at hmk
  have HF := Lib.hid (made_false hcs.symm)
  clear hcs hi hz0 hz1 hz2
  have hre : ∀ W, Below w.heap.size w W → Calls Try.prog 109 #[.slice A n c] W _ := fun W hW => l06Reach_any A n c f W hn ((hA.below hW (Nat.le_refl _)).more hW.size)
  have HCL := Lib.hid (fun b => fw_closed (relF f) n b)
  generalize fwR (relF f) n = Q at *
  have HRE := Lib.hid hre
  clear hre hA
  go_enter Try.func65, Try.ntmps65
  go_wp2_with fail
  go_upto_region 1 with (fail)
  go_cut [3, 4, 5] (fun v3 v4 v5 wx => ∃ (b cap : Nat) (G q : Nat → Nat) (gm g3 : Nat), v3 = .slice (some ⟨b, 0, none⟩) n cap ∧ v4 = .slice (some ⟨gm, 0, none⟩) n n ∧ v5 = .slice (some ⟨g3, 0, none⟩) 0 0 ∧ PR w wx n b G q Q gm g3)
  case first =>
    go_region_law (go_simp; go_at_call 109; (with_reducible refine (HRE.out _ (by with_reducible first | exact (Below.refl _ _).drew | exact ((Below.refl _ _).alloc (Nat.le_refl _) _).drew | exact (((Below.refl _ _).alloc (Nat.le_refl _) _).alloc (by simp) _).drew | exact (((Ext.refl _).alloc _).drew.below (Nat.le_refl _)) | exact ((((Ext.refl _).alloc _).alloc _).drew.below (Nat.le_refl _)))).mono ?_); rintro e w1 ⟨b, cap, G, q, rfl, hb1, hm1⟩)
    all_goals (go_wp2_with fail)
    all_goals go_meet
    all_goals exact ⟨b, cap, G, q, _, _, rfl, rfl, rfl, by first | exact pr_1 HF.out hb1 hm1 | exact pr_2 HF.out hb1 hm1 | exact pr_3 HF.out hb1 hm1 | exact pr_4 HF.out hb1 hm1 | exact pr_5 HF.out hb1 hm1 | exact pr_6 HF.out hb1 hm1⟩
  case rest =>
    obtain ⟨b, cap, G, q, gm, g3, rfl, rfl, rfl, hbm0, hmt0, hou0, hGm, hbgm, hg1, hg3, hbx⟩ := hcut
    have HM0 := Lib.hid hbm0
    have HT0 := Lib.hid hmt0
    have HGM := Lib.hid hGm
    have HBX := Lib.hid hbx
    have HO0 := Lib.hid (show OwnRR wc w.heap.size (.slice (some ⟨g3, 0, none⟩) 0 0) [] from ⟨fun _ => none, fun _ => 0, ⟨by simp [rvs], .inr ⟨g3, 0, #[], rfl, hg3, hou0, by simp, by simp, by simp, by simp [rvs]⟩⟩, fun j hj => absurd hj (Nat.not_lt_zero _), fun i j _ hj => absurd hj (Nat.not_lt_zero _)⟩)
    have HFI := Lib.hid (fun i (hi : i < n) => met_first (Q := Q) (n := n) (m := i) hi fun a b c hb h1 h2 => HCL.out b hb a c h1 h2)
    clear hbm0 hmt0 hou0 hGm hbx hmk
    go_wp2_with fail
    go_loopw [5, 6] (fun v ii wr => ∃ i : Nat, i ≤ n ∧ ii = .int .i64 i ∧ OwnRR wr w.heap.size v (partsL Q n i) ∧ BMat wr w.heap.size b 0 n G (fun _ => 0) q Q ∧ MetB wr gm n (metB Q i) ∧ Below w.heap.size w wr) (fun _ ii _ => n - (intOf ii).toNat)
    case atStart => exact ⟨0, Nat.zero_le _, rfl, HO0.out, HM0.out, HT0.out.congr fun k _ => rfl, HBX.out⟩
    case round =>
      obtain ⟨i, hi, rfl, hown, hmat, hmet, hb⟩ := hrel
      have HO := Lib.hid hown
      have HM := Lib.hid hmat
      have HT := Lib.hid hmet
      have HB := Lib.hid hb
      have hszw := hb.size
      clear hown hmat hmet hb
      by_cases hlt : i < n
      · have hlt3 : (i : Int) < (n : Int) := by omega
        have t0 := (HT.out.at_ hlt).1
        have e1 := HM.out.cell i hlt
        have s1 := (HM.out.at_ hlt hlt).1
        simp only [Nat.zero_add] at e1 s1
        have hfi := HFI.out i hlt
        have HPN := Lib.hid (fun h => partsL_no (Q := Q) (n := n) (m := i) h)
        have HMN := Lib.hid (fun (h : isFirst Q i = false) => (show MetB wr gm n (metB Q (i + 1)) from HT.out.congr fun k _ => (metB_no h).symm))
        cases hu0 : metB Q i i with
        | true =>
          rw [hu0] at t0 hfi
          have HPL := Lib.hid (HPN.out (by rw [hfi]; rfl))
          have HML := Lib.hid (HMN.out (by rw [hfi]; rfl))
          go_wp2_with fail
          go_roundw
          case rel => first | exact ⟨i + 1, by omega, by go_num, by rw [HPL.out]; exact HO.out, HM.out, HML.out, HB.out⟩ | ((repeat apply Exists.intro); exact ⟨⟨i + 1, by omega, by go_num, by rw [HPL.out]; exact HO.out, HM.out, HML.out, HB.out⟩, rfl⟩)
          case measure => simp [intOf]; omega
        | false =>
          rw [hu0] at t0 hfi
          cases hu1 : Q i i with
          | false =>
            rw [hu1] at s1 hfi
            have HPL := Lib.hid (HPN.out (by rw [hfi]; rfl))
            have HML := Lib.hid (HMN.out (by rw [hfi]; rfl))
            go_wp2_with fail
            go_roundw
            case rel => first | exact ⟨i + 1, by omega, by go_num, by rw [HPL.out]; exact HO.out, HM.out, HML.out, HB.out⟩ | ((repeat apply Exists.intro); exact ⟨⟨i + 1, by omega, by go_num, by rw [HPL.out]; exact HO.out, HM.out, HML.out, HB.out⟩, rfl⟩)
            case measure => simp [intOf]; omega
          | true =>
            rw [hu1] at s1 hfi
            have hF1 : isFirst Q i = true := by rw [hfi]; rfl
            have HPY := Lib.hid (partsL_yes (n := n) hF1)
            have HMY := Lib.hid (fun k => metB_yes (k := k) hF1)
            have HLOW := Lib.hid (show ∀ j, j < i → (Q i j && Q j i) = false from fun j hj => by
              unfold isFirst at hF1
              rw [Bool.and_eq_true] at hF1
              have h9 := List.all_eq_true.1 hF1.2 j (List.mem_range.2 hj)
              revert h9
              cases Q i j <;> cases Q j i <;> simp)
            have HPI := Lib.hid (show partK Q i i = [] by
              unfold partK
              rw [List.filter_eq_nil_iff.2 fun j hj => by rw [HLOW.out j (List.mem_range.1 hj)]; simp]
              rfl)
            clear hu0 hu1 hfi hF1
            obtain ⟨WR, hWR⟩ : ∃ W1, W1 = wr := ⟨_, rfl⟩
            subst hWR
            go_wp2_with fail
            have HN7 := Lib.hid (own_emptyI (Blk.new WR 2 #[]) (Nat.le_refl WR.heap.size))
            have HX7 := Lib.hid (((Ext.refl WR).alloc (Obj.cells #[] 2)).below (Nat.le_refl WR.heap.size))
            go_loopw [7, 8] (fun v kk wr => ∃ (k : Nat) (w0 : World), i ≤ k ∧ k ≤ n ∧ kk = .int .i64 k ∧ w0.heap.size = WR.heap.size ∧ OwnRR w0 w.heap.size u5 (partsL Q n i) ∧ BMat w0 w.heap.size b 0 n G (fun _ => 0) q Q ∧ MetB w0 gm n (fun j => metB Q i j || (decide (j < k) && (Q i j && Q j i))) ∧ Below w.heap.size w w0 ∧ Below WR.heap.size w0 wr ∧ wr.ownsRow WR.heap.size 2 1 v (partK Q i k).length (vis (partK Q i k))) (fun _ kk _ => n - (intOf kk).toNat)
            case atStart =>
              refine ⟨i, WR, Nat.le_refl _, by omega, rfl, rfl, HO.out, HM.out, HT.out.congr fun k _ => ?_, HB.out, HX7.out, by rw [HPI.out]; exact HN7.out⟩
              by_cases hk : k < i
              · rw [HLOW.out k hk]; simp
              · rw [decide_eq_false hk]; simp
            case round =>
              obtain ⟨k, w0, hik, hk, rfl, hsz0, hrr, hmat, hmet, hb0, hbw, hown⟩ := hrel
              have HRR := Lib.hid hrr
              have HM2 := Lib.hid hmat
              have HT2 := Lib.hid hmet
              have HB2 := Lib.hid hb0
              have HW2 := Lib.hid hbw
              have HO2 := Lib.hid hown
              have HSZ := Lib.hid hsz0
              have hszk := hbw.size
              have hgl : gm < WR.heap.size := by have := hmet.lt; omega
              have hwl : w.heap.size ≤ WR.heap.size := by have := hb0.size; omega
              have hle := partK_le Q i k
              by_cases hltk : k < n
              · have hltk3 : (k : Int) < (n : Int) := by omega
                have hmw : BMat wr w.heap.size b 0 n G (fun _ => 0) q Q := hmat.below (by rw [hsz0]; exact hbw)
                have e1 := hmw.cell i hlt
                have e2 := hmw.cell k hltk
                have s1 := (hmw.at_ hlt hltk).1
                have s2 := (hmw.at_ hltk hlt).1
                simp only [Nat.zero_add] at e1 e2 s1 s2
                obtain ⟨t1, t2⟩ := (hmet.below hbw hgl).at_ hltk
                have HY := Lib.hid (fun h => partK_yes (Q := Q) (i := i) (k := k) h)
                have HN := Lib.hid (fun h => partK_no (Q := Q) (i := i) (k := k) h)
                have HTN := Lib.hid (fun (h : (Q i k && Q k i) = false) => (show MetB w0 gm n (fun j => metB Q i j || (decide (j < k + 1) && (Q i j && Q j i))) from HT2.out.congr fun j _ => by
                  by_cases e : j = k
                  · subst e; rw [h]; simp
                  · rw [show decide (j < k + 1) = decide (j < k) from by simp only [decide_eq_decide]; omega]))
                have HTY := Lib.hid (fun (h : (Q i k && Q k i) = true) => (show MetB (w0.setCell ⟨gm, k, none⟩ (.bool true)) gm n (fun j => metB Q i j || (decide (j < k + 1) && (Q i j && Q j i))) from (HT2.out.set_ hltk true).congr fun j _ => by
                  by_cases e : j = k
                  · subst e; rw [if_pos rfl, h]; simp
                  · rw [if_neg e, show decide (j < k + 1) = decide (j < k) from by simp only [decide_eq_decide]; omega]))
                have HRS := Lib.hid (hmet.rr (i := k) (u := .bool true) hrr)
                have HMS := Lib.hid (hmat.far_ (p := ⟨gm, k, none⟩) hbgm HGM.out (.bool true))
                have HBS := Lib.hid (hb0.setCell (p := ⟨gm, k, none⟩) hg1 (.bool true))
                have HWS := Lib.hid (below_set_both hbw (p := ⟨gm, k, none⟩) hgl (.bool true))
                have HOS := Lib.hid (own_set_far hown (p := ⟨gm, k, none⟩) hgl (.bool true))
                have HSS := Lib.hid (show (w0.setCell ⟨gm, k, none⟩ (.bool true)).heap.size = WR.heap.size by simpa using hsz0)
                obtain ⟨xs, hxs⟩ : ∃ xs, xs = partK Q i k := ⟨_, rfl⟩
                rw [← hxs] at HY HN HO2 HOS hle
                generalize (metB Q i k || (decide (k < k) && (Q i k && Q k i))) = u9 at t1
                generalize Q i k = u1 at *
                generalize Q k i = u2 at *
                clear hmw hown hbw hmet hmat hrr hb0 hxs
                cases u1 with
                | false =>
                  have HO3 := Lib.hid (show wr.ownsRow WR.heap.size 2 1 _ (partK Q i (k + 1)).length (vis (partK Q i (k + 1))) by rw [HN.out rfl]; exact HO2.out)
                  have HT3 := Lib.hid (HTN.out rfl)
                  go_wp2_with fail
                  go_roundw
                  case rel => first | exact ⟨k + 1, w0, by omega, by omega, by go_num, HSZ.out, HRR.out, HM2.out, HT3.out, HB2.out, HW2.out, HO3.out⟩ | ((repeat apply Exists.intro); exact ⟨⟨k + 1, w0, by omega, by omega, by go_num, HSZ.out, HRR.out, HM2.out, HT3.out, HB2.out, HW2.out, HO3.out⟩, rfl⟩)
                  case measure => simp [intOf]; omega
                | true =>
                  cases u2 with
                  | false =>
                    have HO3 := Lib.hid (show wr.ownsRow WR.heap.size 2 1 _ (partK Q i (k + 1)).length (vis (partK Q i (k + 1))) by rw [HN.out rfl]; exact HO2.out)
                    have HT3 := Lib.hid (HTN.out rfl)
                    go_wp2_with fail
                    go_roundw
                    case rel => first | exact ⟨k + 1, w0, by omega, by omega, by go_num, HSZ.out, HRR.out, HM2.out, HT3.out, HB2.out, HW2.out, HO3.out⟩ | ((repeat apply Exists.intro); exact ⟨⟨k + 1, w0, by omega, by omega, by go_num, HSZ.out, HRR.out, HM2.out, HT3.out, HB2.out, HW2.out, HO3.out⟩, rfl⟩)
                    case measure => simp [intOf]; omega
                  | true =>
                    have HT3 := Lib.hid (HTY.out rfl)
                    have hsw1 : WR.heap.size ≤ (wr.setCell ⟨gm, k, none⟩ (.bool true)).heap.size := by simpa using (by omega : WR.heap.size ≤ wr.heap.size)
                    have HBK := Lib.hid (show Blk ((wr.setCell ⟨gm, k, none⟩ (.bool true)).alloc (Obj.cells #[.int .i64 (k : Int)] 2)) wr.heap.size 2 #[.int .i64 (k : Int)] by have := Blk.new (wr.setCell ⟨gm, k, none⟩ (.bool true)) 2 #[.int .i64 (k : Int)]; simpa using this)
                    go_wp2_with (at_builtin; refine wpList_push1 rfl _ _ rfl WR.heap.size _ xs rfl (own_belowA HOS.out (((Ext.refl _).alloc _).below (Nat.le_refl _))) wr.heap.size (k : Int) rfl HBK.out ?c1 ?c2 ?_)
                    case c1 => omega
                    case c2 => simp; omega
                    intro v' w3 hown' hgrow _
                    have O3 := Lib.hid (show w3.ownsRow WR.heap.size 2 1 v' (partK Q i (k + 1)).length (vis (partK Q i (k + 1))) by rw [HY.out rfl]; simpa using hown')
                    have B3 := Lib.hid ((HWS.out.alloc hsw1 (Obj.cells #[.int .i64 (k : Int)] 2)).grown hgrow (by simp; omega) (fun j hj => (HOS.out.lt j hj).1))
                    clear hown' hgrow
                    go_wp2_with fail
                    go_roundw
                    case rel => first | exact ⟨k + 1, _, by omega, by omega, by go_num, HSS.out, HRS.out, HMS.out, HT3.out, HBS.out, B3.out, O3.out⟩ | ((repeat apply Exists.intro); exact ⟨⟨k + 1, _, by omega, by omega, by go_num, HSS.out, HRS.out, HMS.out, HT3.out, HBS.out, B3.out, O3.out⟩, rfl⟩)
                    case measure => simp [intOf]; omega
              · obtain rfl : k = n := by omega
                have HPE := Lib.hid (show (partOf Q k i).map (fun j : Nat => (j : Int)) = partK Q i k from rfl)
                rw [HPE.out] at HPY
                obtain ⟨xs, hxs⟩ : ∃ xs, xs = partK Q i k := ⟨_, rfl⟩
                rw [← hxs] at HPY hown
                clear hxs
                obtain ⟨A2, cap2, rfl, hcap, hw2⟩ := own_iwr hown rfl
                have HIW := Lib.hid (show IWr wr w0.heap.size wr.heap.size A2 xs by rw [hsz0]; exact hw2)
                have hbw0 : Below w0.heap.size w0 wr := by rw [hsz0]; exact hbw
                have HBW0 := Lib.hid hbw0
                have HTF := Lib.hid (show MetB w0 gm k (metB Q (i + 1)) from hmet.congr fun j hj => by rw [HMY.out j, decide_eq_true hj, Bool.true_and])
                have hpl := partsL_len Q k i
                have HNE := Lib.hid (show some b ≠ Value.ownBlock u5 ∧ some gm ≠ Value.ownBlock u5 ∧ ∀ j, j < k → some (G j) ≠ Value.ownBlock u5 by
                  obtain ⟨Q', q', ho, -⟩ := hrr
                  obtain ⟨cb, hcb⟩ := hmat.out
                  obtain ⟨cm, hcm⟩ := hmet.blk
                  refine ⟨own_type_ne ho hcb (by decide), own_type_ne ho hcm (by decide), fun j hj => ?_⟩
                  obtain ⟨cr, hcr, -⟩ := hmat.row j hj
                  exact own_type_ne ho hcr (by decide))
                obtain ⟨acc, hacc⟩ : ∃ acc, acc = partsL Q k i := ⟨_, rfl⟩
                rw [← hacc] at HPY HRR hpl
                have hsz9 : w.heap.size ≤ w0.heap.size := by omega
                have HMX := Lib.hid ((hmat.below hbw0).below (((Ext.refl wr).alloc (Obj.cells #[.slice A2 xs.length cap2] 42)).below (Nat.le_refl _)))
                have HTX := Lib.hid ((HTF.out.below hbw0 hmet.lt).ext ((Ext.refl wr).alloc (Obj.cells #[.slice A2 xs.length cap2] 42)))
                clear hown hbw hmet hmat hrr hb0 hw2 hbw0 hacc
                go_wp2_with (at_builtin; refine wpList_pushR rfl _ _ rfl w.heap.size _ acc rfl w0 HRR.out (HBW0.out.trans ((((Ext.refl wr).alloc _).below (Nat.le_refl wr.heap.size)).mono (by omega))) wr.heap.size A2 xs.length cap2 xs rfl (heap_alloc_new wr _) ((HIW.out.ext ((Ext.refl _).alloc _)).up (by simp)) rfl hcap (by omega) hsz9 ?_)
                intro v' w3 hown' hgrow _ hb3
                have O3 := Lib.hid (show OwnRR w3 w.heap.size v' (partsL Q k (i + 1)) by rw [HPY.out]; exact hown')
                have M3 := Lib.hid (HMX.out.grown_ hgrow HNE.out.1 HNE.out.2.2)
                have T3 := Lib.hid (HTX.out.grown_ hgrow HNE.out.2.1)
                have B3 := Lib.hid (((HB2.out.trans (HBW0.out.mono hsz9)).alloc (by omega) _).trans hb3)
                clear hown' hgrow hb3
                go_wp2_with fail
                go_roundw
                case rel => first | exact ⟨i + 1, by omega, by go_num, O3.out, M3.out, T3.out, B3.out⟩ | ((repeat apply Exists.intro); exact ⟨⟨i + 1, by omega, by go_num, O3.out, M3.out, T3.out, B3.out⟩, rfl⟩)
                case measure => simp [intOf]; omega
      · obtain rfl : i = n := by omega
        obtain ⟨T, p, rfl, -, hiww⟩ := HO.out.done
        have HI := Lib.hid hiww
        clear hiww HO
        go_wp2_with fail
        go_ret
        first | exact ⟨T, p, rfl, HB.out, HI.out⟩ | exact ⟨T, ⟨p, rfl⟩, HB.out, HI.out⟩
end Go.Proofs.Ytleabblnikbmpaa
