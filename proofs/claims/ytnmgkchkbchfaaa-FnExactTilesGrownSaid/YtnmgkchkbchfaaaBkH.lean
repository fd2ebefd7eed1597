/- All that come of some numbers: the model's walk. -/
import Derived.Test.YtnmgkchkbchfaaaBkG
import Derived.Test.YtnmgkchkbchfaaaRen1
namespace Go.Proofs.Ytnmgkchkbchfaaa
set_option linter.unusedVariables false
set_option linter.unusedSimpArgs false
open Go.RowKit Go.Sort

theorem own_far64 {w : World} {base n size : Nat} {e : TypeId} {v : Value} {xs : List Value} (h : w.ownsRow base e size v n xs) {p : Addr} (hp : p.block < base) (u : Value) : (w.setCell p u).ownsRow base e size v n xs := by
  refine ⟨h.1, ?_⟩
  rcases h.2 with h0 | ⟨g, cap, cur, hv, hb, hg, r⟩
  · exact .inl h0
  · exact .inr ⟨g, cap, cur, hv, hb, (Below.heap_setCell w p u g (by omega)).trans hg, r⟩
theorem SeenB.belowK {w w' : World} {g k : Nat} {t : TypeId} {sz : Nat} {p : List Int} (h : SeenB w g t sz p) (hx : Below k w w') (hg : g < k) : SeenB w' g t sz p := by
  obtain ⟨cs, hb, hs, hc⟩ := h
  exact ⟨cs, hb.below hx hg, hs, hc⟩
theorem SeenB.same {w : World} {g : Nat} {t : TypeId} {sz : Nat} {p p' : List Int} (h : SeenB w g t sz p) (he : ∀ x : Nat, x < sz → ((x : Int) ∈ p ↔ (x : Int) ∈ p')) : SeenB w g t sz p' := by
  obtain ⟨cs, hb, hs, hc⟩ := h
  exact ⟨cs, hb, hs, fun x hx => by rw [hc x hx, decide_eq_decide.2 (he x hx)]⟩
theorem grown_below {w w' : World} {k : Nat} {row : Option Nat} (hg : w.grownBy w' row) (hk : k ≤ w.heap.size) (hr : ∀ j, row = some j → k ≤ j) : Below k w w' := (Below.refl k w).grown hg hk hr
theorem stT_get {bs : List (List Int)} {x k : Nat} (hk : k < 4) : (stT bs x).getD k 0 = (bAt bs x k).toNat := by
  match k, hk with
  | 0, _ => rfl
  | 1, _ => rfl
  | 2, _ => rfl
  | 3, _ => rfl
theorem getD_get9 {l : List Nat} {k : Nat} (hk : k < l.length) : l.getD k 0 = l[k] := by simp [List.getD, hk]
/-- What the search knows: the tiles at places below y, and k of the tiles of the y-th. -/
structure Met (st : Nat → List Nat) (i y k : Nat) (L : List Nat) : Prop where
  nodup : L.Nodup
  rch : ∀ x ∈ L, Rch st i x
  start : i ∈ L
  closed : ∀ q, q < y → ∀ z ∈ st (L.getD q 0), z ∈ L
  part : ∀ j, j < k → (st (L.getD y 0)).getD j 0 ∈ L
theorem Met.begin (st : Nat → List Nat) (i : Nat) : Met st i 0 0 [i] := ⟨by simp, fun x h => by simp at h; subst h; exact Rch.base st x, by simp, fun q h => absurd h (Nat.not_lt_zero _), fun q h => absurd h (Nat.not_lt_zero _)⟩
theorem Met.old {st : Nat → List Nat} {i y k : Nat} {L : List Nat} (h : Met st i y k L) (hx : (st (L.getD y 0)).getD k 0 ∈ L) : Met st i y (k + 1) L :=
  ⟨h.nodup, h.rch, h.start, h.closed, fun j hj => by
    rcases Nat.lt_or_ge j k with h1 | h1
    · exact h.part j h1
    · obtain rfl : j = k := by omega
      exact hx⟩
theorem getD_app {L : List Nat} {x q : Nat} (hq : q < L.length) : (L ++ [x]).getD q 0 = L.getD q 0 := by simp [List.getD, List.getElem?_append_left hq]
theorem Met.fresh {st : Nat → List Nat} {i y k x : Nat} {L : List Nat} (h : Met st i y k L) (hy : y < L.length) (hk : k < (st (L.getD y 0)).length) (hx : (st (L.getD y 0)).getD k 0 = x) (hn : x ∉ L) : Met st i y (k + 1) (L ++ [x]) := by
  have hm : L.getD y 0 ∈ L := by simp [List.getD, hy]
  have hmx : x ∈ st (L.getD y 0) := by rw [← hx, getD_get9 hk]; exact List.getElem_mem _
  refine ⟨List.nodup_append.2 ⟨h.nodup, by simp, fun a ha b hb => by simp at hb; subst hb; exact fun e => hn (e ▸ ha)⟩, fun z hz => ?_, by simp [h.start], fun q hq z hz => ?_, fun j hj => ?_⟩
  · rcases List.mem_append.1 hz with h1 | h1
    · exact h.rch z h1
    · simp at h1; subst h1; exact (h.rch _ hm).step hmx
  · rw [getD_app (by omega)] at hz
    exact List.mem_append_left _ (h.closed q hq z hz)
  · rw [getD_app hy]
    rcases Nat.lt_or_ge j k with h1 | h1
    · exact List.mem_append_left _ (h.part j h1)
    · obtain rfl : j = k := by omega
      rw [hx]; simp
theorem Met.next {st : Nat → List Nat} {i y : Nat} {L : List Nat} (h : Met st i y 4 L) (h4 : (st (L.getD y 0)).length = 4) : Met st i (y + 1) 0 L :=
  ⟨h.nodup, h.rch, h.start, fun q hq z hz => by
    rcases Nat.lt_or_ge q y with h1 | h1
    · exact h.closed q h1 z hz
    · obtain rfl : q = y := by omega
      obtain ⟨j, hj, e⟩ := List.getElem_of_mem hz
      have := h.part j (by omega)
      rw [getD_get9 hj, e] at this
      exact this, fun q h => absurd h (Nat.not_lt_zero _)⟩
theorem Met.done {st : Nat → List Nat} {i : Nat} {L : List Nat} (h : Met st i L.length 0 L) (x : Nat) : x ∈ L ↔ Rch st i x := by
  refine ⟨h.rch x, fun hr => hr (fun x => x ∈ L) h.start (fun y hy z hz => ?_)⟩
  obtain ⟨q, hq, e⟩ := List.getElem_of_mem hy
  exact h.closed q hq z (by rw [show L.getD q 0 = y by simp [List.getD, hq]; exact e]; exact hz)
set_option maxRecDepth 100000 in
set_option maxHeartbeats 4000000 in
theorem l09Tiles_any (ts : List Tl) (B : Option Addr) (m d : Nat) (bs : List (List Int)) (I : Nat) (w : World) (hm : m ≤ 16) (hlr : bs.length = m) (hB : IRR w w.heap.size B bs) (hok : bOk ts bs = true) (hI : I < m) :
    Calls Try.prog 75 #[.slice B m d, .int .i64 (I : Int)] w fun e w' => e = .returned (.slice (some ⟨w.heap.size, 0, none⟩) m m) ∧ Below w.heap.size w w' ∧ SeenB w' w.heap.size 4 m (ints (tgL bs m I)) := by
  have HF := Lib.hid (fun k hk => ((bOk_facts hok).2 k hk).1)
  have HN := Lib.hid (fun k (hk : k < bs.length) j (hj : j < 4) => bOk_nat hok hk hj)
  have HLT := Lib.hid (fun x (h : Rch (stT bs) I x) => (rch_lt hok (by omega) h : x < bs.length))
  obtain ⟨i0, hi, hz0, hz1, hz2⟩ := info_parts info_bool
  have hmk := fun W => run_make_rowN (P := Try.prog) 87 4 i0 _ (by kernel_rfl) hi hz0 .i64 .i64 m m (Nat.le_refl _) (by rw [hz2]; omega) (by omega) W
  rw [hz1] at hmk
  generalize hcs : madeCells (Value.cells (.bool false)) (m * 1) = cs0 at hmk
  have hfa := made_false hcs.symm
  have HFA := Lib.hid hfa
  have hw1 : IntKind.i64.wrap (m : Int) = m := IntWalk.i64_in _ (by omega)
  have hS0 : SeenB (w.alloc (Obj.cells cs0 4)) w.heap.size 4 m [] := by
    have := SeenB.start (Blk.new w 4 cs0) hfa.2
    rw [hfa.1] at this
    exact this
  have hS1 : SeenB (w.alloc (Obj.cells (cs0.setIfInBounds I (.bool true)) 4)) w.heap.size 4 m [(I : Int)] := ⟨_, Blk.new w _ _, by simp [hfa.1], fun x hx => by
    rw [Array.getElem?_setIfInBounds]
    by_cases e : I = x
    · subst e
      rw [if_pos rfl, if_pos (by rw [hfa.1]; omega)]
      simp
    · rw [if_neg e, hfa.2 x (by rw [hfa.1]; exact hx)]
      have : ¬ ((x : Int) = (I : Int)) := by omega
      simp [this]⟩
  have HS2 := Lib.hid (hS1.below (((Ext.refl _).alloc (Obj.cells #[.int .i64 (I : Int)] 2)).below (Nat.le_refl _)))
  have hO := own_built1 (w.alloc (Obj.cells (cs0.setIfInBounds I (.bool true)) 4)) (w.heap.size + 1) (I : Int) (by simp)
  have HB2 := Lib.hid (((((Ext.refl w).alloc (Obj.cells (cs0.setIfInBounds I (.bool true)) 4)).below (Nat.le_refl w.heap.size))).alloc (by simp) (Obj.cells #[.int .i64 (I : Int)] 2))
  rw [World.size_alloc] at hO
  have HO2 := Lib.hid hO
  obtain ⟨q0, z0⟩ := hS0.at_ hI
  clear hok hcs hfa hi hz0 hz1 hz2 hS0 hO hS1
  go_enter Try.func75, Try.ntmps75
  go_wp2_with fail
  clear hmk hw1 q0 z0
  generalize (w.alloc (Obj.cells (cs0.setIfInBounds I (.bool true)) 4)).alloc (Obj.cells #[.int .i64 (I : Int)] 2) = W2 at *
  go_loopw [6, 7] (fun v nv wr => ∃ (y : Nat) (L : List Nat), y ≤ L.length ∧ nv = .int .i64 (y : Int) ∧ wr.ownsRow (w.heap.size + 1) 2 1 v L.length (vis (ints L)) ∧ lenOfV v = L.length ∧ Met (stT bs) I y 0 L ∧ SeenB wr w.heap.size 4 m (ints L) ∧ Below w.heap.size w wr ∧ w.heap.size + 1 ≤ wr.heap.size) (fun _ nv _ => m - (intOf nv).toNat)
  case atStart => exact ⟨0, [I], Nat.zero_le _, rfl, HO2.out, rfl, Met.begin _ _, HS2.out, HB2.out, Nat.le_of_lt (HO2.out.lt _ rfl).2⟩
  case round =>
    obtain ⟨y, L, hyL, rfl, hown, hlv, hmet, hseen, hb, hsz⟩ := hrel
    have hLm : L.length ≤ m := nodup_len hmet.nodup (fun x hx => by have := HLT.out x (hmet.rch x hx); omega)
    have HO := Lib.hid hown
    have HM := Lib.hid hmet
    have HS := Lib.hid hseen
    have HB := Lib.hid hb
    obtain ⟨A2, cap2, hv, hcap, -⟩ := own_iwr hown (ints_len L)
    subst hv
    clear hown hmet hseen hb hlv
    by_cases hlt : y < L.length
    · have hlt' : (y : Int) < (L.length : Int) := by omega
      go_wp2_with fail
      go_loopw [6, 8] (fun v kv wr => ∃ (k : Nat) (L' : List Nat), k ≤ 4 ∧ kv = .int .i64 (k : Int) ∧ y < L'.length ∧ wr.ownsRow (w.heap.size + 1) 2 1 v L'.length (vis (ints L')) ∧ Met (stT bs) I y k L' ∧ SeenB wr w.heap.size 4 m (ints L') ∧ Below w.heap.size w wr ∧ w.heap.size + 1 ≤ wr.heap.size) (fun _ kv _ => 4 - (intOf kv).toNat)
      case atStart => exact ⟨0, L, Nat.zero_le _, rfl, hlt, HO.out, HM.out, HS.out, HB.out, hsz⟩
      case round =>
        obtain ⟨k, L1, hk, rfl, hy1, hown, hmet, hseen, hb, hsz1⟩ := hrel
        have hLm1 : L1.length ≤ m := nodup_len hmet.nodup (fun x hx => by have := HLT.out x (hmet.rch x hx); omega)
        have HO1 := Lib.hid hown
        have HM1 := Lib.hid hmet
        have HS1 := Lib.hid hseen
        have HB1 := Lib.hid hb
        obtain ⟨A3, cap3, hv, hcap3, hiw⟩ := own_iwr hown (ints_len L1)
        subst hv
        by_cases hk4 : k < 4
        · have hxl : L1.getD y 0 < bs.length := HLT.out _ (hmet.rch _ (by simp [List.getD, hy1]))
          obtain ⟨bA, oA, hAe, hbA, hcA⟩ := hiw.ir (by rw [ints_len]; omega)
          subst hAe
          have e0 := hcA y (by rw [ints_len]; exact hy1)
          rw [ints_get hy1] at e0
          obtain ⟨b, o, rfl, hb0, hcr⟩ := hB (by omega)
          obtain ⟨Q, q, hcQ, hqq, hir⟩ := hcr (L1.getD y 0) (by omega)
          have h4 := HF.out (L1.getD y 0) hxl
          obtain ⟨bx, ox, hQe, hbx, hcx⟩ := hir (by omega)
          subst hQe
          have e1 := (hb.cell (p := ⟨b, o + L1.getD y 0, none⟩) hb0).trans hcQ
          have q1 := (hb.cell (p := ⟨bx, ox + k, none⟩) hbx).trans (hcx k (by omega))
          obtain ⟨x, hxe, hxm⟩ := HN.out _ hxl k hk4
          rw [show (bs.getD (L1.getD y 0) []).getD k 0 = bAt bs (L1.getD y 0) k from rfl, hxe] at q1
          rw [h4] at e1
          have HST := Lib.hid (show (stT bs (L1.getD y 0)).getD k 0 = x by rw [stT_get hk4, hxe]; rfl)
          generalize L1.getD y 0 = t at e0 e1 hxl
          have hxm' : x < m := by omega
          obtain ⟨q2, z2⟩ := hseen.at_ hxm'
          clear hown hmet hseen hb hcA hcr hcQ hqq hir hcx h4 hxe hiw
          by_cases hin : x ∈ L1
          · rw [decide_eq_true (ints_mem.2 hin)] at q2
            go_wp2_with fail
            go_roundw
            case rel => exact ⟨k + 1, L1, by omega, by go_num, hy1, HO1.out, HM1.out.old (by rw [HST.out]; exact hin), HS1.out, HB1.out, hsz1⟩
            case measure => simp [intOf]; omega
          · rw [decide_eq_false (fun h => hin (ints_mem.1 h))] at q2
            have HO3 := Lib.hid (own_far64 HO1.out (p := ⟨w.heap.size, x, none⟩) (Nat.lt_succ_self _) (.bool true))
            have HB3 := Lib.hid (HB1.out.setCell (p := ⟨w.heap.size, x, none⟩) (Nat.le_refl _) (.bool true))
            have HS3 := Lib.hid (HS1.out.step hxm')
            have hs3 : (wr.setCell ⟨w.heap.size, x, none⟩ (.bool true)).heap.size = wr.heap.size := by simp
            go_wp2_with (at_builtin; refine wpList_push rfl _ _ rfl (w.heap.size + 1) _ L1.length _ rfl (HO3.out.alloc _) (wr.setCell ⟨w.heap.size, x, none⟩ (.bool true)).heap.size (x : Int) (by rw [hs3]; rfl) (heap_alloc_new (wr.setCell ⟨w.heap.size, x, none⟩ (.bool true)) _) ?c1 ?c2 ?c3 ?_)
            case c1 => unfold maxLen; omega
            case c2 => omega
            case c3 => simp; omega
            intro v' w5 hown' hgrow hat
            rw [show vis (ints L1) ++ [vi (x : Int)] = vis (ints (L1 ++ [x])) by rw [ints_snoc, vis_snoc]] at hown'
            have O5 := Lib.hid hown'
            have BK := ((Below.refl (w.heap.size + 1) (wr.setCell ⟨w.heap.size, x, none⟩ (.bool true))).alloc (by rw [hs3]; omega) (Obj.cells #[.int .i64 (x : Int)] 2)).grown hgrow (by simp; omega) (fun j hj => (HO3.out.lt j hj).1)
            have B5 := Lib.hid (HB3.out.trans (BK.mono (by omega)))
            have S5 := Lib.hid (HS3.out.belowK BK (Nat.lt_succ_self _))
            have hsz5 : w.heap.size + 1 ≤ w5.heap.size := by have := hgrow.size; simp at this; omega
            clear hown' hgrow hat BK
            go_wp2_with fail
            go_roundw
            case rel => exact ⟨k + 1, L1 ++ [x], by omega, by go_num, by simp; omega, by rw [List.length_append]; exact O5.out, HM1.out.fresh hy1 (by exact hk4) HST.out hin, by rw [ints_snoc]; exact S5.out, B5.out, hsz5⟩
            case measure => simp [intOf]; omega
        · obtain rfl : k = 4 := by omega
          clear hown hmet hseen hb hiw
          go_wp2_with fail
          go_roundw
          case rel => exact ⟨y + 1, L1, by omega, by go_num, HO1.out, rfl, HM1.out.next rfl, HS1.out, HB1.out, hsz1⟩
          case measure => simp [intOf]; omega
    · obtain rfl : y = L.length := by omega
      go_wp2_with fail
      go_ret
      exact ⟨rfl, HB.out, HS.out.same (fun x hx => by rw [ints_mem, ints_mem, tgL_mem]; exact ⟨fun h => ⟨hx, (HM.out.done x).1 h⟩, fun h => (HM.out.done x).2 h.2⟩)⟩
end Go.Proofs.Ytnmgkchkbchfaaa
