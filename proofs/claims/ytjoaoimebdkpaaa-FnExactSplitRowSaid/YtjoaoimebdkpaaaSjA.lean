/- The program's tile of a stacked pair: its colours are places of pairs in a sorted list of rows. -/
import Derived.Test.YtjoaoimebdkpaaaStC
import Derived.Shelf.SlCmpFuncs.BinarySearchFunc
import Derived.Lib.Hide
import Derived.Test.YtjoaoimebdkpaaaAppT
namespace Go.Proofs.Ytjoaoimebdkpaaa
section
set_option linter.unusedVariables false
set_option linter.unusedSimpArgs false
open Go.RowKit Go.Sort

/-- A search's world is the one that it began in, but for draws and new blocks. -/
theorem sort_same {α : Type} [Inhabited α] (encV : α → Value) {w : World} {g : Nat} {t : TypeId} {cur : Array Value} {d : Array α} (hb : Blk w g t cur) (hd : d.size ≤ cur.size) (hc : ∀ j, j < d.size → cur[j]? = some (encV d[j]!)) (m : Nat) (os : Array Obj) : Ext w (sortWorld encV w g 0 m d os) := by
  refine ⟨m, os, ?_⟩
  unfold sortWorld putRow
  have hput : putCells encV 0 d cur = cur := by
    apply Array.ext_getElem?
    intro j
    unfold putCells
    rw [Array.getElem?_mapIdx]
    by_cases hj : j < cur.size
    · rw [Array.getElem?_eq_getElem hj]
      by_cases hjd : j < d.size
      · have h1 := hc j hjd
        rw [Array.getElem?_eq_getElem hj] at h1
        simp only [Option.map_some, Nat.zero_le, Nat.zero_add, hjd, and_self, if_true, Nat.sub_zero]
        rw [← Option.some.inj h1]
      · simp [hjd]
    · rw [Array.getElem?_eq_none (by omega)]
      rfl
  have hheap : (w.heap.modify g (onCells (putCells encV 0 d))) = w.heap := by
    apply Array.ext_getElem?
    intro j
    rw [Array.getElem?_modify]
    by_cases hj : g = j
    · subst hj
      rw [if_pos rfl]
      unfold Blk at hb
      rw [hb]
      simp [onCells, hput]
    · rw [if_neg hj]
  have h9 : mapBlock (Sort.ahead w m) g (putCells encV 0 d) = Sort.ahead w m := by
    unfold mapBlock
    show ({ Sort.ahead w m with heap := w.heap.modify g (onCells (putCells encV 0 d)) } : World) = _
    rw [hheap]
    rfl
  rw [h9]
  rfl

/-- The list v reads as the decoded codes ps, in rows that can be read. -/
def PR (w : World) (g n cap : Nat) (ps : List Int) : Prop :=
  ∃ es : List El, es.length = n ∧ es.map El.xs = ps.map dec ∧ (∃ t cur, Blk w g t cur ∧ n ≤ cur.size ∧ ∀ k, k < n → cur[k]? = some (es.getD k E0).v) ∧ ∀ e ∈ es, GoodE w g e
theorem GoodE.ext {w w' : World} {g : Nat} {e : El} (h : GoodE w g e) (hx : Below w.heap.size w w') : GoodE w' g e := ⟨h.1, fun h0 => by
  obtain ⟨b, off, e1, hb, hne, hc⟩ := h.2 h0
  exact ⟨b, off, e1, Nat.lt_of_lt_of_le hb hx.size, hne, fun k hk => (hx.cell (p := ⟨b, off + k, none⟩) hb).trans (hc k hk)⟩⟩
theorem PR.below {w w' : World} {g n cap : Nat} {ps : List Int} (h : PR w g n cap ps) (hx : Below w.heap.size w w') : PR w' g n cap ps := by
  obtain ⟨es, h1, h2, ⟨t, cur, h3, h4, h5⟩, h6⟩ := h
  exact ⟨es, h1, h2, ⟨t, cur, h3.below hx h3.lt, h4, h5⟩, fun e he => (h6 e he).ext hx⟩
theorem PR.len {w : World} {g n cap : Nat} {ps : List Int} (h : PR w g n cap ps) : ps.length = n := by
  obtain ⟨es, h1, h2, -⟩ := h
  have := congrArg List.length h2
  rw [List.length_map, List.length_map] at this
  omega
theorem PR.of_own {w : World} {base : Nat} {v : Value} {es : List El} {ps : List Int} (h : OwnE w base v es) (hx : es.map El.xs = ps.map dec) (h0 : 0 < ps.length) : ∃ g cap, v = .slice (some ⟨g, 0, none⟩) ps.length cap ∧ PR w g ps.length cap ps := by
  have hlen : es.length = ps.length := by have := congrArg List.length hx; rwa [List.length_map, List.length_map] at this
  obtain ⟨g, cap, hv, -, -⟩ := h.1.form (by omega)
  subst hv
  rw [hlen]
  refine ⟨g, cap, rfl, es, hlen, hx, ?_, h.good fun e he => ?_⟩
  · rcases h.1.2 with ⟨hv, _⟩ | ⟨g', cap', cur, hv, hb, hh, hn, hm, hs, ht⟩
    · cases hv
    · cases hv
      refine ⟨_, cur, hh, by omega, fun k hk => ?_⟩
      have h9 := h.1.cellAt k (by omega)
      rw [Blk.cell (t := 51) (cs := cur) hh k, el_map (by omega)] at h9
      exact h9
  · have : e.xs ∈ es.map El.xs := List.mem_map_of_mem he
    rw [hx, List.mem_map] at this
    obtain ⟨c, _, e2⟩ := this
    rw [← e2]
    simp [dec]
set_option maxHeartbeats 1000000 in
/-- The library's search for a pair of colours: how many come before it. -/
theorem searchR_any (g n cap : Nat) (ps : List Int) (A : Option Addr) (q : Nat) (x y : Int) (w : World) (hn : n ≤ 1048576) (hp : PR w g n cap ps) (ha : AscI ps) (hy : 0 ≤ y ∧ y < 16) (hmem : 16 * x + y ∈ ps) (hA : IR w w.heap.size A [x, y]) (hAg : ∀ c u, A = some ⟨c, u, none⟩ → c ≠ g) :
    Calls Try.prog 193 #[.slice (some ⟨g, 0, none⟩) n cap, .slice A 2 q, .func (.func 104) #[] #[]] w fun e w' => ∃ b, e = .returned (.tuple #[.int .i64 (rk ps (16 * x + y) : Nat), .bool b]) ∧ Ext w w' := by
  obtain ⟨es, hl, hx, ⟨t, cur, hb, hcs, hcur⟩, hgood⟩ := hp
  have hlt := hb.lt
  let α := { e : El // GoodE w g e }
  letI : Inhabited α := ⟨⟨E0, GoodE.zero w g⟩⟩
  let d : Array α := (es.attach.map fun e => (⟨e.1, hgood e.1 e.2⟩ : α)).toArray
  have hds : d.size = n := by simp [d, hl]
  have hdv : d.toList.map Subtype.val = es := by simp [d, List.map_map, Function.comp_def]
  let encV : α → Value := fun e => e.1.v
  have hget : ∀ k, k < n → (d[k]!).1 = es.getD k E0 := fun k hk => by
    have h1 : (d.toList.map Subtype.val).getD k E0 = es.getD k E0 := by rw [hdv]
    rw [← h1]
    have h2 : k < d.size := by omega
    simp [List.getD, h2]
  have hcd : ∀ j, j < d.size → cur[j]? = some (encV d[j]!) := fun j hj => by
    rw [hcur j (by omega)]
    show some _ = some (El.v (d[j]!).1)
    rw [hget j (by omega)]
  have hsame : ∀ m os, Ext w (sortWorld encV w g 0 m d os) := fun m os => sort_same encV hb (by omega) hcd m os
  have hpl : ps.length = n := by have := congrArg List.length hx; rw [List.length_map, List.length_map] at this; omega
  have hxs : ∀ k, k < n → (es.getD k E0).xs = dec (ps.getD k 0) := fun k hk => by
    rw [← el_xs (by omega), hx]
    simp [List.getD, show k < ps.length by omega]
  have htd : dec (16 * x + y) = [x, y] := dec_of hy
  have eg : ∀ args w, (callFunc 104 args).run Try.prog w = .ok (.enter 104 args) w := enters_of Try.func104 (by kernel_rfl) rfl
  have hfar : ∀ m os (dk : Array α), w.grownBy (sortWorld encV w g 0 m dk os) (some g) := fun m os dk => by
    refine ⟨rfl, rfl, rfl, by simp [sortWorld, putRow, mapBlock, ahead], fun k hk hne => ?_⟩
    unfold sortWorld putRow
    rw [heap_grow_old _ _ (by simp [mapBlock, ahead]; omega)]
    have : g ≠ k := fun e => hne (by rw [e])
    simp [mapBlock, ahead, Array.getElem?_modify, this]
  have hgT : GoodE w g ⟨A, q, [x, y]⟩ := ⟨by simp, fun h0 => by
    obtain ⟨b, off, e1, hb1, hc1⟩ := hA h0
    exact ⟨b, off, e1, hb1, hAg b off e1, hc1⟩⟩
  have hcmp : CmpLaysT Try.prog 104 #[] encV (.slice A 2 q) (fun e => cmpL e.1.xs [x, y]) g 0 d.size w := fun m os dk hk e => by
    refine (compareR_any e.1.A A _ 2 e.1.q q e.1.xs [x, y] _ (by have := e.2.1; omega) (by omega) rfl rfl (e.2.ir (hfar m os dk)) (hgT.ir (hfar m os dk))).mono ?_
    rintro e w' ⟨rfl, rfl⟩
    exact ⟨rfl, 0, #[], by simp [World.drewN]⟩
  have hH : Holds encV w g 0 d := fun j hj => ⟨by rw [Nat.zero_add, hb.cell, hcd j hj], hb.frozen _⟩
  have hlt9 : ∀ k, k < n → decide (cmpL (d[k]!).1.xs [x, y] < 0) = decide (ps.getD k 0 < 16 * x + y) := fun k hk => by
    rw [hget k hk, hxs k hk, ← htd, lt_cmpL, ltL_dec]
  have hcon := Any.slices_BinarySearchFunc Try.searchR encV (fun _ => rfl) (.slice A 2 q) (fun e : α => cmpL e.1.xs [x, y]) 104 #[] g 0 cap d w eg hcmp hH hlt (by omega) (fun a b hab hbd h => by
    have h1 := hlt9 b (by omega)
    have h2 := hlt9 a (by omega)
    have h3 : ps.getD b 0 < 16 * x + y := by simpa [h] using h1
    have h4 : ps.getD a 0 ≤ ps.getD b 0 := by
      rcases Nat.eq_or_lt_of_le hab with rfl | hlt
      · exact Int.le_refl _
      · exact Int.le_of_lt (asc_lt ha hlt (by omega))
    have h5 : decide (ps.getD a 0 < 16 * x + y) = true := decide_eq_true (by omega)
    rw [h5] at h2
    simpa using h2)
  have hcnt : d.toList.countP (fun e => decide (cmpL e.1.xs [x, y] < 0)) = rk ps (16 * x + y) := by
    unfold rk
    have h1 : d.toList.countP (fun e => decide (cmpL e.1.xs [x, y] < 0)) = (es.map El.xs).countP (fun r => decide (cmpL r [x, y] < 0)) := by
      have e9 := congrArg (List.map El.xs) hdv
      rw [List.map_map] at e9
      rw [← e9]
      exact (List.countP_map (p := fun r => decide (cmpL r [x, y] < 0)) (f := El.xs ∘ Subtype.val) (l := d.toList)).symm
    rw [h1, hx, List.countP_map]
    refine List.countP_congr fun c _ => ?_
    simp only [Function.comp]
    rw [← htd, lt_cmpL, ltL_dec]
  rw [hds] at hcon
  change Calls Try.prog 193 _ _ _ at hcon
  refine hcon.mono ?_
  rintro e w' ⟨rfl, m, os, rfl⟩
  exact ⟨_, by rw [hcnt], hsame m os⟩
end

section
set_option linter.unusedVariables false
set_option linter.unusedSimpArgs false
open Go.RowKit Go.Sort

set_option maxRecDepth 100000 in
set_option maxHeartbeats 1000000 in
theorem colourAtW_any (p : Tl × Tl) (g n cap : Nat) (ps : List Int) (w : World) (hn : n ≤ 1048576) (hp : PR w g n cap ps) (ha : AscI ps) (hy : 0 ≤ p.2.1 ∧ p.2.1 < 16) (hmem : cw p ∈ ps) (hg : g < w.heap.size) :
    Calls Try.prog 167 #[.agg (encA8 p), .int .i64 0, .slice (some ⟨g, 0, none⟩) n cap] w fun e w' => e = .returned (.int .i64 (rk ps (cw p) : Nat)) ∧ Below w.heap.size w w' := by
  have hcw := fun W => coloursW_any p W
  have hse := fun A q W (hW : Below w.heap.size w W) (hA : IR W W.heap.size A [p.1.1, p.2.1]) (hAg : ∀ c u, A = some ⟨c, u, none⟩ → c ≠ g) => searchR_any g n cap ps A q p.1.1 p.2.1 W hn (hp.below hW) ha hy hmem hA hAg
  have hce : 16 * p.1.1 + p.2.1 = cw p := rfl
  rw [hce] at hse
  generalize rk ps (cw p) = r at hse ⊢
  obtain ⟨⟨a0, a1, a2, a3⟩, b0, b1, b2, b3⟩ := p
  simp only [encA8] at hcw ⊢
  simp only at hse hcw
  have HCW := Lib.hid hcw
  have HSE := Lib.hid hse
  clear hcw hse hce hmem hp ha
  go_enter Try.func167, Try.ntmps167
  go_wp2_with fail
  refine (HCW.out _).mono ?_
  rintro e w5 ⟨A5, rfl, hr5, hb5⟩
  have hx0 : Ext w (w.alloc (Obj.cells #[.int .i64 a0, .int .i64 a1, .int .i64 a2, .int .i64 a3, .int .i64 b0, .int .i64 b1, .int .i64 b2, .int .i64 b3] 90)) := (Ext.refl w).alloc _
  have hk5 := (hx0.below (Nat.le_refl _)).trans (hb5.mono (by simp))
  have hs := HSE.out A5 2 w5 hk5 hr5.ir (fun c u e1 => by
    obtain ⟨b', o', _, _, e2, h3, _⟩ := hr5 (by simp)
    rw [e1] at e2
    cases e2
    simp at h3
    omega)
  have HS := Lib.hid hs
  have HK5 := Lib.hid hk5
  clear hx0 hk5 hs hr5 hb5
  go_wp2_with fail
  refine HS.out.mono ?_
  rintro e w6 ⟨bb, rfl, hx6⟩
  have HX6 := Lib.hid hx6
  clear hx6
  go_wp2_with fail
  go_ret
  exact ⟨rfl, HK5.out.trans (HX6.out.below HK5.out.size)⟩
set_option maxRecDepth 100000 in
set_option maxHeartbeats 1000000 in
theorem colourAtE_any (p : Tl × Tl) (g n cap : Nat) (ps : List Int) (w : World) (hn : n ≤ 1048576) (hp : PR w g n cap ps) (ha : AscI ps) (hy : 0 ≤ p.2.2.2.1 ∧ p.2.2.2.1 < 16) (hmem : ce p ∈ ps) (hg : g < w.heap.size) :
    Calls Try.prog 167 #[.agg (encA8 p), .int .i64 2, .slice (some ⟨g, 0, none⟩) n cap] w fun e w' => e = .returned (.int .i64 (rk ps (ce p) : Nat)) ∧ Below w.heap.size w w' := by
  have hcw := fun W => coloursE_any p W
  have hse := fun A q W (hW : Below w.heap.size w W) (hA : IR W W.heap.size A [p.1.2.2.1, p.2.2.2.1]) (hAg : ∀ c u, A = some ⟨c, u, none⟩ → c ≠ g) => searchR_any g n cap ps A q p.1.2.2.1 p.2.2.2.1 W hn (hp.below hW) ha hy hmem hA hAg
  have hce : 16 * p.1.2.2.1 + p.2.2.2.1 = ce p := rfl
  rw [hce] at hse
  generalize rk ps (ce p) = r at hse ⊢
  obtain ⟨⟨a0, a1, a2, a3⟩, b0, b1, b2, b3⟩ := p
  simp only [encA8] at hcw ⊢
  simp only at hse hcw
  have HCW := Lib.hid hcw
  have HSE := Lib.hid hse
  clear hcw hse hce hmem hp ha
  go_enter Try.func167, Try.ntmps167
  go_wp2_with fail
  refine (HCW.out _).mono ?_
  rintro e w5 ⟨A5, rfl, hr5, hb5⟩
  have hx0 : Ext w (w.alloc (Obj.cells #[.int .i64 a0, .int .i64 a1, .int .i64 a2, .int .i64 a3, .int .i64 b0, .int .i64 b1, .int .i64 b2, .int .i64 b3] 90)) := (Ext.refl w).alloc _
  have hk5 := (hx0.below (Nat.le_refl _)).trans (hb5.mono (by simp))
  have hs := HSE.out A5 2 w5 hk5 hr5.ir (fun c u e1 => by
    obtain ⟨b', o', _, _, e2, h3, _⟩ := hr5 (by simp)
    rw [e1] at e2
    cases e2
    simp at h3
    omega)
  have HS := Lib.hid hs
  have HK5 := Lib.hid hk5
  clear hx0 hk5 hs hr5 hb5
  go_wp2_with fail
  refine HS.out.mono ?_
  rintro e w6 ⟨bb, rfl, hx6⟩
  have HX6 := Lib.hid hx6
  clear hx6
  go_wp2_with fail
  go_ret
  exact ⟨rfl, HK5.out.trans (HX6.out.below HK5.out.size)⟩
set_option maxRecDepth 100000 in
set_option maxHeartbeats 1000000 in
theorem colourAtN_any (p : Tl × Tl) (v : Value) (w : World) :
    Calls Try.prog 167 #[.agg (encA8 p), .int .i64 1, v] w fun e w' => e = .returned (.int .i64 p.1.2.1) ∧ Below w.heap.size w w' := by
  obtain ⟨⟨a0, a1, a2, a3⟩, b0, b1, b2, b3⟩ := p
  simp only [encA8]
  go_enter Try.func167, Try.ntmps167
  go_wp2_with fail
  go_ret
  exact ⟨rfl, ((Ext.refl w).alloc _).below (Nat.le_refl _)⟩
set_option maxRecDepth 100000 in
set_option maxHeartbeats 1000000 in
theorem colourAtS_any (p : Tl × Tl) (v : Value) (w : World) :
    Calls Try.prog 167 #[.agg (encA8 p), .int .i64 3, v] w fun e w' => e = .returned (.int .i64 p.2.2.2.2) ∧ Below w.heap.size w w' := by
  obtain ⟨⟨a0, a1, a2, a3⟩, b0, b1, b2, b3⟩ := p
  simp only [encA8]
  go_enter Try.func167, Try.ntmps167
  go_wp2_with fail
  go_ret
  exact ⟨rfl, ((Ext.refl w).alloc _).below (Nat.le_refl _)⟩

theorem run_arrayAt (W : World) (b o c : Nat) : (Instr.arrayAt 48 (.slice (some ⟨b, o, none⟩) 4 c)).run Try.prog W = .ok (.pointer (some ⟨b, o, none⟩)) W := by
  simp [Instr.arrayAt, run_underlying Try.underlying48]
theorem tl4 (a b c d : Int) : vis ([a, b, c, d].take 4) = vis [a, b, c, d] := rfl
theorem take4 (a b c d : Int) {k : Nat} (hk : k < 4) : [a, b, c, d].take (k + 1) = [a, b, c, d].take k ++ [[a, b, c, d].getD k 0] := itake_snoc _ (by simpa using hk)
theorem colourAt_any (p : Tl × Tl) (g n cap : Nat) (ps : List Int) (k : Nat) (w : World) (hk : k < 4) (hn : n ≤ 1048576) (hp : PR w g n cap ps) (ha : AscI ps) (hy : (0 ≤ p.2.1 ∧ p.2.1 < 16) ∧ 0 ≤ p.2.2.2.1 ∧ p.2.2.2.1 < 16) (hmem : cw p ∈ ps ∧ ce p ∈ ps) (hg : g < w.heap.size) :
    Calls Try.prog 167 #[.agg (encA8 p), .int .i64 (k : Int), .slice (some ⟨g, 0, none⟩) n cap] w fun e w' => e = .returned (.int .i64 ([(rk ps (cw p) : Int), p.1.2.1, (rk ps (ce p) : Int), p.2.2.2.2].getD k 0)) ∧ Below w.heap.size w w' := by
  obtain rfl | rfl | rfl | rfl : k = 0 ∨ k = 1 ∨ k = 2 ∨ k = 3 := by omega
  · exact colourAtW_any p g n cap ps w hn hp ha hy.1 hmem.1 hg
  · exact colourAtN_any p _ w
  · exact colourAtE_any p g n cap ps w hn hp ha hy.2 hmem.2 hg
  · exact colourAtS_any p _ w
set_option maxRecDepth 100000 in
set_option maxHeartbeats 2000000 in
theorem tile_any (p : Tl × Tl) (g n cap : Nat) (ps : List Int) (w : World) (hn : n ≤ 1048576) (hp : PR w g n cap ps) (ha : AscI ps) (hy : (0 ≤ p.2.1 ∧ p.2.1 < 16) ∧ 0 ≤ p.2.2.2.1 ∧ p.2.2.2.1 < 16) (hmem : cw p ∈ ps ∧ ce p ∈ ps) (hg : g < w.heap.size) :
    Calls Try.prog 137 #[.agg (encA8 p), .slice (some ⟨g, 0, none⟩) n cap] w fun e w' => e = .returned (tv (stT ps p)) ∧ Below w.heap.size w w' := by
  have hca := fun k W (hk : k < 4) (hW : Below w.heap.size w W) => colourAt_any p g n cap ps k W hk hn (hp.below hW) ha hy hmem (Nat.lt_of_lt_of_le hg hW.size)
  unfold stT tv
  generalize (rk ps (cw p) : Int) = z0 at hca ⊢
  generalize (rk ps (ce p) : Int) = z2 at hca ⊢
  obtain ⟨⟨a0, a1, a2, a3⟩, b0, b1, b2, b3⟩ := p
  simp only [encA8] at hca ⊢
  have HCA := Lib.hid hca
  clear hca hp ha hy hmem
  go_enter Try.func137, Try.ntmps137
  go_wp2_with fail
  have hx0 : Ext w ((w.alloc (Obj.cells #[.int .i64 a0, .int .i64 a1, .int .i64 a2, .int .i64 a3, .int .i64 b0, .int .i64 b1, .int .i64 b2, .int .i64 b3] 90)).alloc (Obj.cells #[.int .i64 0, .int .i64 0, .int .i64 0, .int .i64 0] 48)) := ((Ext.refl w).alloc _).alloc _
  have hb0 : Blk ((w.alloc (Obj.cells #[.int .i64 a0, .int .i64 a1, .int .i64 a2, .int .i64 a3, .int .i64 b0, .int .i64 b1, .int .i64 b2, .int .i64 b3] 90)).alloc (Obj.cells #[.int .i64 0, .int .i64 0, .int .i64 0, .int .i64 0] 48)) w.heap.size 90 #[.int .i64 a0, .int .i64 a1, .int .i64 a2, .int .i64 a3, .int .i64 b0, .int .i64 b1, .int .i64 b2, .int .i64 b3] := (Blk.new w _ _).ext ((Ext.refl _).alloc _)
  have hb1 : Blk ((w.alloc (Obj.cells #[.int .i64 a0, .int .i64 a1, .int .i64 a2, .int .i64 a3, .int .i64 b0, .int .i64 b1, .int .i64 b2, .int .i64 b3] 90)).alloc (Obj.cells #[.int .i64 0, .int .i64 0, .int .i64 0, .int .i64 0] 48)) (w.heap.size + 1) 48 #[.int .i64 0, .int .i64 0, .int .i64 0, .int .i64 0] := by have := Blk.new (w.alloc (Obj.cells #[.int .i64 a0, .int .i64 a1, .int .i64 a2, .int .i64 a3, .int .i64 b0, .int .i64 b1, .int .i64 b2, .int .i64 b3] 90)) 48 #[.int .i64 0, .int .i64 0, .int .i64 0, .int .i64 0]; simpa using this
  have hL : w.heap.size + 2 ≤ ((w.alloc (Obj.cells #[.int .i64 a0, .int .i64 a1, .int .i64 a2, .int .i64 a3, .int .i64 b0, .int .i64 b1, .int .i64 b2, .int .i64 b3] 90)).alloc (Obj.cells #[.int .i64 0, .int .i64 0, .int .i64 0, .int .i64 0] 48)).heap.size := by simp
  have HK := Lib.hid (hx0.below (Nat.le_refl _))
  have HB0 := Lib.hid hb0
  have HB1 := Lib.hid hb1
  clear hx0 hb0 hb1
  generalize ((w.alloc (Obj.cells #[.int .i64 a0, .int .i64 a1, .int .i64 a2, .int .i64 a3, .int .i64 b0, .int .i64 b1, .int .i64 b2, .int .i64 b3] 90)).alloc (Obj.cells #[.int .i64 0, .int .i64 0, .int .i64 0, .int .i64 0] 48)) = w2 at *
  go_loopw [5, 7] (fun v kk wr => ∃ k : Nat, k ≤ 4 ∧ kk = .int .i64 k ∧ wr.ownsRow w2.heap.size 2 1 v k (vis ([z0, a1, z2, b3].take k)) ∧ Below w2.heap.size w2 wr) (fun _ kk _ => 4 - (intOf kk).toNat)
  case atStart => exact ⟨0, Nat.zero_le _, rfl, World.ownsRow_nil _ _ _ _, Below.refl _ _⟩
  case round =>
    obtain ⟨k, hk, rfl, hown, hb⟩ := hrel
    have HO := Lib.hid hown
    have HBW := Lib.hid hb
    have hszw := hb.size
    have hbw := HK.out.trans (hb.mono HK.out.size)
    have HBWW := Lib.hid hbw
    by_cases hlt : k < 4
    · have hbk := HB0.out.below hb (by omega)
      have r0 := hbk.rd 0 rfl
      have r1 := hbk.rd 1 rfl
      have r2 := hbk.rd 2 rfl
      have r3 := hbk.rd 3 rfl
      have r4 := hbk.rd 4 rfl
      have r5 := hbk.rd 5 rfl
      have r6 := hbk.rd 6 rfl
      have r7 := hbk.rd 7 rfl
      have HC := Lib.hid (HCA.out k wr hlt hbw)
      have hsn := take4 z0 a1 z2 b3 hlt
      have b9 : (k : Int) < 4 := by omega
      obtain ⟨x, hX⟩ : ∃ x, x = [z0, a1, z2, b3].getD k 0 := ⟨_, rfl⟩
      rw [← hX] at HC hsn
      have HSN := Lib.hid hsn
      clear hown hb hbw hbk hsn hX
      go_wp2_with fail
      refine HC.out.mono ?_
      rintro e w5 ⟨rfl, hb5⟩
      have HO5 := Lib.hid (own_belowA HO.out hb5)
      have HB5 := Lib.hid (HBW.out.trans (hb5.mono hszw))
      have hs5 : w2.heap.size ≤ w5.heap.size := HB5.out.size
      clear hb5 r0 r1 r2 r3 r4 r5 r6 r7
      go_wp2_with (at_builtin; refine wpList_push rfl _ _ rfl w2.heap.size _ k _ rfl (iown_ext HO5.out ((Ext.refl _).alloc _)) w5.heap.size x rfl (heap_alloc_new w5 _) ?c1 ?c2 ?c3 ?_)
      case c1 => unfold maxLen; omega
      case c2 => omega
      case c3 => simp; omega
      intro v' w9 hown' hgrow hat
      rw [← vis_snoc, ← HSN.out] at hown'
      have N1 := Lib.hid hown'
      have N2 := Lib.hid ((HB5.out.trans (((Ext.refl w5).alloc _).below hs5)).grown hgrow (by simp; omega) (fun j hj => (HO5.out.lt j hj).1))
      clear hown' hgrow hat
      go_wp2_with fail
      go_roundw
      case rel => first | exact ⟨k + 1, by omega, by go_num, N1.out, N2.out⟩ | ((repeat apply Exists.intro); exact ⟨⟨k + 1, by omega, by go_num, N1.out, N2.out⟩, rfl⟩)
      case measure => simp [intOf]; omega
    · obtain rfl : k = 4 := by omega
      have hown4 := hown
      rw [tl4] at hown4
      obtain ⟨A6, cap6, hv6, hcp6, hw6⟩ := own_iwr hown4 rfl
      subst hv6
      obtain ⟨b6, o6, t6, cs6, hA6, hl6, hh6, hbk6, hc6⟩ := hw6 (by simp)
      subst hA6
      have y0 := (hbk6.cell (o6 + 0)).trans (hc6 0 (by simp))
      have y1 := (hbk6.cell (o6 + 1)).trans (hc6 1 (by simp))
      have y2 := (hbk6.cell (o6 + 2)).trans (hc6 2 (by simp))
      have y3 := (hbk6.cell (o6 + 3)).trans (hc6 3 (by simp))
      simp only [Nat.add_zero, List.getD_cons_zero, List.getD_cons_succ] at y0 y1 y2 y3
      have hbr := HB1.out.below hb (by omega)
      have q0 := hbr.rd 0 (v := .int .i64 0) rfl
      have z0' := hbr.frozen 0
      have q1 := hbr.rd 1 (v := .int .i64 0) rfl
      have z1' := hbr.frozen 1
      have q2 := hbr.rd 2 (v := .int .i64 0) rfl
      have z2' := hbr.frozen 2
      have q3 := hbr.rd 3 (v := .int .i64 0) rfl
      have z3' := hbr.frozen 3
      clear hown hown4 hb hbw hw6 hbk6 hc6 hbr
      have hra := fun W => run_arrayAt W b6 o6 cap6
      go_wp2_with fail
      refine bodyPost_ret (v := .agg #[.int .i64 z0, .int .i64 a1, .int .i64 z2, .int .i64 b3]) (by simp [results, Try.results137, go_sem, q0, q1, q2, q3, z0', z1', z2', z3']) rfl ⟨rfl, ?_⟩
      exact ((((HBWW.out.setCell (show w.heap.size ≤ w.heap.size + 1 by omega) _).setCell (show w.heap.size ≤ w.heap.size + 1 by omega) _).setCell (show w.heap.size ≤ w.heap.size + 1 by omega) _).setCell (show w.heap.size ≤ w.heap.size + 1 by omega) _)
end

section
set_option linter.unusedVariables false
set_option linter.unusedSimpArgs false
open Go.RowKit Go.Sort

set_option maxRecDepth 100000 in
set_option maxHeartbeats 4000000 in
theorem tilesOfStack_any (A : Option Addr) (n c : Nat) (l : List (Tl × Tl)) (w : World) (hn : n ≤ 65536) (hl : l.length = n) (hA : SR w w.heap.size A l) (hok : ∀ p ∈ l, (0 ≤ p.2.1 ∧ p.2.1 < 16) ∧ 0 ≤ p.2.2.2.1 ∧ p.2.2.2.1 < 16) :
    Calls Try.prog 93 #[.slice A n c] w fun e w' => ∃ v, e = .returned v ∧ w'.ownsRow w.heap.size 48 4 v n (flat (l.map (stT (sortI (codes l))))) ∧ Below w.heap.size w w' := by
  have HCP := Lib.hid (colourPairs_any A n c l w hn hl hA hok)
  have HA := Lib.hid hA
  have HOK := Lib.hid hok
  have HL := Lib.hid hl
  have HASC := Lib.hid (sortI_asc (codes l))
  have hmem : ∀ p ∈ l, cw p ∈ sortI (codes l) ∧ ce p ∈ sortI (codes l) := fun p hp => ⟨sortI_mem.2 (cw_mem hp), sortI_mem.2 (ce_mem hp)⟩
  have HMEM := Lib.hid hmem
  have hpl : (sortI (codes l)).length ≤ 131072 := by have h1 := sortI_len (codes l); have h2 := codes_len l; omega
  have hpos : 0 < n → 0 < (sortI (codes l)).length := fun h0 => by
    have h1 : l.getD 0 P0 ∈ l := by simp [List.getD, show 0 < l.length by omega]
    exact List.length_pos_of_mem (hmem _ h1).1
  have HPOS := Lib.hid hpos
  obtain ⟨ps, hps⟩ : ∃ ps, ps = sortI (codes l) := ⟨_, rfl⟩
  rw [← hps] at HCP HASC HMEM hpl HPOS ⊢
  clear hA hok hmem hpos hps hl
  go_enter Try.func93, Try.ntmps93
  go_wp2_with fail
  refine HCP.out.mono ?_
  rintro e w2 ⟨vp, es, rfl, hown, hxs, hb2⟩
  have HOE := Lib.hid hown
  have HXS := Lib.hid hxs
  have HK := Lib.hid hb2
  have hs2 := hb2.size
  clear hown hxs hb2
  go_wp2_with fail
  go_loopw [4, 11] (fun v ii wr => ∃ i : Nat, i ≤ n ∧ ii = .int .i64 i ∧ wr.ownsRow w2.heap.size 48 4 v i (flat ((l.take i).map (stT ps))) ∧ Below w2.heap.size w2 wr) (fun _ ii _ => n - (intOf ii).toNat)
  case atStart => exact ⟨0, Nat.zero_le _, rfl, by simpa [flat] using World.ownsRow_nil _ _ _ _, Below.refl _ _⟩
  case round =>
    obtain ⟨i, hi, rfl, hown, hb⟩ := hrel
    have HO := Lib.hid hown
    have HBW := Lib.hid hb
    have hszw := hb.size
    have hbw := HK.out.trans (hb.mono HK.out.size)
    clear hown
    by_cases hlt : i < n
    · obtain ⟨b0, o, hA, hbb, ht⟩ := (HA.out.below hbw (Nat.le_refl _)) (by have := HL.out; omega)
      subst hA
      have ht := enc8_cells (ht i (by have := HL.out; omega))
      have hsn := ptake_snoc l (k := i) (by have := HL.out; omega)
      have hml : l.getD i P0 ∈ l := by simp [List.getD, show i < l.length by have := HL.out; omega]
      obtain ⟨g, cap, hv, hpr⟩ := PR.of_own HOE.out HXS.out (HPOS.out (by omega))
      subst hv
      have hglt : g < w2.heap.size := by obtain ⟨_, _, _, ⟨_, _, h9, _⟩, _⟩ := hpr; exact h9.lt
      have hti := fun W (hW : Below w2.heap.size w2 W) => tile_any (l.getD i P0) g ps.length cap ps W (by omega) (hpr.below hW) HASC.out (HOK.out _ hml) (HMEM.out _ hml) (Nat.lt_of_lt_of_le hglt hW.size)
      generalize l.getD i P0 = p at *
      generalize hz : stT ps p = z at hti
      obtain ⟨z0, z1, z2, z3⟩ := z
      obtain ⟨⟨a0, a1, a2, a3⟩, b0', b1, b2, b3⟩ := p
      obtain ⟨t0, t1, t2, t3, t4, t5, t6, t7⟩ := ht
      simp only at t0 t1 t2 t3 t4 t5 t6 t7
      simp only [encA8, tv] at hti
      have HTI := Lib.hid hti
      have HSN := Lib.hid (show (l.take (i + 1)).map (stT ps) = (l.take i).map (stT ps) ++ [(z0, z1, z2, z3)] by rw [hsn, List.map_append, List.map_cons, List.map_nil, hz])
      have b9 : (i : Int) < (n : Int) := by omega
      clear hb hbw hsn hml hpr hti hz
      go_wp2_with fail
      have hx4 : Ext wr (wr.alloc (Obj.cells #[.int .i64 a0, .int .i64 a1, .int .i64 a2, .int .i64 a3, .int .i64 b0', .int .i64 b1, .int .i64 b2, .int .i64 b3] 90)) := (Ext.refl wr).alloc _
      have hb4 := HBW.out.trans (hx4.below hszw)
      have HB4 := Lib.hid hb4
      have HO4 := Lib.hid (own_ext HO.out hx4)
      refine (HTI.out _ hb4).mono ?_
      rintro e w5 ⟨rfl, hb5⟩
      have HO5 := Lib.hid (own_belowA HO4.out hb5)
      have HB5 := Lib.hid (HB4.out.trans (hb5.mono HB4.out.size))
      have hs5 : w2.heap.size ≤ w5.heap.size := HB5.out.size
      clear hb5 hb4 hx4 t0 t1 t2 t3 t4 t5 t6 t7
      go_wp2_with (at_builtin; refine wpList_pushT rfl _ _ rfl w2.heap.size _ i _ rfl (HO5.out.alloc _) w5.heap.size (z0, z1, z2, z3) rfl (heap_alloc_new w5 _) ?c1 ?c2 ?c3 ?_)
      case c1 => unfold maxLen; omega
      case c2 => omega
      case c3 => simp; omega
      intro v' w9 hown' hgrow hat
      rw [← flat_snoc] at hown'
      (try rw [← List.map_take] at hown')
      rw [← HSN.out] at hown'
      have N1 := Lib.hid hown'
      have N2 := Lib.hid ((HB5.out.trans (((Ext.refl w5).alloc _).below hs5)).grown hgrow (by simp; omega) (fun j hj => (HO5.out.lt j hj).1))
      clear hown' hgrow hat
      go_wp2_with fail
      go_roundw
      case rel => first | exact ⟨i + 1, by omega, by go_num, N1.out, N2.out⟩ | ((repeat apply Exists.intro); exact ⟨⟨i + 1, by omega, by go_num, N1.out, N2.out⟩, rfl⟩)
      case measure => simp [intOf]; omega
    · obtain rfl : i = n := by omega
      have hown := HO.out
      have htk : l.take i = l := by rw [← HL.out, List.take_length]
      rw [htk] at hown
      have N1 := Lib.hid (own_low hown hs2)
      have N2 := Lib.hid hbw
      clear hown hb hbw htk
      go_wp2_with fail
      go_ret
      exact ⟨_, rfl, N1.out, N2.out⟩
end
end Go.Proofs.Ytjoaoimebdkpaaa
