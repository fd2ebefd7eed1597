/- The keys of a map of tiles, collected. -/
import Derived.Test.YtpjlapialjjcdaaKy2
import Derived.Test.YtpjlapialjjcdaaJn3
import Derived.RangeFuncNested
namespace Go.Proofs.Ytpjlapialjjcdaa
set_option linter.unusedVariables false
set_option linter.unusedSimpArgs false
open Go.RowKit Go.Shelf

attribute [local go_sem] Oper.semAt_some

theorem own_base {W : World} {base base' : Nat} {e : TypeId} {size : Nat} {v : Value} {k : Nat} {xs : List Value} (h : W.ownsRow base e size v k xs) (hb : base' ≤ base) : W.ownsRow base' e size v k xs := by
  refine ⟨h.1, ?_⟩
  rcases h.2 with hn | ⟨g, cap, cur, hv, hbg, rest⟩
  · exact .inl hn
  · exact .inr ⟨g, cap, cur, hv, Nat.le_trans hb hbg, rest⟩
theorem enc_new (W : World) (x0 x1 x2 x3 : Int) : ∀ j u, (enc (x0, x1, x2, x3))[j]? = some u → (W.alloc (Obj.cells #[.int .i64 x0, .int .i64 x1, .int .i64 x2, .int .i64 x3] 51)).cell? ((⟨W.heap.size, 0, none⟩ : Addr).add j) = some u := by
  intro j u hj
  match j, hj with
  | 0, hj => simp [enc] at hj; subst hj; simp [Addr.add]
  | 1, hj => simp [enc] at hj; subst hj; simp [Addr.add]
  | 2, hj => simp [enc] at hj; subst hj; simp [Addr.add]
  | 3, hj => simp [enc] at hj; subst hj; simp [Addr.add]
  | n + 4, hj => simp [enc] at hj
set_option maxRecDepth 100000 in
set_option maxHeartbeats 4000000 in
theorem appendSeq_in (m : Nat) (hm : 3 ≤ m) (Bm b nn : Nat) (D0 : DataW Unit) (w : World) (hBm : Bm < w.heap.size) (hcell : w.cell? ⟨Bm, 0, none⟩ = some (.map (some b))) (hown : w.ownsMap Try.prog 51 (plainElem Try.prog 4) b nn D0) (hsz : Go.Maps.size D0 ≤ 65536) :
    CallsIn Fence.wide m Try.prog 93 #[.slice none 0 0, .func (.func 94) #[] #[.pointer (some ⟨Bm, 0, none⟩)]] w fun e W' => ∃ v ss, e = .returned v ∧ SetT D0 ss ∧ W'.ownsRow w.heap.size 51 4 v ss.length (flat ss) ∧ Below w.heap.size w W' := by
  obtain ⟨i0, hi0, hz0, hz1, hz2⟩ := info_parts info_tile
  have h1 : 1 ≤ m := by omega
  refine callsIn_of_wp_marks Try.func93 rfl trivial ?_ rfl
  simp only [Try.ntmps93, List.size_toArray, List.length_cons, List.length_nil, Nat.reduceAdd, Nat.reduceSub, Array.replicate_succ, Array.replicate_zero, List.push_toArray, List.append_toArray, List.nil_append, List.cons_append]
  gi_wp2
  obtain ⟨W3, hW3⟩ : ∃ W3, w.alloc (Obj.cells #[.slice none 0 0] 29) = W3 := ⟨_, rfl⟩
  have hs3 : W3.heap.size = w.heap.size + 1 := by rw [← hW3]; simp
  have hx3 : Ext w W3 := by rw [← hW3]; exact (Ext.refl w).alloc _
  have bO : Boxed W3 w.heap.size 29 (.slice none 0 0) := by rw [← hW3]; exact Boxed.new w _ _
  rw [hW3]
  clear hW3
  have hbel := hx3.below (Nat.le_refl _)
  have hown3 : W3.ownsMap Try.prog 51 (plainElem Try.prog 4) b nn D0 := ownsMap_ext hown hx3
  refine wpIn_rangeFunc_ownH rfl h1 (gf := 94) (lb := #[.pointer (some ⟨Bm, 0, none⟩)]) rfl trivial (enters_of Try.func94 (by kernel_rfl) rfl)
    (keysT_stops (m - 1) Bm b nn D0 (by omega) W3 (by omega) ((hbel.cell (p := ⟨Bm, 0, none⟩) hBm).trans hcell) hown3)
    walksK_t (fun W l o o' hl ho hc hw => KeepsWalks.putObj _ ho hw) (Below.refl _ _) (fun _ => rfl)
    (fun pre W => (∃ v, Boxed W w.heap.size 29 v ∧ W.ownsRow W3.heap.size 51 4 v pre.length (flat pre) ∧ True) ∧ Below w.heap.size W3 W)
    (fun _ _ _ => False)
    (OwnFrom.and (Own.from (holdsRow_own W3.heap.size w.heap.size 29 51 4 (fun pre => pre.length) (fun pre => flat pre) (fun _ _ => True)) _) (ownFrom_below (by omega) (by omega)))
    (fun _ _ _ _ _ hs _ _ => hs)
    ⟨⟨_, bO, World.ownsRow_nil _ _ _ _, trivial⟩, Below.refl _ _⟩
    (fun x a' W => ∃ Bx, W3.heap.size ≤ Bx ∧ Blk W Bx 51 (encA x) ∧ a' = { tmps := #[.slice none 0 0, (.func (.func 94) #[] #[.pointer (some ⟨Bm, 0, none⟩)]), .pointer (some ⟨w.heap.size, 0, none⟩), undef, .slice none 0 0, .pointer (some ⟨Bx, 0, none⟩), (.func (.func 94) #[] #[.pointer (some ⟨Bm, 0, none⟩)]), tv x, undef, undef, undef, undef, undef], defers := [] })
    (by rintro x a' _ W W' row ⟨Bx, e1, e2, e3⟩ hg hr; exact ⟨Bx, e1, (hg.block Bx e2.lt (fun e => by obtain ⟨_, o, ho, hc⟩ := hr Bx e.symm; rw [show W.heap[Bx]? = _ from e2] at ho; cases ho; cases hc)).trans e2, e3⟩) ?assign ?body ?done ?stop
  case assign =>
    rintro l pre ⟨x0, x1, x2, x3⟩ W K ⟨⟨v, hv, hrow, -⟩, hB⟩ hK
    simp only [tv]
    have hWs := hB.size
    gi_wp2
    exact hK _ _ ((KeepsOthers.alloc _ _).from _) (KeepsWalks.alloc _ _) ⟨⟨v, hv.alloc _, hrow.alloc _, trivial⟩, hB.alloc (by omega) _⟩ ⟨W.heap.size, by omega, Blk.new W _ _, rfl⟩
  case body =>
    rintro l pre x a' W hl ⟨r, hr⟩ ⟨⟨v, hv, hrow, -⟩, hB⟩ ⟨Bx, hBx, bX, rfl⟩ hlt
    have hc := hv.cell
    have hlow := own_base hrow (show w.heap.size ≤ W3.heap.size by omega)
    have hWs := hB.size
    have hW3 := (hrow.lt)
    obtain ⟨x0, x1, x2, x3⟩ := x
    simp only [tv]
    have y0 := bX.rd 0 (v := .int .i64 x0) rfl
    have y1 := bX.rd 1 (v := .int .i64 x1) rfl
    have y2 := bX.rd 2 (v := .int .i64 x2) rfl
    have y3 := bX.rd 3 (v := .int .i64 x3) rfl
    gi_wp2_with (gi_at_builtin; refine wpListIn_append_own _ rfl _ _ 29 rfl W3.heap.size 51 i0 _ 4 32 Try.underlying29 hi0 hz0 hz1 hz2 rfl (by decide) _ _ _ rfl (hrow.alloc _) ⟨W.heap.size, 0, none⟩ 1 1 (enc (x0, x1, x2, x3)) rfl rfl (enc_new _ _ _ _ _) (by simp [Value.oneCell', enc]) (by unfold maxLen; omega) (by omega) (by simp; omega) ?_; intro v' w1 hown' hgrow _; obtain ⟨g', cap', rfl⟩ := ownsRow_succ hown'; have hlow' := own_base hown' (show w.heap.size ≤ W3.heap.size by omega); obtain ⟨hv1, hv2, hr2, hk2, hb2⟩ := hv.appended (by decide) hlow (by omega) (Nat.le_refl _) hlow' hgrow; have hc1 := hv1.cell; have hf1 := hv1.frozen)
    refine ⟨hk2.from _, hk2.walks, ⟨_, hv2, ?_, trivial⟩, hB.trans hb2⟩
    have := hown'.kept (grownBy_setCell' w1 w.heap.size (.slice (some ⟨g', 0, none⟩) (pre.length + 1) cap')) (.inr (hv1.not_row (by decide) hown').symm)
    rw [flat_snoc]
    simpa using this
  case done =>
    rintro D ys W hD hset ⟨⟨v, hv, hrow, -⟩, hB⟩ hK
    have hc := hv.cell
    gi_wp2
    refine ⟨by simp, .inl ⟨_, _, rfl, run_takeDeferred hK, ?_⟩⟩
    have hb4 := belowK_b (w := w) (Nat.le_refl _) W D _ (.deferred none) (by omega) hK rfl rfl
    exact ⟨_, results_tmp rfl _ _ _, v, ys, rfl, hset, ownsRow_putObj (own_base hrow (by omega)) _ hK rfl, hbel.trans (hB.trans hb4)⟩
  case stop =>
    rintro D c pre W _ _ h _
    exact h.elim
set_option maxRecDepth 100000 in
/-- 'slices.Collect(maps.Keys(m))'. -/
theorem collect_any (Bm b nn : Nat) (D0 : DataW Unit) (w : World) (hBm : Bm < w.heap.size) (hcell : w.cell? ⟨Bm, 0, none⟩ = some (.map (some b))) (hown : w.ownsMap Try.prog 51 (plainElem Try.prog 4) b nn D0) (hsz : Go.Maps.size D0 ≤ 65536) :
    Calls Try.prog 70 #[.func (.func 94) #[] #[.pointer (some ⟨Bm, 0, none⟩)]] w fun e W' => ∃ v ss, e = .returned v ∧ SetT D0 ss ∧ W'.ownsRow w.heap.size 51 4 v ss.length (flat ss) ∧ Below w.heap.size w W' := by
  refine (callsIn_wide (n := 8)).1 ?_
  refine callsIn_of_wp Try.func70 rfl trivial ?_ rfl
  simp only [Try.ntmps70, List.size_toArray, List.length_cons, List.length_nil, Nat.reduceAdd, Nat.reduceSub, Array.replicate_succ, Array.replicate_zero, List.push_toArray, List.append_toArray, List.nil_append, List.cons_append]
  gi_wp2
  refine ⟨trivial, (appendSeq_in 7 (by omega) Bm b nn D0 w hBm hcell hown hsz).mono ?_⟩
  rintro e w' ⟨v, ss, rfl, hS, hrow, hb⟩
  gi_wp2
  go_ret
  exact ⟨v, ss, rfl, hS, hrow, hb⟩
end Go.Proofs.Ytpjlapialjjcdaa
