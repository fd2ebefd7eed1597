/- The program's own function that changes each tile of a set. -/
import Derived.Test.YtdkodmmbgflijaaSortF
namespace Go.Proofs.Ytdkodmmbgflijaa
set_option linter.unusedVariables false
set_option linter.unusedSimpArgs false
open Go.RowKit Go.Sort

set_option maxRecDepth 100000 in
set_option maxHeartbeats 1000000 in
/-- The program's loop that changes each tile, at a set. -/
theorem changedSet_yes (c0 : Int) (A : Option Addr) (n c : Nat) (ts : List Tl) (f : Tl → Tl) (g : Nat) (cb : Array Value) (w : World) (hn : n ≤ 65536) (hl : ts.length = n) (hA : TR w w.heap.size A ts)
    (eg : ∀ args w, (callFunc g args).run Try.prog w = .ok (.enter g args) w)
    (hf : ∀ W, Below w.heap.size w W → ∀ k, k < n → Calls Try.prog g (#[tv (ts.getD k T0)] ++ cb) W fun e w' => e = .returned (tv (f (ts.getD k T0))) ∧ Ext W w')
    (hset : isSet c0 ts = true) :
    Calls Try.prog 59 #[.agg #[.int .i64 c0, .slice A n c], .func (.func g) #[] cb] w (SetRes w c0 (sortM (ts.map f)) 0) := by
  obtain ⟨i0, hi, hz0, hz1, hz2⟩ := info_parts info_tile
  have HF := Lib.hid hf
  clear hf
  have his : ∀ W, Ext w W → Calls Try.prog 18 #[.agg #[.int .i64 c0, .slice A n c]] W _ := fun W hW => isSet_any c0 A n c ts W (by omega) hl ((hA.ext hW (Nat.le_refl _)).more (hW.below (Nat.le_refl _)).size)
  have HI := Lib.hid his
  clear his
  rw [hset] at HI
  unfold SetRes
  go_enter Try.func59, Try.ntmps59
  go_wp2_with fail
  refine (HI.out _ (by repeat (first | exact Ext.refl _ | refine Ext.drewN ?_ _ | refine Ext.alloc ?_ _ | refine Ext.drew ?_ | refine Ext.grow ?_ _))).mono ?_
  rintro e w1 ⟨rfl, hx⟩
  obtain ⟨W0, hW0⟩ : ∃ W0, ((w.alloc (Obj.cells #[.int .i64 c0, .slice A n c] 29)).alloc (Obj.cells #[.int .i64 0, .slice none 0 0] 29)) = W0 := ⟨_, rfl⟩
  have hs0 : W0.heap.size = w.heap.size + 2 := by rw [← hW0]; simp
  have hE : Ext w W0 := by rw [← hW0]; exact ((Ext.refl w).alloc _).alloc _
  have hB0 : Blk W0 w.heap.size 29 #[.int .i64 c0, .slice A n c] := by rw [← hW0]; exact (Blk.new w _ _).ext ((Ext.refl _).alloc _)
  have hR0 : Blk W0 (w.heap.size + 1) 29 #[.int .i64 0, .slice none 0 0] := by rw [← hW0]; have := Blk.new (w.alloc (Obj.cells #[.int .i64 c0, .slice A n c] 29)) 29 #[.int .i64 0, .slice none 0 0]; simpa using this
  rw [hW0] at hx
  have b1 := (hB0.ext hx).rd 1 rfl
  have b0 := (hB0.ext hx).rd 0 rfl
  have h01 := hx.below (Nat.le_refl _)
  have HH := Lib.hid (And.intro hs0 (And.intro hE (And.intro hB0 (And.intro hR0 h01))))
  clear hW0 hs0 hE hB0 hR0 hx h01
  go_wp2_with fail
  clear b0 b1
  go_loopw [6, 16] (fun v i wr => ∃ k : Nat, k ≤ n ∧ i = .int .i64 k ∧ wr.ownsRow W0.heap.size 60 4 v k (flat ((ts.map f).take k)) ∧ Below W0.heap.size W0 wr) (fun _ i _ => n - (intOf i).toNat)
  case atStart => exact ⟨0, Nat.zero_le _, rfl, World.ownsRow_nil _ _ _ _, HH.out.2.2.2.2⟩
  case round =>
    obtain ⟨k, hk, rfl, hown, hb⟩ := hrel
    have HO := Lib.hid hown
    have HB := Lib.hid hb
    by_cases hlt : k < n
    · obtain ⟨b, off, rfl, hbl, hc⟩ := ((hA.ext HH.out.2.1 (Nat.le_refl _)).below hb (by have := HH.out.1; omega)) (by omega)
      have hc := hc k (by omega)
      have hF : ∀ W, Below W0.heap.size W0 W → Calls Try.prog g (#[tv (ts.getD k T0)] ++ cb) W _ := fun W hW => HF.out W ((HH.out.2.1.below (Nat.le_refl _)).trans (hW.mono (by have := HH.out.1; omega))) k hlt
      clear hown hb hA
      generalize hY : f (ts.getD k T0) = y at hF
      obtain ⟨y0, y1, y2, y3⟩ := y
      have EY := Lib.hid hY
      clear hY
      generalize ts.getD k T0 = x at hc hF
      obtain ⟨x0, x1, x2, x3⟩ := x
      obtain ⟨c0, c1, c2, c3⟩ := hc
      simp only at c0 c1 c2 c3
      simp only [tv] at hF
      have HF' := Lib.hid hF
      clear hF
      go_wp2_with fail
      refine (HF'.out _ (HB.out.alloc HB.out.size _)).mono ?_
      rintro e w2 ⟨rfl, hx2⟩
      have O2 := Lib.hid (own_ext (own_ext HO.out ((Ext.refl wr).alloc _)) hx2)
      have B2 := Lib.hid ((HB.out.alloc HB.out.size _).trans (hx2.below (by have := HB.out.size; simp; omega)))
      clear hx2 HO HB HF' c0 c1 c2 c3
      go_wp2_with (at_builtin; refine wpList_append_own _ rfl _ _ 27 rfl W0.heap.size 60 i0 _ 4 32 Try.underlying27 hi hz0 hz1 hz2 rfl (by decide) _ _ _ rfl (O2.out.alloc _) ⟨w2.heap.size, 0, none⟩ 1 1 [.int .i64 y0, .int .i64 y1, .int .i64 y2, .int .i64 y3] rfl rfl ?c1 ?c2 ?c3 ?c4 ?c5 ?_)
      case c1 => exact World.news_of_block (cs := #[.int .i64 y0, .int .i64 y1, .int .i64 y2, .int .i64 y3]) (t := 60) (fr := (0, 0)) (heap_alloc_new w2 _)
      case c2 => exact enc_one (y0, y1, y2, y3)
      case c3 => unfold maxLen; omega
      case c4 => omega
      case c5 => have := B2.out.size; simp; omega
      intro v' w3 hown' hgrow _
      have O3 := Lib.hid (own_step (us := ts.map f) (k := k) (y := (y0, y1, y2, y3)) (by simp; omega) (by rw [map_getD ts f (by omega)]; exact EY.out.symm) hown')
      have B3 := Lib.hid ((B2.out.alloc B2.out.size _).grown hgrow (by have := B2.out.size; simp; omega) (fun j hj => (O2.out.lt j hj).1))
      clear hown' hgrow O2 B2
      go_wp2_with fail
      go_roundw
      case rel => exact ⟨k + 1, by omega, by go_num, O3.out, B3.out⟩
      case measure => simp [intOf]; omega
    · clear hown hb hA
      have hB0 := HH.out.2.2.1.below HB.out HH.out.2.2.1.lt
      have b0 := hB0.rd 0 rfl
      clear hB0
      have hmk := HO.out
      obtain rfl : k = n := by omega
      rw [List.take_of_length_le (by simp; omega)] at hmk
      obtain ⟨A2, cap2, rfl, htw⟩ := own_tw hmk (by simp; omega)
      have HM := Lib.hid (sortedSet_any c0 k cap2 A2 (ts.map f) W0.heap.size wr (by simp; omega) hn HB.out.size hmk)
      clear hmk htw HO
      go_wp2_with fail
      refine HM.out.mono ?_
      rintro e w2 ⟨rfl, hown2, hb2⟩
      have L2 := Lib.hid (HB.out.trans hb2)
      obtain ⟨A3, cap3, hv3, htw3⟩ := own_tw hown2 (by simp [sortM_len]; omega)
      cases hv3
      have T2 := Lib.hid htw3
      have hR2 := HH.out.2.2.2.1.below L2.out (by have := HH.out.1; omega)
      have r0 := hR2.rd 0 rfl
      have r1 := hR2.rd 1 rfl
      have z0 := hR2.frozen 0
      have z1 := hR2.frozen 1
      clear hR2 hown2 hb2 htw3 b0
      go_wp2_with fail
      have hlen : (sortM (ts.map f)).length = k := by simp [sortM_len]; omega
      refine bodyPost_ret (v := .tuple #[.agg #[.int .i64 c0, .slice A2 k cap2], .int .i64 0]) (by simp [results, Try.results59, go_sem, r0, r1, z0, z1]) rfl ⟨A2, cap2, by rw [hlen], ?_, ?_⟩
      · have h0 : Below w.heap.size w w2 := (HH.out.2.1.below (Nat.le_refl _)).trans (L2.out.mono (by have := HH.out.1; omega))
        exact (h0.setCell (by simp) _).setCell (by simp) _
      · have h2 := HH.out.1
        exact ((T2.out.far (by show _ < _; simp; omega) _).far (by show _ < _; simp; omega) _).low (by omega)

set_option maxHeartbeats 400000 in
theorem changedSet_no (c0 : Int) (A : Option Addr) (n c : Nat) (ts : List Tl) (g : Nat) (cb : Array Value) (w : World) (hn : n ≤ 1048576) (hl : ts.length = n) (hA : TR w w.heap.size A ts) (hset : isSet c0 ts = false) :
    Calls Try.prog 59 #[.agg #[.int .i64 c0, .slice A n c], .func (.func g) #[] cb] w (SetRes w 0 [] 1) := by
  have his : ∀ W, Ext w W → Calls Try.prog 18 #[.agg #[.int .i64 c0, .slice A n c]] W _ := fun W hW => isSet_any c0 A n c ts W (by omega) hl ((hA.ext hW (Nat.le_refl _)).more (hW.below (Nat.le_refl _)).size)
  have HI := Lib.hid his
  clear his hA
  rw [hset] at HI
  unfold SetRes
  go_enter Try.func59, Try.ntmps59
  go_wp2_with fail
  refine (HI.out _ (((Ext.refl w).alloc _).alloc _)).mono ?_
  rintro e w1 ⟨rfl, hx⟩
  have X1 := Lib.hid ((((Ext.refl w).alloc _).alloc _).trans hx)
  have hQ : Blk w1 (w.heap.size + 1) 29 #[.int .i64 0, .slice none 0 0] := by have := (Blk.new (w.alloc (Obj.cells #[.int .i64 c0, .slice A n c] 29)) 29 #[.int .i64 0, .slice none 0 0]).ext hx; simpa using this
  have r0 := hQ.rd 0 rfl
  have r1 := hQ.rd 1 rfl
  have z0 := hQ.frozen 0
  have z1 := hQ.frozen 1
  clear hx hQ
  go_wp2_with fail
  refine bodyPost_ret (v := .tuple #[.agg #[.int .i64 0, .slice none 0 0], .int .i64 1]) (by simp [results, Try.results59, go_sem, r0, r1, z0, z1]) rfl ⟨none, 0, rfl, ?_, fun h => absurd h (Nat.lt_irrefl _)⟩
  exact ((X1.out.below (Nat.le_refl _)).setCell (by simp) _).setCell (by simp) _
end Go.Proofs.Ytdkodmmbgflijaa
