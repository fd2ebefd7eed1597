/- Lists of blocks: the program's growth. -/
import Derived.Test.YtnmgkchkbchfaaaBk0
import Derived.Test.YtnmgkchkbchfaaaAppT
import Derived.RangeFuncBox
import Derived.Deep.RegionLaw
import Derived.Deep.AppendLies
namespace Go.Proofs.Ytnmgkchkbchfaaa
set_option linter.unusedVariables false
set_option linter.unusedSimpArgs false
open Go.RowKit Go.Sort

theorem info_four : (Try.prog.info? 66).map (fun i => (i.zero, i.size, i.bytes)) = some (some (.agg #[.int .i64 0, .int .i64 0, .int .i64 0, .int .i64 0]), 4, 32) := by kernel_rfl
theorem run_arrayAt4 (W : World) (b o c : Nat) : (Instr.arrayAt 66 (.slice (some ⟨b, o, none⟩) 4 c)).run Try.prog W = .ok (.pointer (some ⟨b, o, none⟩)) W := by
  simp [Instr.arrayAt, run_underlying Try.underlying66]
theorem reads_newB {w : World} {g : Nat} {t : Tl} (hb : w.heap[g]? = some (.cells (encA t) 66 (0, 0))) : Reads w w.heap.size 4 (some ⟨g, 0, none⟩) 1 (enc t) := by
  have hlt : g < w.heap.size := by
    rcases Nat.lt_or_ge g w.heap.size with hlt | hge
    · exact hlt
    · rw [Array.getElem?_eq_none hge] at hb; cases hb
  refine ⟨rfl, fun _ => ⟨_, rfl, hlt, fun j u hu => ?_⟩⟩
  have := cell_of_row w g j (encA t) 66 (0, 0) hb
  rw [Go.WideShapes.add_plain]
  simp only [Nat.zero_add]
  rw [this]
  rw [← hu]
  simp [encA, enc]
/-- 'append(blocks, block)' onto a list of blocks that the call owns, inside a region that draws its order. -/
theorem step_pushB {w : World} {ops : Array Oper} {o : Oper} {a : Act} {K : Act → World → Prop} {Q : Exit → Act → World → Prop} {E : Prop} (hgd : o.guard = none) (s x : Operand)
    (ho : o.op = .call { callee := .builtin .append, args := #[s, x], argTypes := #[59, 59] })
    (base : Nat) (v : Value) (n : Nat) (xs : List Value) (hs : a.eval s = v) (hown : w.ownsRow base 66 4 v n xs)
    (g : Nat) (t : Tl) (hx : a.eval x = .slice (some ⟨g, 0, none⟩) 1 1) (hb : w.heap[g]? = some (.cells (encA t) 66 (0, 0)))
    (h63 : n + 1 ≤ maxLen) (hbytes : (n + 1) * 32 ≤ 140737488355328) (hbase : base ≤ w.heap.size)
    (h : ∀ v' w', w'.ownsRow base 66 4 v' (n + 1) (xs ++ enc t) → w.grownBy w' v.ownBlock → (v'.ownBlock = v.ownBlock ∨ v'.ownBlock = some w.heap.size) → K (a.put o.dst v') w') :
    if Region.wanted o (yielded ops a.tmps) = true then Oper.wp Try.prog o a w K Q else E := by
  obtain ⟨i0, hi, hz0, hz1, hz2⟩ := info_parts info_four
  exact step_append_any w hgd s x _ ho base 66 i0 _ 4 32 Try.underlying59 hi hz0 hz1 hz2 rfl (by decide) v n xs hs hown w.heap.size _ 1 _ (enc t) hx (reads_newB hb) (enc_one t) h63 hbytes hbase h
theorem own_twB {w : World} {base n : Nat} {v : Value} {ts : List Tl} (h : w.ownsRow base 66 4 v n (flat ts)) (hl : ts.length = n) :
    ∃ A cap, v = .slice A n cap ∧ TW w base A ts := by
  rcases h.2 with ⟨rfl, h0⟩ | ⟨g, cap, cur, rfl, hb, hg, hn, hm, hs, ht⟩
  · subst h0
    exact ⟨none, 0, rfl, fun h1 => by omega⟩
  · refine ⟨_, cap, rfl, fun _ => ⟨g, 0, _, cur, rfl, hb, hg, fun k hk => ?_⟩⟩
    have key : ∀ j, j < 4 → cur[k * 4 + j]? = (enc (ts.getD k T0))[j]? := by
      intro j hj
      rw [← flat_get ts hk hj, ← ht, List.getElem?_take, if_pos (by omega)]
      simp
    simp only [Nat.zero_add]
    exact ⟨key 0 (by omega), key 1 (by omega), key 2 (by omega), key 3 (by omega)⟩
theorem own_belowB {w w' : World} {base n size : Nat} {e : TypeId} {v : Value} {xs : List Value} (h : w.ownsRow base e size v n xs) (hx : Below w.heap.size w w') : w'.ownsRow base e size v n xs := by
  refine ⟨h.1, ?_⟩
  rcases h.2 with h0 | ⟨g, cap, cur, hv, hb, hg, r⟩
  · exact .inl h0
  · have hlt : g < w.heap.size := by
      rcases Nat.lt_or_ge g w.heap.size with hlt | hge
      · exact hlt
      · rw [Array.getElem?_eq_none hge] at hg; cases hg
    exact .inr ⟨g, cap, cur, hv, hb, (hx.block g hlt).trans hg, r⟩
theorem own_setB {w : World} {base n size : Nat} {e : TypeId} {v : Value} {xs : List Value} (h : w.ownsRow base e size v n xs) {p : Addr} (hp : p.block < base) (u : Value) : (w.setCell p u).ownsRow base e size v n xs := by
  refine ⟨h.1, ?_⟩
  rcases h.2 with h0 | ⟨g, cap, cur, hv, hb, hg, r⟩
  · exact .inl h0
  · exact .inr ⟨g, cap, cur, hv, hb, (Below.heap_setCell w p u g (by omega)).trans hg, r⟩
theorem grownFzB {w w' : World} {row : Option Nat} (hg : w.grownBy w' row) {g i : Nat} (hlt : g < w.heap.size) (hne : some g ≠ row) (h : w.frozen? ⟨g, i, none⟩ = false) : w'.frozen? ⟨g, i, none⟩ = false := (World.frozen?_of_block (hg.block _ hlt hne)).trans h
theorem alloc_leB (w : World) (ob : Obj) : w.heap.size ≤ (w.alloc ob).heap.size := by simp

/-- A growth, with the list of blocks in memory of its own. -/
def GYes (w : World) (c0 : Int) (A : Option Addr) (n c : Nat) (bl : List Tl) (e : Ending) (w' : World) : Prop :=
  ∃ G g, e = .returned (.tuple #[.agg #[.int .i64 c0, .slice A n c, .slice G bl.length g], .int .i64 0]) ∧ Below w.heap.size w w' ∧ TW w' w.heap.size G bl
/-- No growth, with a code. -/
def GNo (w : World) (code : Int) (e : Ending) (w' : World) : Prop :=
  e = .returned (.tuple #[.agg #[.int .i64 0, .slice none 0 0, .slice none 0 0], .int .i64 code]) ∧ Below w.heap.size w w'
set_option maxRecDepth 100000 in
set_option maxHeartbeats 8000000 in
theorem growthOf_any (c0 : Int) (A : Option Addr) (n c : Nat) (ts : List Tl) (B : Option Addr) (m d : Nat) (bs : List (List Int)) (w : World) (hn : n ≤ 1048576) (hl : ts.length = n) (hA : TR w w.heap.size A ts) (hm : m ≤ 1048576) (hlr : bs.length = m) (hB : IRR w w.heap.size B bs) (hrow : ∀ k, k < m → (bs.getD k []).length ≤ 1048576)
    (QQ : Ending → World → Prop) (hQ0 : bCode c0 ts bs = 0 → ∀ e w', GYes w c0 A n c (blkL bs) e w' → QQ e w') (hQ1 : bCode c0 ts bs ≠ 0 → ∀ e w', GNo w (bCode c0 ts bs) e w' → QQ e w') :
    Calls Try.prog 54 #[.agg #[.int .i64 c0, .slice A n c], .slice B m d] w QQ := by
  have mixed : Try.prog.follows .mixedOrders = true := by kernel_rfl
  have his : ∀ W, Below w.heap.size w W → Calls Try.prog 90 #[.agg #[.int .i64 c0, .slice A n c]] W _ := fun W hW => isSet_any c0 A n c ts W (by omega) hl ((hA.below hW (Nat.le_refl _)).more hW.size)
  have HI := Lib.hid his
  have HQ0 := Lib.hid hQ0
  have HQ1 := Lib.hid hQ1
  clear his hQ0 hQ1
  have HLE := Lib.hid (show w.heap.size ≤ w.heap.size + 1 by omega)
  cases hs : isSet c0 ts with
  | false =>
    rw [hs] at HI
    rw [bc1 hs] at HQ1
    have HQ := Lib.hid (HQ1.out (by decide))
    clear hs HQ0 HQ1 hB hA
    go_enter Try.func54, Try.ntmps54
    go_wp2_with fail
    obtain ⟨W0, hW0⟩ : ∃ W0, (w.alloc (Obj.cells #[.int .i64 c0, .slice A n c] 32)).alloc (Obj.cells #[.int .i64 0, .slice none 0 0, .slice none 0 0] 61) = W0 := ⟨_, rfl⟩
    have hx0 : Ext w W0 := by rw [← hW0]; exact ((Ext.refl w).alloc _).alloc _
    have hS : Blk W0 w.heap.size 32 #[.int .i64 c0, .slice A n c] := by rw [← hW0]; exact (Blk.new w _ _).ext ((Ext.refl _).alloc _)
    have hR : Blk W0 (w.heap.size + 1) 61 #[.int .i64 0, .slice none 0 0, .slice none 0 0] := by
      rw [← hW0]
      have := Blk.new (w.alloc (Obj.cells #[.int .i64 c0, .slice A n c] 32)) 61 #[.int .i64 0, .slice none 0 0, .slice none 0 0]
      simpa using this
    have hsz : w.heap.size + 2 ≤ W0.heap.size := by rw [← hW0]; simp
    have H0 := Lib.hid (hx0.below (Nat.le_refl w.heap.size))
    have HS := Lib.hid hS
    have HR := Lib.hid hR
    rw [hW0]
    have r0 := hS.rd 0 rfl
    have r1 := hS.rd 1 rfl
    clear hx0 hS hR hW0
    refine (HI.out _ H0.out).mono ?_
    rintro e w1 ⟨rfl, hx1⟩
    have K1 := Lib.hid (H0.out.trans (hx1.below H0.out.size))
    have HR1 := Lib.hid (HR.out.ext hx1)
    have t0 := HR1.out.rd 0 rfl
    have t1 := HR1.out.rd 1 rfl
    have t2 := HR1.out.rd 2 rfl
    have z0 := HR1.out.frozen 0
    have z1 := HR1.out.frozen 1
    have z2 := HR1.out.frozen 2
    have hlt := HR1.out.lt
    clear hx1 r0 r1
    go_wp2_with fail
    refine bodyPost_ret (v := .tuple #[.agg #[.int .i64 0, .slice none 0 0, .slice none 0 0], .int .i64 1]) (by simp [results, Try.results54, go_sem, t0, t1, t2, z0, z1, z2]) rfl (HQ.out _ _ ⟨rfl, ?_⟩)
    exact ((K1.out.setCell HLE.out _).setCell HLE.out _).setCell HLE.out _
  | true =>
    rw [hs] at HI
    have HTRUE := Lib.hid hs
    by_cases hmn : m = n
    · have hne : ((m : Int) != (n : Int)) = false := by simp [hmn]
      have HMN := Lib.hid hmn
      clear hmn
      go_enter Try.func54, Try.ntmps54
      go_wp2_with fail
      obtain ⟨W0, hW0⟩ : ∃ W0, (w.alloc (Obj.cells #[.int .i64 c0, .slice A n c] 32)).alloc (Obj.cells #[.int .i64 0, .slice none 0 0, .slice none 0 0] 61) = W0 := ⟨_, rfl⟩
      have hx0 : Ext w W0 := by rw [← hW0]; exact ((Ext.refl w).alloc _).alloc _
      have hS : Blk W0 w.heap.size 32 #[.int .i64 c0, .slice A n c] := by rw [← hW0]; exact (Blk.new w _ _).ext ((Ext.refl _).alloc _)
      have hR : Blk W0 (w.heap.size + 1) 61 #[.int .i64 0, .slice none 0 0, .slice none 0 0] := by
        rw [← hW0]
        have := Blk.new (w.alloc (Obj.cells #[.int .i64 c0, .slice A n c] 32)) 61 #[.int .i64 0, .slice none 0 0, .slice none 0 0]
        simpa using this
      have hsz : w.heap.size + 2 ≤ W0.heap.size := by rw [← hW0]; simp
      have H0 := Lib.hid (hx0.below (Nat.le_refl w.heap.size))
      have HS := Lib.hid hS
      have HR := Lib.hid hR
      rw [hW0]
      have r0 := hS.rd 0 rfl
      have r1 := hS.rd 1 rfl
      clear hx0 hS hR hW0 hs
      refine (HI.out _ H0.out).mono ?_
      rintro e w1 ⟨rfl, hx1⟩
      have K1 := Lib.hid (H0.out.trans (hx1.below H0.out.size))
      have HR1 := Lib.hid (HR.out.ext hx1)
      have HS1 := Lib.hid (HS.out.ext hx1)
      have hs1 : w.heap.size + 2 ≤ w1.heap.size := Nat.le_trans hsz (hx1.below (Nat.le_refl _)).size
      have r0 := HS1.out.rd 0 rfl
      have r1 := HS1.out.rd 1 rfl
      clear hx1
      go_wp2_with fail
      have hG : Blk (w1.alloc (Obj.cells #[.int .i64 c0, .slice A n c, .slice none 0 0] 61)) w1.heap.size 61 #[.int .i64 c0, .slice A n c, .slice none 0 0] := Blk.new w1 _ _
      have hx4 : Ext w1 (w1.alloc (Obj.cells #[.int .i64 c0, .slice A n c, .slice none 0 0] 61)) := (Ext.refl w1).alloc _
      have hsz4 : (w1.alloc (Obj.cells #[.int .i64 c0, .slice A n c, .slice none 0 0] 61)).heap.size = w1.heap.size + 1 := by simp
      generalize w1.alloc (Obj.cells #[.int .i64 c0, .slice A n c, .slice none 0 0] 61) = W4 at *
      have HG := Lib.hid hG
      have HS4 := Lib.hid (HS1.out.ext hx4)
      have HR4 := Lib.hid (HR1.out.ext hx4)
      have K4 := Lib.hid (K1.out.trans (hx4.below K1.out.size))
      clear r0 r1 hG hx4 K1 HR1 HS1
      generalize hg9 : w1.heap.size = g9 at *
      clear hg9
      have HS9 := Lib.hid (show w.heap.size + 2 ≤ g9 ∧ W4.heap.size = g9 + 1 from ⟨hs1, hsz4⟩)
      clear hs1 hsz4
      go_loopw [24] (fun ii wr => ∃ (k : Nat) (v : Value), k ≤ m ∧ ii = .int .i64 k ∧ (∀ y, y < k → bRow ts bs y = true) ∧ Blk wr g9 61 #[.int .i64 c0, .slice A n c, v] ∧ wr.ownsRow (g9 + 1) 66 4 v k (flat ((blkL bs).take k)) ∧ Below g9 W4 wr) (fun ii _ => m - (intOf ii).toNat)
      case atStart => exact ⟨0, .slice none 0 0, Nat.zero_le _, rfl, fun j hj => absurd hj (Nat.not_lt_zero _), HG.out, World.ownsRow_nil _ _ _ _, Below.refl _ _⟩
      case round =>
        obtain ⟨k, v, hk, rfl, heq, hbk, hown, hb⟩ := hrel
        have HQB := Lib.hid heq
        have HO := Lib.hid hown
        have HK := Lib.hid hbk
        have HB := Lib.hid hb
        have KR := Lib.hid (K4.out.trans (hb.mono (by have := HS9.out.1; omega)))
        have HSr := Lib.hid (HS4.out.below hb (by have := HS9.out.1; omega))
        have HRr := Lib.hid (HR4.out.below hb (by have := HS9.out.1; omega))
        clear hown hbk hb heq
        by_cases hlt : k < m
        · obtain ⟨bR, oR, rfl, hbR, hcR⟩ := hB (by omega)
          obtain ⟨Q, qc, e1, hq, hQ⟩ := hcR k (by omega)
          replace e1 := (KR.out.cell (p := ⟨bR, oR + k, none⟩) hbR).trans e1
          have hrk := hrow k hlt
          have HAR := Lib.hid (fun W hW => areTileNumbers_any c0 A n c ts Q (bs.getD k []).length qc (bs.getD k []) W hn hl (by omega) rfl ((hQ.below (hW : Below w.heap.size w W) (Nat.le_refl _)).more hW.size))
          have HROW := Lib.hid (bRow_yes (ts := ts) (bs := bs) (y := k))
          have HRNO := Lib.hid (bRow_no (ts := ts) (bs := bs) (y := k))
          have HQ9 := Lib.hid hQ
          have HBT := Lib.hid (blkL_succ (bs := bs) (k := k) (by omega))
          have HVAL := Lib.hid (show ∀ j, bAt bs k j = (bs.getD k []).getD j 0 from fun j => rfl)
          generalize bs.getD k [] = row at *
          generalize hmk : row.length = mk at *
          have HMK := Lib.hid hmk
          have r0 := HSr.out.rd 0 rfl
          have r1 := HSr.out.rd 1 rfl
          have t0 := HRr.out.rd 0 rfl
          have t1 := HRr.out.rd 1 rfl
          have t2 := HRr.out.rd 2 rfl
          have z0 := HRr.out.frozen 0
          have z1 := HRr.out.frozen 1
          have z2 := HRr.out.frozen 2
          have hltR := HRr.out.lt
          clear hcR hQ hmk
          by_cases hm4 : mk = 4
          · subst hm4
            have hn4 : ((4 : Int) != (4 : Int)) = false := rfl
            cases hal : allT ts row with
            | false =>
              rw [hal] at HAR
              have HQ := Lib.hid (HQ1.out (by rw [bc2 HTRUE.out (bOk_at (y := k) (by omega) ((HROW.out rfl).trans hal))]; decide))
              rw [bc2 HTRUE.out (bOk_at (y := k) (by omega) ((HROW.out rfl).trans hal))] at HQ
              clear hal HQ0 HQ1
              go_wp2_with fail
              refine (HAR.out _ KR.out).mono ?_
              rintro e w5 ⟨rfl, hx5⟩
              have K1 := Lib.hid (KR.out.trans (hx5.below KR.out.size))
              have HR5 := HRr.out.ext hx5
              have t0 := HR5.rd 0 rfl
              have t1 := HR5.rd 1 rfl
              have t2 := HR5.rd 2 rfl
              have z0 := HR5.frozen 0
              have z1 := HR5.frozen 1
              have z2 := HR5.frozen 2
              have hlt5 := HR5.lt
              clear hx5 HR5 r0 r1 e1
              go_wp2_with fail
              refine bodyPost_ret (v := .tuple #[.agg #[.int .i64 0, .slice none 0 0, .slice none 0 0], .int .i64 2]) (by simp [results, Try.results54, go_sem, t0, t1, t2, z0, z1, z2]) rfl (HQ.out _ _ ⟨rfl, ?_⟩)
              exact ((K1.out.setCell HLE.out _).setCell HLE.out _).setCell HLE.out _
            | true =>
              rw [hal] at HAR
              have HALL := Lib.hid ((HROW.out rfl).trans hal)
              clear hal
              go_wp2_with fail
              refine (HAR.out _ KR.out).mono ?_
              rintro e w5 ⟨rfl, hx5⟩
              obtain ⟨bq, oq, hQe, hbq, hcq⟩ := HQ9.out (by rw [HMK.out]; omega)
              subst hQe
              have hE5 := KR.out.trans (hx5.below KR.out.size)
              have q0 := (hE5.cell (p := ⟨bq, oq + 0, none⟩) hbq).trans (hcq 0 (by rw [HMK.out]; omega))
              have q1 := (hE5.cell (p := ⟨bq, oq + 1, none⟩) hbq).trans (hcq 1 (by rw [HMK.out]; omega))
              have q2 := (hE5.cell (p := ⟨bq, oq + 2, none⟩) hbq).trans (hcq 2 (by rw [HMK.out]; omega))
              have q3 := (hE5.cell (p := ⟨bq, oq + 3, none⟩) hbq).trans (hcq 3 (by rw [HMK.out]; omega))
              rw [Nat.add_zero] at q0
              rw [← HVAL.out 0] at q0
              rw [← HVAL.out 1] at q1
              rw [← HVAL.out 2] at q2
              rw [← HVAL.out 3] at q3
              generalize bAt bs k 0 = d0 at *
              generalize bAt bs k 1 = d1 at *
              generalize bAt bs k 2 = d2 at *
              generalize bAt bs k 3 = d3 at *
              have O5 := Lib.hid (own_belowB HO.out (hx5.below (Nat.le_refl _)))
              have B5 := Lib.hid (HK.out.ext hx5)
              have S5 := Lib.hid (HSr.out.ext hx5)
              have K5 := Lib.hid hE5
              have HB5 := Lib.hid (HB.out.trans (hx5.below (Nat.le_of_lt HK.out.lt)))
              have y1 := B5.out.rd 2 rfl
              have y2 := fun ob => (B5.out.ext ((Ext.refl w5).drew.alloc ob)).rd 2 rfl
              have z2' := fun ob => (B5.out.ext ((Ext.refl w5).drew.alloc ob)).frozen 2
              have hs5 : g9 < w5.heap.size := B5.out.lt
              have hs6 := fun ob => Nat.le_trans (show g9 + 1 ≤ w5.heap.size from hs5) (alloc_leB w5 ob)
              have HNE := Lib.hid (show some g9 ≠ v.ownBlock from fun e => by have := (HO.out.lt g9 e.symm).1; omega)
              have m1 : k + 1 ≤ maxLen := by unfold maxLen; omega
              have m2 : (k + 1) * 32 ≤ 140737488355328 := by omega
              have HM := Lib.hid (And.intro m1 m2)
              have hra := fun W => run_arrayAt4 W bq oq qc
              clear hx5 m1 m2 r0 r1 e1 t0 t1 t2 z0 z1 z2 hcq hltR hE5
              go_wp2_with fail
              go_region_law (first
                | (refine step_pushB (by rfl) (.tmp 39) (.tmp 43) (by rfl) (g9 + 1) v k (flat ((blkL bs).take k)) (by go_simp) (own_belowB O5.out (((Ext.refl w5).drew.alloc _).below (Nat.le_refl _))) w5.heap.size (d0, d1, d2, d3) (by go_simp) (heap_alloc_new w5.drew _) HM.out.1 HM.out.2 (hs6 _) ?_; intro v6 w6 hown6 hgrow6 hat6; obtain ⟨g6, cap6, rfl⟩ := ownsRow_succ hown6; have c6 := hgrow6.cell (y2 _) HNE.out; have e6 := grownFzB hgrow6 (g := g9) (i := 2) (hs6 _) HNE.out (z2' _)))
              all_goals
                have hbk6 : Blk w6 g9 61 #[.int .i64 c0, .slice A n c, v] := (hgrow6.block g9 (by simp; omega) HNE.out).trans (B5.out.ext ((Ext.refl w5).drew.alloc _))
                have hbk7 := hbk6.set_ 2 (.slice (some ⟨g6, 0, none⟩) (k + 1) cap6)
                have ho7 := own_setB hown6 (p := ⟨g9, 2, none⟩) (show g9 < g9 + 1 by omega) (.slice (some ⟨g6, 0, none⟩) (k + 1) cap6)
                rw [show flat ((blkL bs).take k) ++ enc (d0, d1, d2, d3) = flat ((blkL bs).take (k + 1)) by rw [HBT.out, flat_snoc]] at ho7
                have hb7 := ((((HB5.out.drew).alloc (by have := HS9.out.2; have := hs5; simp; omega) (Obj.cells (encA (d0, d1, d2, d3)) 66)).grown hgrow6 (by simp; omega) (fun j hj => by have := (O5.out.lt j hj).1; omega)).setCell (p := ⟨g9, 2, none⟩) (Nat.le_refl _) (.slice (some ⟨g6, 0, none⟩) (k + 1) cap6))
                have H7 := Lib.hid (And.intro hbk7 (And.intro ho7 hb7))
                clear hbk6 hbk7 ho7 hb7 hown6 hgrow6 hat6 c6 e6 y1 y2 z2' hs6 q0 q1 q2 q3 hra
                go_wp2_with fail
                go_roundw
                case rel =>
                  have hrows : ∀ y, y < k + 1 → bRow ts bs y = true := fun y hy => by
                    by_cases hyk : y = k
                    · subst hyk; exact HALL.out
                    · exact HQB.out y (by omega)
                  first | exact ⟨k + 1, _, by omega, by go_num, hrows, H7.out.1, H7.out.2.1, H7.out.2.2⟩ | ((repeat apply Exists.intro); exact ⟨⟨k + 1, _, by omega, by go_num, hrows, H7.out.1, H7.out.2.1, H7.out.2.2⟩, rfl⟩)
                case measure => simp [intOf]; omega
          · have hn4 : ((mk : Int) != (4 : Int)) = true := by simp; omega
            have HQ := Lib.hid (HQ1.out (by rw [bc2 HTRUE.out (bOk_at (y := k) (by omega) (HRNO.out hm4))]; decide))
            rw [bc2 HTRUE.out (bOk_at (y := k) (by omega) (HRNO.out hm4))] at HQ
            have K1 := KR
            clear HQ0 HQ1 hm4
            go_wp2_with fail
            refine bodyPost_ret (v := .tuple #[.agg #[.int .i64 0, .slice none 0 0, .slice none 0 0], .int .i64 2]) (by simp [results, Try.results54, go_sem, t0, t1, t2, z0, z1, z2]) rfl (HQ.out _ _ ⟨rfl, ?_⟩)
            exact ((K1.out.setCell HLE.out _).setCell HLE.out _).setCell HLE.out _
        · obtain rfl : k = m := by omega
          have HCODE := bc0 HTRUE.out (bOk_all (by rw [hlr, hl]; exact HMN.out) (fun y hy => HQB.out y (by omega)))
          have HQ := Lib.hid (HQ0.out HCODE)
          have hown := HO.out
          rw [List.take_of_length_le (by rw [blkL_len]; omega)] at hown
          obtain ⟨A2, cap2, rfl, htw⟩ := own_twB hown (by rw [blkL_len]; exact hlr)
          have HT := Lib.hid htw
          have x0 := HK.out.rd 0 rfl
          have x1 := HK.out.rd 1 rfl
          have x2 := HK.out.rd 2 rfl
          have t0 := HRr.out.rd 0 rfl
          have t1 := HRr.out.rd 1 rfl
          have t2 := HRr.out.rd 2 rfl
          have z0 := HRr.out.frozen 0
          have z1 := HRr.out.frozen 1
          have z2 := HRr.out.frozen 2
          have hltR := HRr.out.lt
          have HSZ2 := Lib.hid (show w.heap.size + 1 < g9 + 1 by have := HS9.out.1; omega)
          have HBL := Lib.hid (show (blkL bs).length = k by rw [blkL_len]; exact hlr)
          clear hown htw HO HQ0 HQ1 HCODE hB
          go_wp2_with fail
          refine bodyPost_ret (v := .tuple #[.agg #[.int .i64 c0, .slice A n c, .slice A2 k cap2], .int .i64 0]) (by simp [results, Try.results54, go_sem, t0, t1, t2, z0, z1, z2]) rfl (HQ.out _ _ ⟨A2, cap2, by rw [HBL.out], ?_, ?_⟩)
          · exact ((KR.out.setCell HLE.out _).setCell HLE.out _).setCell HLE.out _
          · exact (((HT.out.far (p := ⟨w.heap.size + 1, 0, none⟩) HSZ2.out _).far (p := ⟨w.heap.size + 1, 1, none⟩) HSZ2.out _).far (p := ⟨w.heap.size + 1, 2, none⟩) HSZ2.out _).low (by have := HS9.out.1; omega)
    · have hne : ((m : Int) != (n : Int)) = true := by simp; omega
      rw [bc2 hs (bOk_len (by omega))] at HQ1
      have HQ := Lib.hid (HQ1.out (by decide))
      clear hs HQ0 HQ1 hB hA hmn HTRUE
      go_enter Try.func54, Try.ntmps54
      go_wp2_with fail
      obtain ⟨W0, hW0⟩ : ∃ W0, (w.alloc (Obj.cells #[.int .i64 c0, .slice A n c] 32)).alloc (Obj.cells #[.int .i64 0, .slice none 0 0, .slice none 0 0] 61) = W0 := ⟨_, rfl⟩
      have hx0 : Ext w W0 := by rw [← hW0]; exact ((Ext.refl w).alloc _).alloc _
      have hS : Blk W0 w.heap.size 32 #[.int .i64 c0, .slice A n c] := by rw [← hW0]; exact (Blk.new w _ _).ext ((Ext.refl _).alloc _)
      have hR : Blk W0 (w.heap.size + 1) 61 #[.int .i64 0, .slice none 0 0, .slice none 0 0] := by
        rw [← hW0]
        have := Blk.new (w.alloc (Obj.cells #[.int .i64 c0, .slice A n c] 32)) 61 #[.int .i64 0, .slice none 0 0, .slice none 0 0]
        simpa using this
      have hsz : w.heap.size + 2 ≤ W0.heap.size := by rw [← hW0]; simp
      have H0 := Lib.hid (hx0.below (Nat.le_refl w.heap.size))
      have HS := Lib.hid hS
      have HR := Lib.hid hR
      rw [hW0]
      have r0 := hS.rd 0 rfl
      have r1 := hS.rd 1 rfl
      clear hx0 hS hR hW0
      refine (HI.out _ H0.out).mono ?_
      rintro e w1 ⟨rfl, hx1⟩
      have K1 := Lib.hid (H0.out.trans (hx1.below H0.out.size))
      have HR1 := Lib.hid (HR.out.ext hx1)
      have HS1 := Lib.hid (HS.out.ext hx1)
      have r0 := HS1.out.rd 0 rfl
      have r1 := HS1.out.rd 1 rfl
      have t0 := HR1.out.rd 0 rfl
      have t1 := HR1.out.rd 1 rfl
      have t2 := HR1.out.rd 2 rfl
      have z0 := HR1.out.frozen 0
      have z1 := HR1.out.frozen 1
      have z2 := HR1.out.frozen 2
      have hlt := HR1.out.lt
      clear hx1
      go_wp2_with fail
      refine bodyPost_ret (v := .tuple #[.agg #[.int .i64 0, .slice none 0 0, .slice none 0 0], .int .i64 2]) (by simp [results, Try.results54, go_sem, t0, t1, t2, z0, z1, z2]) rfl (HQ.out _ _ ⟨rfl, ?_⟩)
      exact ((K1.out.setCell HLE.out _).setCell HLE.out _).setCell HLE.out _
end Go.Proofs.Ytnmgkchkbchfaaa
