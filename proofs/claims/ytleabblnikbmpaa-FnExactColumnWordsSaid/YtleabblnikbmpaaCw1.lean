/- ColumnWords: both sides. -/
import Derived.Test.YtleabblnikbmpaaGuA
import Derived.Test.YtleabblnikbmpaaGy1
import Derived.Test.YtleabblnikbmpaaWn2
import Derived.Deep.RegionHeld3
namespace Go.Proofs.Ytleabblnikbmpaa
set_option linter.unusedVariables false
set_option linter.unusedSimpArgs false
open Go.RowKit Go.Sort

/-- The same as wpList_pushR inside a region that draws its order. -/
theorem step_pushR {w : World} {ops : Array Oper} {o : Oper} {a : Act} {K : Act → World → Prop} {Qx : Exit → Act → World → Prop} {E : Prop} (hgd : o.guard = none) (s x : Operand)
    (ho : o.op = .call { callee := .builtin .append, args := #[s, x], argTypes := #[34, 34] })
    (base : Nat) (v : Value) (rs : List (List Int)) (hs : a.eval s = v) (w0 : World) (h : OwnRR w0 base v rs) (hb : Below w0.heap.size w0 w)
    (g : Nat) (A : Option Addr) (n cap : Nat) (xs : List Int) (hx : a.eval x = .slice (some ⟨g, 0, none⟩) 1 1) (hbk : w.heap[g]? = some (.cells #[.slice A n cap] 42 (0, 0)))
    (hrow : IWr w w0.heap.size w.heap.size A xs) (hn : xs.length = n) (hcap : n ≤ cap) (h63 : rs.length + 1 ≤ 65536) (hbase : base ≤ w0.heap.size)
    (hK : ∀ v' w', OwnRR w' base v' (rs ++ [xs]) → Below base w w' → K (a.put o.dst v') w') :
    if Region.wanted o (yielded ops a.tmps) = true then Oper.wp Try.prog o a w K Qx else E := by
  obtain ⟨Q, q, hown, hr, ha⟩ := h
  obtain ⟨i0, hi, hz0, hz1, hz2⟩ := info_parts info_row
  have hlt : g < w.heap.size := by
    rcases Nat.lt_or_ge g w.heap.size with hlt | hge
    · exact hlt
    · rw [Array.getElem?_eq_none hge] at hbk; cases hbk
  refine step_append_any w hgd s x _ ho base 42 i0 _ 1 24 Try.underlying34 hi hz0 hz1 hz2 rfl (by decide) v rs.length (rvs Q q rs) hs (own_belowA hown hb) w.heap.size _ 1 _ [.slice A n cap] hx ⟨rfl, fun _ => ⟨_, rfl, hlt, fun j u hu => ?_⟩⟩ (by simp [Value.oneCell']) (by unfold maxLen; omega) (by omega) (Nat.le_trans hbase hb.size) ?_
  · rcases j with _ | j
    · simp at hu
      subst hu
      have := cell_of_row w g 0 #[.slice A n cap] 42 (0, 0) hbk
      rw [Go.WideShapes.add_plain]
      exact this
    · simp at hu
  · intro v' w' h1 h2 h3
    exact hK v' w' (OwnRR.pushed hr ha hown hb hrow hn hcap hbase h1 h2 h3) ((Below.refl base w).grown h2 (Nat.le_trans hbase hb.size) (fun j hj => (hown.lt j hj).1))

def rowW (C h : Nat) (v : Int) : List Int := listD h fun x => (digW C h v.toNat x : Int)
theorem rowW_len (C h : Nat) (v : Int) : (rowW C h v).length = h := listD_len _ _
def rowsW (C h : Nat) (ws : List Int) : List (List Int) := ws.map (rowW C h)
theorem rowsW_len (C h : Nat) (ws : List Int) : (rowsW C h ws).length = ws.length := by simp [rowsW]
theorem rowsW_snoc (C h : Nat) (ws : List Int) {k : Nat} (hk : k < ws.length) : rowsW C h (ws.take (k + 1)) = rowsW C h (ws.take k) ++ [rowW C h (ws.getD k 0)] := by
  unfold rowsW
  rw [List.take_succ_eq_append_getElem hk, List.map_append]
  simp [List.getD, hk]
theorem rowsW_takelen (C h : Nat) (ws : List Int) {k : Nat} (hk : k ≤ ws.length) : (rowsW C h (ws.take k)).length = k := by
  rw [rowsW_len, List.length_take]; omega
theorem words_lt {P : Nat} {E : List Tl} (h : colOk P E) {v : Int} (hv : v ∈ wordsL E) : 0 ≤ v ∧ v < (P : Int) := by
  unfold wordsL at hv
  rw [sortI_mem, List.mem_map] at hv
  obtain ⟨e, he, rfl⟩ := hv
  obtain ⟨k, hk, rfl⟩ := mem_lastingT.1 he
  obtain ⟨a, b, e1, h1, -, -⟩ := h k (lastT_closed E k hk).1
  rw [e1]
  omega

set_option maxRecDepth 100000 in
set_option maxHeartbeats 2000000 in
theorem implColumnWords_0 (C : Nat) (A : Option Addr) (n c : Nat) (ts : List Tl) (h : Nat) (w : World) (hl : ts.length = n) (hA : TR w w.heap.size A ts) (hs : isSet (C : Int) ts = true) (h1 : 1 ≤ h) (h4 : h ≤ 4) (hC7 : C ^ h ≤ 700) (hN : (colsL ts h).length ≤ 5000) (h40 : (wordsL (edgesL (C : Int) ts h)).length ≤ 40) :
    Calls Try.prog 22 #[.agg #[.int .i64 (C : Int), .slice A n c], .int .i64 (h : Int)] w (MatRes w (rowsW C h (wordsL (edgesL (C : Int) ts h))) 0) := by
  have hle : ∀ W, Ext w W → Calls Try.prog 58 #[.agg #[.int .i64 (C : Int), .slice A n c], .int .i64 (h : Int)] W _ := fun W hW => (lastingEdges_g C A n c ts h W hl ((hA.ext hW (Nat.le_refl _)).more (hW.below (Nat.le_refl _)).size) hs h1 h4 hC7 hN).mono fun e w' ⟨hyes, _⟩ => hyes h40
  have hcc := isSet_col hs
  have hok := edges_ok (C := C) (ts := ts) (by omega) (colOk_set hs rfl) h
  have HLT := Lib.hid (fun v hv => words_lt hok (v := v) hv)
  unfold LastGood at hle
  unfold MatRes
  rw [rowsW_len]
  have hC0 : 0 < C := by omega
  have hC6 : C ≤ 6 := by omega
  generalize lastingT (edgesL (C : Int) ts h) = es at *
  generalize hws : wordsL (edgesL (C : Int) ts h) = ws at *
  have HLE := Lib.hid hle
  clear hle hA hs hok hcc hws hN
  generalize hm : ws.length = m at *
  have HM := Lib.hid hm
  clear hm
  generalize C ^ h = P at *
  go_enter Try.func22, Try.ntmps22
  go_wp2_with fail
  refine (HLE.out _ ((Ext.refl w).alloc _)).mono ?_
  rintro e w1 ⟨A1, q1, A2, q2, rfl, hb, hT, hI⟩
  have HB1 := Lib.hid ((((Ext.refl w).alloc (Obj.cells #[.int .i64 (C : Int), .slice A n c] 30)).below (Nat.le_refl w.heap.size)).trans (hb.mono (by simp)))
  have HBX := Lib.hid ((Blk.new w 30 #[.int .i64 (C : Int), .slice A n c]).below hb (by simp))
  have HIR := Lib.hid hI.ir
  have hsz1 := hb.size
  rw [World.size_alloc] at hsz1
  clear hb hT hI
  go_wp2_with fail
  have HE5 := Lib.hid ((Ext.refl w1).alloc (Obj.cells #[.int .i64 (P : Int), .slice A1 es.length q1] 30))
  generalize (w1.alloc (Obj.cells #[.int .i64 (P : Int), .slice A1 es.length q1] 30)) = W5 at *
  have hs5 := (HE5.out.below (Nat.le_refl _)).size
  have HB5 := Lib.hid (HB1.out.trans (HE5.out.below HB1.out.size))
  have HBX5 := Lib.hid (HBX.out.ext HE5.out)
  have HIR5 := Lib.hid ((HIR.out.ext HE5.out (Nat.le_refl _)).more hs5)
  clear HB1 HBX HIR HE5
  go_loopw [24, 9] (fun i v wr => ∃ k : Nat, k ≤ m ∧ i = .int .i64 k ∧ OwnRR wr W5.heap.size v (rowsW C h (ws.take k)) ∧ Below W5.heap.size W5 wr) (fun i _ _ => m - (intOf i).toNat)
  case atStart => exact ⟨0, Nat.zero_le _, rfl, by simpa [rowsW] using OwnRR.nil W5 W5.heap.size, Below.refl _ _⟩
  case round =>
    obtain ⟨k, hk, rfl, hown, hb⟩ := hrel
    have HO := Lib.hid hown
    have HB := Lib.hid hb
    have hsb := hb.size
    by_cases hlt : k < m
    · obtain ⟨bw, ow, rfl, hbw, hcw⟩ := (HIR5.out.below hb (Nat.le_refl _)) (by have := HM.out; omega)
      have q1' := hcw k (by have := HM.out; omega)
      obtain ⟨code, hcode⟩ : ∃ code : Nat, ws.getD k 0 = (code : Int) ∧ code < 701 := by
        have h0 := HLT.out (ws.getD k 0) (by have := HM.out; simp [List.getD, show k < ws.length by omega])
        exact ⟨(ws.getD k 0).toNat, by omega, by omega⟩
      obtain ⟨hcode, hcl⟩ := hcode
      rw [hcode] at q1'
      have HRS := Lib.hid (show rowsW C h (ws.take (k + 1)) = rowsW C h (ws.take k) ++ [listD h fun x => (digW C h code x : Int)] by
        rw [rowsW_snoc C h ws (by have := HM.out; omega), hcode]; rfl)
      have HTL := Lib.hid (rowsW_takelen C h ws (k := k) (by have := HM.out; omega))
      have hbx := HBX5.out.below hb HBX5.out.lt
      have q2 := hbx.rd 0 rfl
      have q3 := hbx.rd 1 rfl
      have hcon := wordWithNumber_any C h code A n c wr hC0 (by omega) (by omega) h1 (by omega)
      have HC := Lib.hid hcon
      have b3 : (k : Int) < (m : Int) := by omega
      clear hcon hown hb hbx hcw hcode
      go_wp2_with fail
      refine HC.out.mono ?_
      rintro e w2 ⟨rfl, hb2, hdi⟩
      have HR2 := Lib.hid ((hdi.ext ((Ext.refl w2).alloc (Obj.cells #[.slice (some ⟨wr.heap.size + 1 + 1, 0, none⟩) h h] 42))).iwr (lo := wr.heap.size) (hi := (w2.alloc (Obj.cells #[.slice (some ⟨wr.heap.size + 1 + 1, 0, none⟩) h h] 42)).heap.size) (by omega) (by have := hdi.lt; simp; omega))
      have HK2 := Lib.hid (hb2.trans (((Ext.refl w2).alloc (Obj.cells #[.slice (some ⟨wr.heap.size + 1 + 1, 0, none⟩) h h] 42)).below hb2.size))
      clear hb2 hdi q1' q2 q3
      go_wp2_with (at_builtin; refine wpList_pushR rfl _ _ rfl W5.heap.size _ (rowsW C h (ws.take k)) rfl wr HO.out HK2.out w2.heap.size (some ⟨wr.heap.size + 1 + 1, 0, none⟩) h h (listD h fun x => (digW C h code x : Int)) rfl (heap_alloc_new w2 _) HR2.out (listD_len _ _) (Nat.le_refl _) (by have := HTL.out; omega) hsb ?_; intro v' w3 hown' _ _ hb3)
      have HO3 := Lib.hid (show OwnRR w3 W5.heap.size v' (rowsW C h (ws.take (k + 1))) by rw [HRS.out]; exact hown')
      have HB3 := Lib.hid (HB.out.trans ((HK2.out.mono hsb).trans hb3))
      clear hown' hb3 HR2 HK2 HO HB
      go_wp2_with fail
      go_roundw
      case rel => exact ⟨k + 1, by omega, by go_num, HO3.out, HB3.out⟩
      case measure => simp [intOf]; omega
    · obtain rfl : k = m := by omega
      rw [List.take_of_length_le (by have := HM.out; omega)] at hown
      obtain ⟨R, cap, rfl, hcap, hiw⟩ := hown.done
      rw [rowsW_len, HM.out]
      have HW := Lib.hid (hiw.up_ (lo' := w.heap.size) (hi' := World.heap _ |>.size) HB5.out.size (Nat.le_refl _))
      clear hown hb hiw HO
      go_wp2_with fail
      go_ret2
      exact ⟨R, cap, rfl, HB5.out.trans (HB.out.mono HB5.out.size), HW.out⟩
theorem implColumnWords_no (c0 : Int) (A : Option Addr) (n c : Nat) (ts : List Tl) (h : Int) (w : World) (hn : n ≤ 1048576) (hl : ts.length = n) (hA : TR w w.heap.size A ts) (hg : tCode c0 ts h ≠ 0) :
    Calls Try.prog 22 #[.agg #[.int .i64 c0, .slice A n c], .int .i64 h] w (MatRes w [] (tCode c0 ts h)) := by
  have hgo : ∀ W, Ext w W → Calls Try.prog 58 #[.agg #[.int .i64 c0, .slice A n c], .int .i64 h] W _ := fun W hW => lastingEdges_bad c0 A n c ts h W hn hl ((hA.ext hW (Nat.le_refl _)).more (hW.below (Nat.le_refl _)).size) hg
  unfold NoEdges at hgo
  generalize tCode c0 ts h = code at *
  have hne : (code != 0) = true := by simp [hg]
  have HG := Lib.hid hgo
  clear hgo hA
  go_enter Try.func22, Try.ntmps22
  go_wp2_with fail
  refine (HG.out _ ((Ext.refl w).alloc _)).mono ?_
  rintro e w1 ⟨rfl, hb⟩
  have HB := Lib.hid (((((Ext.refl w).alloc (.cells #[.int .i64 c0, .slice A n c] 30)).below (Nat.le_refl w.heap.size)).trans (hb.mono (by simp))))
  clear hb
  go_wp2_with fail
  go_ret2
  exact MatRes.none_ (HB.out.alloc HB.out.size _)
theorem specColumnWords_no (c0 : Int) (A : Option Addr) (n c : Nat) (ts : List Tl) (h : Int) (w : World) (hn : n ≤ 1048576) (hl : ts.length = n) (hA : TR w w.heap.size A ts) (hg : tCode c0 ts h ≠ 0) :
    Calls Try.prog 21 #[.agg #[.int .i64 c0, .slice A n c], .int .i64 h] w (MatRes w [] (tCode c0 ts h)) := by
  have hgo : ∀ W, Ext w W → Calls Try.prog 56 #[.agg #[.int .i64 c0, .slice A n c], .int .i64 h] W _ := fun W hW => l06Lasting_bad c0 A n c ts h W hn hl ((hA.ext hW (Nat.le_refl _)).more (hW.below (Nat.le_refl _)).size) hg
  unfold NoLast at hgo
  generalize tCode c0 ts h = code at *
  have hne : (code != 0) = true := by simp [hg]
  have HG := Lib.hid hgo
  clear hgo hA
  go_enter Try.func21, Try.ntmps21
  go_wp2_with fail
  refine (HG.out _ ((Ext.refl w).alloc _)).mono ?_
  rintro e w1 ⟨rfl, hb⟩
  have HB := Lib.hid ((((Ext.refl w).alloc (.cells #[.int .i64 c0, .slice A n c] 30)).below (Nat.le_refl _)).trans (hb.mono (by simp)))
  clear hb
  go_wp2_with fail
  go_ret2
  exact MatRes.none_ HB.out
set_option maxRecDepth 100000 in
set_option maxHeartbeats 2000000 in
theorem specColumnWords_0 (C : Nat) (A : Option Addr) (n c : Nat) (ts : List Tl) (h : Nat) (w : World) (hl : ts.length = n) (hA : TR w w.heap.size A ts) (hs : isSet (C : Int) ts = true) (h1 : 1 ≤ h) (h4 : h ≤ 4) (hC7 : C ^ h ≤ 700) (hN : (colsL ts h).length ≤ 5000) (h40 : (wordsL (edgesL (C : Int) ts h)).length ≤ 40) :
    Calls Try.prog 21 #[.agg #[.int .i64 (C : Int), .slice A n c], .int .i64 (h : Int)] w (MatRes w (rowsW C h (wordsL (edgesL (C : Int) ts h))) 0) := by
  have hle : ∀ W, Ext w W → Calls Try.prog 56 #[.agg #[.int .i64 (C : Int), .slice A n c], .int .i64 (h : Int)] W _ := fun W hW => (l06Lasting_g C A n c ts h W hl ((hA.ext hW (Nat.le_refl _)).more (hW.below (Nat.le_refl _)).size) hs h1 h4 hC7 hN).mono fun e w' ⟨hyes, _⟩ => hyes h40
  have hcc := isSet_col hs
  have hok := edges_ok (C := C) (ts := ts) (by omega) (colOk_set hs rfl) h
  have HLT := Lib.hid (fun v hv => words_lt hok (v := v) hv)
  unfold LastM at hle
  unfold MatRes
  rw [rowsW_len]
  have hC0 : 0 < C := by omega
  have hC6 : C ≤ 6 := by omega
  generalize tabL (edgesL (C : Int) ts h) = tb at *
  generalize hws : wordsL (edgesL (C : Int) ts h) = ws at *
  have HLE := Lib.hid hle
  clear hle hA hs hok hcc hws hN
  generalize hm : ws.length = m at *
  have HM := Lib.hid hm
  clear hm
  generalize C ^ h = P at *
  go_enter Try.func21, Try.ntmps21
  go_wp2_with fail
  refine (HLE.out _ ((Ext.refl w).alloc _)).mono ?_
  rintro e w1 ⟨A2, q2, T, pT, rfl, hb, hI, -⟩
  have HB1 := Lib.hid ((((Ext.refl w).alloc (Obj.cells #[.int .i64 (C : Int), .slice A n c] 30)).below (Nat.le_refl w.heap.size)).trans (hb.mono (by simp)))
  have HBX := Lib.hid ((Blk.new w 30 #[.int .i64 (C : Int), .slice A n c]).below hb (by simp))
  have HIR := Lib.hid hI
  have hsz1 := hb.size
  rw [World.size_alloc] at hsz1
  clear hb hI
  go_wp2_with fail
  have HO0 := Lib.hid (OwnRR.made w1 w1.heap.size (Nat.le_refl _))
  have HE5 := Lib.hid ((Ext.refl w1).alloc (Obj.cells #[] 42))
  generalize (w1.alloc (Obj.cells #[] 42)) = W5 at *
  have hs5 := (HE5.out.below (Nat.le_refl _)).size
  go_loopw [10, 9] (fun i v wr => ∃ k : Nat, k ≤ m ∧ i = .int .i64 k ∧ OwnRR wr w1.heap.size v (rowsW C h (ws.take k)) ∧ Below w1.heap.size w1 wr) (fun i _ _ => m - (intOf i).toNat)
  case atStart => exact ⟨0, Nat.zero_le _, rfl, by simpa [rowsW] using HO0.out, HE5.out.below (Nat.le_refl _)⟩
  case round =>
    obtain ⟨k, hk, rfl, hown, hb⟩ := hrel
    have HO := Lib.hid hown
    have HB := Lib.hid hb
    have hsb := hb.size
    by_cases hlt : k < m
    · obtain ⟨bw, ow, rfl, hbw, hcw⟩ := (HIR.out.below hb (Nat.le_refl _)) (by have := HM.out; omega)
      have q1' := hcw k (by have := HM.out; omega)
      obtain ⟨code, hcode⟩ : ∃ code : Nat, ws.getD k 0 = (code : Int) ∧ code < 701 := by
        have h0 := HLT.out (ws.getD k 0) (by have := HM.out; simp [List.getD, show k < ws.length by omega])
        exact ⟨(ws.getD k 0).toNat, by omega, by omega⟩
      obtain ⟨hcode, hcl⟩ := hcode
      rw [hcode] at q1'
      have HRS := Lib.hid (show rowsW C h (ws.take (k + 1)) = rowsW C h (ws.take k) ++ [listD h fun x => (digW C h code x : Int)] by
        rw [rowsW_snoc C h ws (by have := HM.out; omega), hcode]; rfl)
      have HTL := Lib.hid (rowsW_takelen C h ws (k := k) (by have := HM.out; omega))
      have hbx := HBX.out.below hb HBX.out.lt
      have q2 := hbx.rd 0 rfl
      have hcon := fun W => l06Word_any code C h W hC0 (by omega) (by omega) h4
      have HC := Lib.hid hcon
      have HBXX := Lib.hid hbx
      have b3 : (k : Int) < (m : Int) := by omega
      have b4 : (0 : Int) ≤ (k : Int) := by omega
      clear hcon hown hb hbx hcw hcode
      go_wp2_with fail
      go_region_held3 (fun w' => w'.cell? ⟨bw, ow + k, none⟩ = some (.int .i64 (code : Int)) ∧ w'.cell? ⟨w.heap.size, 0, none⟩ = some (.int .i64 (C : Int)))
        (first | exact ⟨q1', q2⟩ | exact ⟨p1, p2⟩ | exact ⟨p3, p4⟩ | go_keep)
        (first
          | ((with_reducible refine (HC.out _).mono ?_)
             rintro e w2 ⟨g2, rfl, hg2, hb2, hdi⟩
             have hb2' : Below wr.heap.size wr w2 := ((Below.refl wr.heap.size wr).drew).trans (hb2.mono (Nat.le_refl _))
             have p1 := (hb2'.cell (p := ⟨bw, ow + k, none⟩) (by show bw < wr.heap.size; omega)).trans q1'
             have p2 := (hb2'.cell (p := ⟨w.heap.size, 0, none⟩) (by show w.heap.size < wr.heap.size; have := HBXX.out.lt; omega)).trans q2)
          | (refine step_pushR rfl (.tmp 28) (.tmp 37) rfl w1.heap.size _ (rowsW C h (ws.take k)) (by go_simp) wr HO.out (hb2'.trans (((Ext.refl w2).alloc (Obj.cells #[.slice (some ⟨g2, 0, none⟩) h h] 42)).below hb2'.size)) w2.heap.size (some ⟨g2, 0, none⟩) h h (listD h fun x => (digW C h code x : Int)) (by go_simp) (heap_alloc_new w2 _) ((hdi.ext ((Ext.refl w2).alloc (Obj.cells #[.slice (some ⟨g2, 0, none⟩) h h] 42))).iwr (lo := wr.heap.size) (by simpa using hg2) (by have := hdi.lt; simp; omega)) (listD_len _ _) (Nat.le_refl _) (by have := HTL.out; omega) hsb ?_
             intro v' w3 hown' hb3
             have hbe := ((Ext.refl w2).alloc (Obj.cells #[.slice (some ⟨g2, 0, none⟩) h h] 42)).below (Nat.le_refl w2.heap.size)
             have p3 := (hb3.cell (p := ⟨bw, ow + k, none⟩) hbw).trans ((hbe.cell (p := ⟨bw, ow + k, none⟩) (by show bw < w2.heap.size; have := hb2'.size; omega)).trans p1)
             have p4 := (hb3.cell (p := ⟨w.heap.size, 0, none⟩) (by show w.heap.size < w1.heap.size; have := HBX.out.lt; omega)).trans ((hbe.cell (p := ⟨w.heap.size, 0, none⟩) (by show w.heap.size < w2.heap.size; have := hb2'.size; have := HBXX.out.lt; omega)).trans p2)))
      all_goals
        have HO3 := Lib.hid (show OwnRR w3 w1.heap.size v' (rowsW C h (ws.take (k + 1))) by rw [HRS.out]; exact hown')
        have HB3 := Lib.hid (HB.out.trans ((hb2'.mono hsb).trans ((((Ext.refl w2).alloc (Obj.cells #[.slice (some ⟨g2, 0, none⟩) h h] 42)).below (by have := hb2'.size; omega)).trans hb3)))
        clear hown' hb3 hb2 hdi hb2' HO HB
        go_wp2_with fail
        go_roundw
        case rel => first | exact ⟨k + 1, by omega, by go_num, HO3.out, HB3.out⟩ | ((repeat apply Exists.intro); exact ⟨⟨k + 1, by omega, by go_num, HO3.out, HB3.out⟩, rfl⟩)
        case measure => simp [intOf]; omega
    · obtain rfl : k = m := by omega
      rw [List.take_of_length_le (by have := HM.out; omega)] at hown
      obtain ⟨R, cap, rfl, hcap, hiw⟩ := hown.done
      rw [rowsW_len, HM.out]
      have HW := Lib.hid (hiw.up_ (lo' := w.heap.size) (hi' := World.heap _ |>.size) HB1.out.size (Nat.le_refl _))
      clear hown hb hiw HO
      go_wp2_with fail
      go_ret2
      exact ⟨R, cap, rfl, HB1.out.trans (HB.out.mono HB1.out.size), HW.out⟩
end Go.Proofs.Ytleabblnikbmpaa
