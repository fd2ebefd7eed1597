/- Shifted rows: the program's side. -/
import Derived.Test.YtjoaoimebdkpaaaTo0
import Derived.Test.YtjoaoimebdkpaaaTo1
import Derived.Test.YtjoaoimebdkpaaaStC
import Derived.Deep.RegionHeld3
import Derived.Lib.Hide
namespace Go.Proofs.Ytjoaoimebdkpaaa
section
set_option linter.unusedVariables false
set_option linter.unusedSimpArgs false
open Go.RowKit Go.Sort

theorem Reads.take {w : World} {B n k : Nat} {A : Option Addr} {xs : List Value} (h : Reads w B 1 A n xs) (hk : k ≤ n) : Reads w B 1 A k (xs.take k) := by
  refine ⟨by have := h.1; rw [List.length_take]; omega, fun hn => ?_⟩
  obtain ⟨ad, rfl, hb, hc⟩ := h.2 (by omega)
  refine ⟨ad, rfl, hb, fun j u hu => hc j u ?_⟩
  rw [List.getElem?_take] at hu
  split at hu
  · exact hu
  · cases hu
theorem Reads.drop_ {w : World} {B n k cap b o : Nat} {xs : List Value} (h : Reads w B 1 (some ⟨b, o, none⟩) n xs) (hk : k < n) (hc : n ≤ cap) : Reads w B 1 (some ⟨b, o + k, none⟩) (n - k) (xs.drop k) := by
  have := h.cut (k := k) (cap := cap) (by omega) hc
  rw [if_neg (by omega), Nat.mul_one, Option.map_some, Go.WideShapes.add_plain] at this
  exact this
/-- A list of rows that can be read, as elements. -/
theorem irr_els {w : World} {B : Nat} {A : Option Addr} {rs : List (List Int)} (h : IRR w B A rs) : ∃ es : List El, es.map El.xs = rs ∧ Reads w B 1 A rs.length (es.map El.v) ∧ ∀ e ∈ es, e.xs.length ≤ e.q ∧ IR w B e.A e.xs := by
  rcases Nat.eq_zero_or_pos rs.length with h0 | h0
  · obtain rfl := List.eq_nil_of_length_eq_zero h0
    exact ⟨[], rfl, ⟨rfl, fun h => absurd h (Nat.lt_irrefl _)⟩, fun e he => by simp at he⟩
  · obtain ⟨b, o, rfl, hb, hcr⟩ := h h0
    have hex : ∀ k, ∃ e : El, k < rs.length → e.xs = rs.getD k [] ∧ w.cell? ⟨b, o + k, none⟩ = some e.v ∧ e.xs.length ≤ e.q ∧ IR w B e.A e.xs := by
      intro k
      by_cases hk : k < rs.length
      · obtain ⟨Q, q, h1, h2, h3⟩ := hcr k hk
        exact ⟨⟨Q, q, rs.getD k []⟩, fun _ => ⟨rfl, h1, h2, h3⟩⟩
      · exact ⟨E0, fun h => absurd h hk⟩
    obtain ⟨f, hf⟩ := Classical.skolem.1 hex
    refine ⟨(List.range rs.length).map f, ?_, ⟨by simp, fun _ => ⟨_, rfl, hb, fun j u hu => ?_⟩⟩, fun e he => ?_⟩
    · apply List.ext_getElem
      · simp
      · intro i h1 h2
        simp only [List.getElem_map, List.getElem_range]
        rw [(hf i h2).1]
        simp [List.getD, h2]
    · have hj : j < rs.length := by
        have := (List.getElem?_eq_some_iff.1 hu).1
        simpa using this
      rw [Go.WideShapes.add_plain, (hf j hj).2.1, ← hu]
      simp [hj]
    · obtain ⟨k, hk, rfl⟩ := List.mem_map.1 he
      have := hf k (List.mem_range.1 hk)
      exact this.2.2
theorem rot_map {α β : Type} (f : α → β) (k : Nat) (l : List α) : rot k (l.map f) = (rot k l).map f := by simp [rot, List.map_drop, List.map_take]
theorem rot_mem {α : Type} {k : Nat} {l : List α} {x : α} (h : x ∈ rot k l) : x ∈ l := by
  unfold rot at h
  rcases List.mem_append.1 h with h | h
  · exact List.mem_of_mem_drop h
  · exact List.mem_of_mem_take h

/-- 'append(rows, row)' onto a list of rows that the call owns, inside a region that draws its order. -/
theorem step_pushE {w : World} {ops : Array Oper} {o : Oper} {a : Act} {K : Act → World → Prop} {Q : Exit → Act → World → Prop} {E : Prop} (hgd : o.guard = none) (s x : Operand)
    (ho : o.op = .call { callee := .builtin .append, args := #[s, x], argTypes := #[25, 25] })
    (base : Nat) (v : Value) (es : List El) (hs : a.eval s = v) (w0 : World) (h : OwnE w0 base v es) (hb : Below w0.heap.size w0 w)
    (g : Nat) (A1 : Option Addr) (n c : Nat) (xs1 : List Int) (hx : a.eval x = .slice (some ⟨g, 0, none⟩) 1 1) (hbk : Blk w g 51 #[.slice A1 n c])
    (hr1 : IWr w w0.heap.size w.heap.size A1 xs1) (hl1 : xs1.length = n) (hnc : n ≤ c) (h63 : es.length + 1 ≤ 1048576) (hbase : base ≤ w0.heap.size)
    (hK : ∀ v' w', OwnE w' base v' (es ++ [⟨A1, c, xs1⟩]) → Below base w w' → w.grownBy w' v.ownBlock → K (a.put o.dst v') w') :
    if Region.wanted o (yielded ops a.tmps) = true then Oper.wp Try.prog o a w K Q else E := by
  obtain ⟨i0, hi, hz0, hz1, hz2⟩ := info_parts info_row
  have hsz := hb.size
  refine step_append_any w hgd s x _ ho base 51 i0 _ 1 24 Try.underlying25 hi hz0 hz1 hz2 rfl (by decide) v es.length (es.map El.v) hs (own_belowA h.1 hb) w.heap.size _ 1 _ [.slice A1 n c] hx ⟨rfl, fun _ => ⟨_, rfl, hbk.lt, fun j u hu => ?_⟩⟩ (by intro u hu; simp at hu; rcases hu with rfl; rfl) (by unfold maxLen; omega) (by omega) (by omega) fun v' w' h2 h3 h4 => ?_
  · have := hbk.cell j
    rw [Go.WideShapes.add_plain, Nat.zero_add]
    rw [this]
    rw [← hu]
    simp
  · have hv1 : Value.slice A1 n c = El.v ⟨A1, c, xs1⟩ := by simp [El.v, hl1]
    refine hK v' w' (h.pushed hb (news := [⟨A1, c, xs1⟩]) (fun e he => ?_) (by simp) hbase ?_ h3 h4) ((Below.refl base w).grown h3 (by omega) (fun j hj => (h.1.lt j hj).1)) h3
    · simp only [List.mem_cons, List.not_mem_nil, or_false] at he
      rcases he with rfl
      exact ⟨by simp only [hl1]; exact hnc, hr1⟩
    · simp only [List.map_cons, List.map_nil, List.length_cons, List.length_nil, Nat.zero_add, ← hv1]
      exact h2

theorem shiftBy_any (a b : Int) (w : World) :
    Calls Try.prog 68 #[.int .i64 a, .int .i64 b] w fun e w' =>
      e = .returned (.func (.func 119) #[] #[.pointer (some ⟨w.heap.size, 0, none⟩), .pointer (some ⟨w.heap.size + 1, 0, none⟩)]) ∧
      w' = (w.alloc (.cells #[.int .i64 a] 2)).alloc (.cells #[.int .i64 b] 2) := by
  go_enter Try.func68, Try.ntmps68
  go_wp2_with fail
  go_ret
  exact ⟨rfl, rfl⟩

set_option maxRecDepth 100000 in
set_option maxHeartbeats 4000000 in
theorem shiftBy1_any (B : Option Addr) (m d : Nat) (rs : List (List Int)) (wd a b ga gb : Nat) (w : World) (hm : 1 ≤ m ∧ m ≤ 8) (hmd : m ≤ d) (hw : 1 ≤ wd ∧ wd ≤ 8) (hlr : rs.length = m) (hwd : ∀ k, k < m → (rs.getD k []).length = wd) (hB : IRR w w.heap.size B rs) (ha : a < m) (hb : b < wd)
    (hga : Blk w ga 2 #[.int .i64 (a : Int)]) (hgb : Blk w gb 2 #[.int .i64 (b : Int)]) :
    Calls Try.prog 119 #[.slice B m d, .pointer (some ⟨ga, 0, none⟩), .pointer (some ⟨gb, 0, none⟩)] w fun e w' => ∃ A cap, e = .returned (.slice A m cap) ∧ IWW w' w.heap.size w'.heap.size A (shR a b rs) ∧ Below w.heap.size w w' := by
  obtain ⟨hm1, hm8⟩ := hm
  obtain ⟨hw1, hw8⟩ := hw
  obtain ⟨es, hes, hrd, hel⟩ := irr_els hB
  obtain ⟨B0, o, rfl, hb0, -⟩ := hB (by omega)
  rw [hlr] at hrd
  have hle : es.length = m := by rw [← hlr, ← hes, List.length_map]
  have hrl : (rot a es).length = m := by rw [rot_len, hle]
  have hr1 := hrd.drop_ (k := a) (cap := d) (by omega) hmd
  have hr2 := hrd.take (k := a) (by omega)
  have HR := Lib.hid (And.intro hr1 hr2)
  have hall : ∀ e ∈ rot a es, e.xs.length = wd ∧ e.xs.length ≤ e.q ∧ IR w w.heap.size e.A e.xs := fun e he => by
    have h1 := rot_mem he
    refine ⟨?_, hel e h1⟩
    obtain ⟨k, hk, e1⟩ := List.mem_iff_getElem.1 h1
    have := hwd k (by omega)
    rw [← hes] at this
    simpa [List.getD, hk, e1] using this
  have HALL := Lib.hid hall
  have hone : ∀ l : List El, ∀ u ∈ l.map El.v, u.oneCell' = true := fun l u hu => by
    obtain ⟨e, _, rfl⟩ := List.mem_map.1 hu
    rfl
  have hsr : shR a b rs = (rot a es).map fun e => rot b e.xs := by
    unfold shR
    rw [← hes, rot_map, List.map_map]
    rfl
  have HSR := Lib.hid hsr
  have c1 := hga.rd 0 rfl
  have ha1 : (0 : Int) ≤ (a : Int) := by omega
  have ha2 : (a : Int) ≤ (m : Int) := by omega
  have ha3 : (a : Int) ≤ (d : Int) := by omega
  have ha4 : (m : Int) ≤ (d : Int) := by omega
  have ha5 : ¬ d = a := by omega
  have HGB := Lib.hid hgb
  have hgalt := hga.lt
  have HGA := Lib.hid hga
  have hma : m - a + a = m := by omega
  clear hrd hel hr1 hr2 hall hga hgb hsr
  go_enter Try.func119, Try.ntmps119
  go_wp2_with fail
  go_region_held3 (fun w' => w'.cell? ⟨ga, 0, none⟩ = some (.int .i64 (a : Int)))
    (first | go_keep | exact (HGA.out.below hbb HGA.out.lt).rd 0 rfl | exact (HGA.out.ext ((Ext.refl _).alloc _)).rd 0 rfl | exact (HGA.out.ext ((Ext.refl _).alloc _).drew).rd 0 rfl)
    (first
      | (go_at_call 120
         refine (concatR_any w.heap.size 2 (some ⟨B0, o + a, none⟩) (some ⟨B0, o, none⟩) (m - a) (d - a) a d ((es.map El.v).drop a) ((es.map El.v).take a) _ (by omega) (fun u hu => hone _ u (List.mem_of_mem_drop hu)) (fun u hu => hone _ u (List.mem_of_mem_take hu)) (by exact Blk.new w _ _) ((HR.out.1.alloc (Nat.le_refl _) _).drew.more (by simp)) ((HR.out.2.alloc (Nat.le_refl _) _).drew.more (by simp))).mono ?_
         rintro e w1 ⟨v1, rfl, hb1, ho1⟩
         rw [hma] at ho1
         obtain ⟨g1, cap1, rfl, hbg1, hlt1⟩ := ho1.form (by omega)
         have hbb := ((Below.refl w.heap.size w).alloc (Nat.le_refl _) (Obj.cells #[.slice (some ⟨B0, o + a, none⟩) (m - a) (d - a), .slice (some ⟨B0, o, none⟩) a d] 25)).drew.trans (hb1.mono (by simp))))
  have hB1 := Lib.hid hbb
  have hO1 := Lib.hid ho1
  have hGA1 := Lib.hid (HGA.out.below hbb HGA.out.lt)
  have hGB1 := Lib.hid (HGB.out.below hbb HGB.out.lt)
  have HALL1 := Lib.hid (fun e he => let h := HALL.out e he; (⟨h.1, h.2.1, h.2.2.below hbb (Nat.le_refl _)⟩ : e.xs.length = wd ∧ e.xs.length ≤ e.q ∧ IR w1 w.heap.size e.A e.xs))
  have hs1 := hbb.size
  have HCL := Lib.hid (ho1.cells (g := g1) rfl)
  clear hbb ho1 hb1 HGA HGB HALL HR hB
  go_wp2_with fail
  clear c1
  go_loopw [5, 17] (fun v i wr => ∃ (y : Nat) (fs : List El), y ≤ m ∧ i = .int .i64 y ∧ OwnE wr w1.heap.size v fs ∧ fs.map El.xs = ((rot a es).take y).map (fun e => rot b e.xs) ∧ Below w1.heap.size w1 wr) (fun _ i _ => m - (intOf i).toNat)
  case atStart => exact ⟨0, [], Nat.zero_le _, rfl, OwnE.nil _ _, rfl, Below.refl _ _⟩
  case round =>
    obtain ⟨y, fs, hy, rfl, hown, hfs, hbw⟩ := hrel
    have HO := Lib.hid hown
    have HF := Lib.hid hfs
    have HBW := Lib.hid hbw
    have hsw := hbw.size
    have hfl : fs.length = y := by
      have := congrArg List.length hfs
      simpa [hrl, hy] using this
    clear hown hfs hbw
    by_cases hlt : y < m
    · obtain ⟨e, hE⟩ : ∃ e, e = (rot a es).getD y E0 := ⟨_, rfl⟩
      have hmem : e ∈ rot a es := by rw [hE]; exact el_mem (by omega)
      have hget : ((rot a es).map El.v)[y]? = some e.v := by rw [hE]; exact el_map (by omega)
      obtain ⟨hel, heq, hei⟩ := HALL1.out e hmem
      have hce : wr.cell? ⟨g1, y, none⟩ = some (.slice e.A e.xs.length e.q) := by
        have h1 := HCL.out y e.v (by
          rw [← hget]
          unfold rot
          rw [← List.map_drop, ← List.map_take, List.map_append])
        rw [Go.WideShapes.add_plain, Nat.zero_add] at h1
        exact (HBW.out.cell (p := ⟨g1, y, none⟩) hlt1).trans h1
      have HFS : Hid ((fs.map El.xs) ++ [rot b e.xs] = ((rot a es).take (y + 1)).map (fun e => rot b e.xs)) := Lib.hid (by
        rw [List.take_succ_eq_append_getElem (by omega), List.map_append, HF.out]
        simp only [List.map_cons, List.map_nil]
        rw [hE, el_get (by omega)])
      clear hE hget hmem
      obtain ⟨Q, q, row⟩ := e
      simp only at hel heq hei hce HFS
      rw [hel] at hce heq
      obtain ⟨bq, oq, rfl, hbq, -⟩ := hei (by omega)
      have hrr := reads_of_ir (hei.below (HBW.out.mono hs1) (Nat.le_refl _)) hel
      have HRR := Lib.hid (And.intro (hrr.drop_ (k := b) (cap := q) (by omega) heq) (hrr.take (k := b) (by omega)))
      have HRL := Lib.hid (show (rot b row).length = wd by rw [rot_len, hel])
      have HV := Lib.hid (show (vis row).drop b ++ (vis row).take b = vis (rot b row) by unfold vis rot; rw [← List.map_drop, ← List.map_take, List.map_append])
      have hb1 : (0 : Int) ≤ (b : Int) := by omega
      have hb2 : (b : Int) ≤ (wd : Int) := by omega
      have hb3 : (b : Int) ≤ (q : Int) := by omega
      have hb4 : (wd : Int) ≤ (q : Int) := by omega
      have hb5 : ¬ q = b := by omega
      have hwb : wd - b + b = wd := by omega
      have hgb := hGB1.out.below HBW.out hGB1.out.lt
      have c2 := hgb.rd 0 rfl
      have HGB := Lib.hid hgb
      clear hei hrr hgb
      go_wp2_with fail
      clear hce
      go_region_held3 (fun w' => w'.cell? ⟨gb, 0, none⟩ = some (.int .i64 (b : Int)))
        (first | go_keep | exact c3 | exact (HGB.out.ext ((Ext.refl _).alloc _)).rd 0 rfl | exact (HGB.out.ext ((Ext.refl _).alloc _).drew).rd 0 rfl | exact c9)
        (first
          | (go_at_call 121
             refine (concatI_any wr.heap.size 2 (some ⟨bq, oq + b, none⟩) (some ⟨bq, oq, none⟩) (wd - b) (q - b) b q ((vis row).drop b) ((vis row).take b) _ (by omega) (fun u hu => vis_one _ u (List.mem_of_mem_drop hu)) (fun u hu => vis_one _ u (List.mem_of_mem_take hu)) (by exact Blk.new wr _ _) (((HRR.out.1.more (Nat.le_trans hs1 hsw)).alloc (Nat.le_refl _) _).drew.more (by simp)) (((HRR.out.2.more (Nat.le_trans hs1 hsw)).alloc (Nat.le_refl _) _).drew.more (by simp))).mono ?_
             rintro e w3 ⟨v3, rfl, hb3, ho3⟩
             rw [hwb, HV.out] at ho3
             obtain ⟨A3, cap3, rfl, hc3, htw3⟩ := own_iwr ho3 HRL.out
             have hbb3 := ((Below.refl wr.heap.size wr).alloc (Nat.le_refl _) (Obj.cells #[.slice (some ⟨bq, oq + b, none⟩) (wd - b) (q - b), .slice (some ⟨bq, oq, none⟩) b q] 51)).drew.trans (hb3.mono (by simp))
             have c3 := (HGB.out.below hbb3 HGB.out.lt).rd 0 rfl)
          | (refine step_pushE rfl (.tmp 21) (.tmp 30) rfl w1.heap.size u5 fs (by go_simp) wr HO.out (hbb3.trans (((Below.refl _ w3).alloc (by first | exact hbb3.size | (have := hbb3.size; simp; omega)) _))) w3.heap.size A3 wd cap3 (rot b row) (by go_simp) (Blk.new w3 _ _) ((((htw3.ext ((Ext.refl _).alloc _)).up (by simp)).low (by simp))) HRL.out hc3 (by omega) hsw ?_
             intro v9 w9 hown9 hB9 hgrow9
             have hb9 := HBW.out.trans ((hbb3.mono hsw).trans ((((Below.refl w1.heap.size w3).alloc (Nat.le_trans hsw hbb3.size) (Obj.cells #[.slice A3 wd cap3] 51))).trans hB9))
             have c9 := (hGB1.out.below hb9 hGB1.out.lt).rd 0 rfl))
      all_goals
        have N1 := Lib.hid hown9
        have N2 := Lib.hid hb9
        have N3 := Lib.hid (show (fs ++ [El.mk A3 cap3 (rot b row)]).map El.xs = ((rot a es).take (y + 1)).map (fun e => rot b e.xs) by rw [List.map_append]; exact HFS.out)
        clear hown9 hb9 hB9 hgrow9 hbb3 hb3 ho3 htw3
        go_wp2_with fail
        go_roundw
        case rel => first | exact ⟨y + 1, _, by omega, by go_num, N1.out, N3.out, N2.out⟩ | ((repeat apply Exists.intro); exact ⟨⟨y + 1, _, by omega, by go_num, N1.out, N3.out, N2.out⟩, rfl⟩)
        case measure => simp [intOf]; omega
    · obtain rfl : y = m := by omega
      have hfin := HF.out
      rw [List.take_of_length_le (by omega), ← HSR.out] at hfin
      obtain ⟨A6, cap6, hv6, hiww⟩ := (HO.out.low hs1).done
      rw [hfin] at hiww
      have HW := Lib.hid (And.intro hv6 hiww)
      have HBB := Lib.hid (hB1.out.trans (HBW.out.mono hs1))
      clear hiww hfin
      rw [hfl] at hv6
      subst hv6
      go_wp2_with fail
      go_ret
      exact ⟨A6, cap6, rfl, HW.out.2, HBB.out⟩
end
end Go.Proofs.Ytjoaoimebdkpaaa
