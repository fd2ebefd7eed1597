/- The numbers of a list that have neighbours in it: the program's side. -/
import Derived.Test.YtcakbnfpmpdljaaLast1
import Derived.Test.YtcakbnfpmpdljaaAppI
import Derived.Test.YtcakbnfpmpdljaaInts
import Derived.Test.YtcakbnfpmpdljaaMem
import Derived.Test.YtcakbnfpmpdljaaRen1
import Derived.Deep.RegionLaw
import Derived.Deep.DeepCutAuto
import Derived.Lib.Hide
namespace Go.Proofs.Ytcakbnfpmpdljaa
set_option linter.unusedVariables false
set_option linter.unusedSimpArgs false
open Go.RowKit Go.Sort

theorem SeenB.far {w : World} {g : Nat} {t : TypeId} {sz : Nat} {p : List Int} (h : SeenB w g t sz p) {a : Addr} (hp : g ≠ a.block) (u : Value) : SeenB (w.setCell a u) g t sz p := by
  obtain ⟨cs, hb, hs, hc⟩ := h
  exact ⟨cs, hb.far hp u, hs, hc⟩
theorem SeenB.lt {w : World} {g : Nat} {t : TypeId} {sz : Nat} {p : List Int} (h : SeenB w g t sz p) : g < w.heap.size := by
  obtain ⟨cs, hb, hs, hc⟩ := h
  exact hb.lt
theorem SeenB.ext {w w' : World} {g : Nat} {t : TypeId} {sz : Nat} {p : List Int} (h : SeenB w g t sz p) (hx : Ext w w') : SeenB w' g t sz p := h.below (hx.below (Nat.le_refl _))
/-- The colours of west and east of each tile are less than C. -/
def colOk (C : Nat) (ts : List Tl) : Prop := ∀ k, k < ts.length → ∃ a b : Nat, (ts.getD k T0).1 = (a : Int) ∧ a < C ∧ (ts.getD k T0).2.2.1 = (b : Int) ∧ b < C
theorem colOk_set {c : Int} {C : Nat} {ts : List Tl} (hs : isSet c ts = true) (hC : c = (C : Int)) : colOk C ts := by
  intro k hk
  have hc := (isSet_col hs).2
  have hg : good c ts k = true := by
    simp only [isSet, Bool.and_eq_true] at hs
    exact List.all_eq_true.1 hs.2 k (List.mem_range.2 hk)
  simp only [good, Bool.and_eq_true] at hg
  have ht := hg.1
  simp only [tileOk, decide_eq_true_eq] at ht
  exact ⟨(ts.getD k T0).1.toNat, (ts.getD k T0).2.2.1.toNat, by omega, by omega, by omega, by omega⟩
def wcol (ts : List Tl) (xs : List Int) (k : Nat) : Int := (ts.getD (xs.getD k 0).toNat T0).1
def ecol (ts : List Tl) (xs : List Int) (k : Nat) : Int := (ts.getD (xs.getD k 0).toNat T0).2.2.1
/-- The first k values of f. -/
def colL (f : Nat → Int) (k : Nat) : List Int := (List.range k).map f
theorem colL_succ (f : Nat → Int) (k : Nat) : colL f (k + 1) = colL f k ++ [f k] := by simp [colL, List.range_succ]
theorem colL_mem (f : Nat → Int) (k : Nat) (c : Int) : decide (c ∈ colL f k) = (List.range k).any fun y => decide (f y = c) := by
  rw [Bool.eq_iff_iff]
  simp [colL]

/-- Whether the k-th number's tile has neighbours on the list. -/
def keepB (ts : List Tl) (xs : List Int) (k : Nat) : Bool := (List.range xs.length).any (fun y => decide (ecol ts xs y = wcol ts xs k)) && (List.range xs.length).any (fun y => decide (wcol ts xs y = ecol ts xs k))
/-- The kept ones of the first k numbers. -/
def betwN (ts : List Tl) (xs : List Int) (k : Nat) : List Int := ((List.range k).filter (keepB ts xs)).map fun y => xs.getD y 0
theorem betwN_succ (ts : List Tl) (xs : List Int) (k : Nat) : betwN ts xs (k + 1) = betwN ts xs k ++ (if keepB ts xs k = true then [xs.getD k 0] else []) := by
  unfold betwN
  rw [List.range_succ, List.filter_append, List.map_append]
  congr 1
  by_cases h : keepB ts xs k = true <;> simp [h]
theorem betwN_le (ts : List Tl) (xs : List Int) (k : Nat) : (betwN ts xs k).length ≤ k := by
  unfold betwN
  rw [List.length_map]
  refine Nat.le_trans (List.length_filter_le _ _) ?_
  rw [List.length_range]
  exact Nat.le_refl _
theorem seen_two (W : World) (t : TypeId) (cs0 : Array Value) (C : Nat) (hF : cs0.size = C ∧ ∀ x : Nat, x < cs0.size → cs0[x]? = some (.bool false)) :
    SeenB ((W.alloc (Obj.cells cs0 t)).alloc (Obj.cells cs0 t)).drew W.heap.size t C [] ∧ SeenB ((W.alloc (Obj.cells cs0 t)).alloc (Obj.cells cs0 t)).drew (W.heap.size + 1) t C [] ∧ Ext W ((W.alloc (Obj.cells cs0 t)).alloc (Obj.cells cs0 t)).drew := by
  have h := hF.2
  refine ⟨?_, ?_, (((Ext.refl W).alloc _).alloc _).drew⟩
  · have := (SeenB.start (Blk.new W t cs0) hF.2).ext (((Ext.refl _).alloc (Obj.cells cs0 t)).drew)
    rw [hF.1] at this
    exact this
  · have := (SeenB.start (Blk.new (W.alloc (Obj.cells cs0 t)) t cs0) hF.2).ext ((Ext.refl _).drew)
    rw [hF.1] at this
    simpa using this
set_option maxRecDepth 100000 in
set_option maxHeartbeats 2000000 in
theorem between_any (C : Nat) (A : Option Addr) (n c : Nat) (ts : List Tl) (B : Option Addr) (m p : Nat) (xs : List Int) (w : World) (hn : n ≤ 1048576) (hl : ts.length = n) (hA : TR w w.heap.size A ts) (hC : C ≤ 1048576) (hs : colOk C ts)
    (hm : m ≤ 1048576) (hlx : xs.length = m) (hB : IR w w.heap.size B xs) (hxs : ∀ k, k < m → 0 ≤ xs.getD k 0 ∧ xs.getD k 0 < n) :
    Calls Try.prog 131 #[.agg #[.int .i64 (C : Int), .slice A n c], .slice B m p] w fun e w' => ∃ A' cap, e = .returned (.slice A' (betwN ts xs m).length cap) ∧ Below w.heap.size w w' ∧ IWr w' w.heap.size w'.heap.size A' (betwN ts xs m) := by
  obtain ⟨i0, hi, hz0, hz1, hz2⟩ := info_parts info_bool
  have hmk := fun W => run_make_rowN (P := Try.prog) 119 4 i0 _ (by kernel_rfl) hi hz0 .i64 .i64 C C (Nat.le_refl _) (by rw [hz2]; omega) (by omega) W
  rw [hz1] at hmk
  generalize hcs : madeCells (Value.cells (.bool false)) (C * 1) = cs0 at hmk
  have hfa := made_false hcs.symm
  have HF := Lib.hid hfa
  clear hcs hfa hi hz0 hz1 hz2
  have HX := Lib.hid hxs
  have HS := Lib.hid hs
  have HA := Lib.hid hA
  have HB0 := Lib.hid hB
  clear hxs hs hA hB
  go_enter Try.func131, Try.ntmps131
  go_wp2_with fail
  go_upto_region 1 with (fail)
  go_cut [5, 6] (fun v5 v6 wx => ∃ g1 g2 : Nat, v5 = .slice (some ⟨g1, 0, none⟩) C C ∧ v6 = .slice (some ⟨g2, 0, none⟩) C C ∧ g1 ≠ g2 ∧ w.heap.size + 1 ≤ g1 ∧ w.heap.size + 1 ≤ g2 ∧ SeenB wx g1 4 C [] ∧ SeenB wx g2 4 C [] ∧ Ext w wx ∧ Blk wx w.heap.size 29 #[.int .i64 (C : Int), .slice A n c])
  case first =>
    go_region
    all_goals (go_wp2_with fail)
    all_goals go_meet
    all_goals
      have hb0 := Blk.new w 29 #[.int .i64 (C : Int), .slice A n c]
      obtain ⟨k1, k2, k3⟩ := seen_two (w.alloc (Obj.cells #[.int .i64 (C : Int), .slice A n c] 29)) 4 cs0 C HF.out
      simp only [World.size_alloc] at k1 k2
      have k4 := ((Ext.refl w).alloc (Obj.cells #[.int .i64 (C : Int), .slice A n c] 29)).trans k3
      have k5 := hb0.ext k3
    · exact ⟨_, _, rfl, rfl, by omega, by omega, by omega, k1, k2, k4, k5⟩
    · exact ⟨_, _, rfl, rfl, by omega, by omega, by omega, k2, k1, k4, k5⟩
  case rest =>
    obtain ⟨g1, g2, rfl, rfl, hne, hg1, hg2, h5, h6, hE, hS⟩ := hcut
    obtain ⟨W1, hW1⟩ : ∃ W1, W1 = wc := ⟨_, rfl⟩
    subst hW1
    clear hmk
    have hs1 : w.heap.size < W1.heap.size := hS.lt
    have HH := Lib.hid (And.intro hs1 (And.intro hE hS))
    have H5 := Lib.hid h5
    have H6 := Lib.hid h6
    clear hE hS h5 h6 hs1
    go_wp2_with fail
    go_loopw [20] (fun ii wr => ∃ k : Nat, k ≤ m ∧ ii = .int .i64 k ∧ SeenB wr g1 4 C (colL (wcol ts xs) k) ∧ SeenB wr g2 4 C (colL (ecol ts xs) k) ∧ Below (w.heap.size + 1) W1 wr) (fun ii _ => m - (intOf ii).toNat)
    case atStart => exact ⟨0, Nat.zero_le _, rfl, H5.out, H6.out, Below.refl _ _⟩
    case round =>
      obtain ⟨k, hk, rfl, h5, h6, hb⟩ := hrel
      by_cases hlt : k < m
      · have hcx := (HB0.out.ext HH.out.2.1 (Nat.le_refl _)).below hb (by omega)
        obtain ⟨bx, ox, rfl, hbx, hcx⟩ := hcx (by omega)
        have q1 := hcx k (by omega)
        obtain ⟨j, hj⟩ : ∃ j : Nat, xs.getD k 0 = (j : Int) := ⟨(xs.getD k 0).toNat, by have := (HX.out k hlt).1; omega⟩
        have hjn : j < n := by have := (HX.out k hlt).2; omega
        have hat := (HA.out.ext HH.out.2.1 (Nat.le_refl _)).below hb (by omega)
        obtain ⟨b, o, rfl, hbb, ht⟩ := hat (by omega)
        replace ht := ht j (by omega)
        obtain ⟨a, e, ha, ha6, he, he6⟩ := HS.out j (by omega)
        have hw : wcol ts xs k = (a : Int) := by unfold wcol; rw [hj]; exact ha
        have hee : ecol ts xs k = (e : Int) := by unfold ecol; rw [hj]; exact he
        have p1 := ht.1
        have p2 := ht.2.2.1
        rw [hj] at q1
        rw [ha] at p1
        rw [he] at p2
        have r1 := (HH.out.2.2.below (B := w.heap.size + 1) hb (by omega)).rd 1 rfl
        have hbs := (Below.refl (w.heap.size + 1) wr).setCell (p := ⟨g1, a, none⟩) (by omega) (.bool true)
        have s1 := (hbs.cell (p := ⟨w.heap.size, 1, none⟩) (by show w.heap.size < _; omega)).trans r1
        have s2 := (hbs.cell (p := ⟨b, o + j * 4 + 2, none⟩) (by show b < _; omega)).trans p2
        obtain ⟨g5, z5⟩ := h5.at_ ha6
        have h6' := h6.far (a := ⟨g1, a, none⟩) (by show g2 ≠ g1; omega) (.bool true)
        obtain ⟨g6, z6⟩ := h6'.at_ he6
        have h5' := h5.step ha6
        rw [← hw, ← colL_succ] at h5'
        have h5'' := h5'.far (a := ⟨g2, e, none⟩) (by show g1 ≠ g2; omega) (.bool true)
        have h6'' := h6'.step he6
        rw [← hee, ← colL_succ] at h6''
        have HN := Lib.hid (And.intro h5'' (And.intro h6'' ((hb.trans hbs).setCell (p := ⟨g2, e, none⟩) (by omega) (.bool true))))
        have b1 : (a : Int) < (C : Int) := by omega
        have b2 : (e : Int) < (C : Int) := by omega
        have b3 : (j : Int) < (n : Int) := by omega
        clear ht ha he hw hee hat hcx hbs h5 h6 h6' h5' h5'' h6'' hb
        go_wp2_with fail
        go_roundw
        case rel => first | exact ⟨k + 1, by omega, by go_num, HN.out⟩ | ((repeat apply Exists.intro); exact ⟨⟨k + 1, by omega, by go_num, HN.out⟩, rfl⟩)
        case measure => simp [intOf]; omega
      · obtain rfl : k = m := by omega
        obtain ⟨W2, hW2⟩ : ∃ W2, W2 = wr := ⟨_, rfl⟩
        subst hW2
        have G5 := Lib.hid h5
        have G6 := Lib.hid h6
        have HB := Lib.hid hb
        clear h5 h6 hb
        go_wp2_with fail
        go_loopw [9, 43] (fun v ii wr => ∃ k' : Nat, k' ≤ k ∧ ii = .int .i64 k' ∧ wr.ownsRow W2.heap.size 2 1 v (betwN ts xs k').length (vis (betwN ts xs k')) ∧ Below W2.heap.size W2 wr) (fun _ ii _ => k - (intOf ii).toNat)
        case atStart => exact ⟨0, Nat.zero_le _, rfl, World.ownsRow_nil _ _ _ _, Below.refl _ _⟩
        case round =>
          obtain ⟨k', hk', rfl, hown, hb2⟩ := hrel
          have HO := Lib.hid hown
          have hlo : w.heap.size + 1 ≤ W2.heap.size := by have := HB.out.size; have := HH.out.1; omega
          have HB2 := Lib.hid hb2
          have hbw := HB.out.trans (hb2.mono (by omega : w.heap.size + 1 ≤ W2.heap.size))
          by_cases hlt' : k' < k
          · obtain ⟨bx, ox, rfl, hbx, hcx⟩ := ((HB0.out.ext HH.out.2.1 (Nat.le_refl _)).below hbw (by omega)) (by omega)
            have q1 := hcx k' (by omega)
            obtain ⟨j, hj⟩ : ∃ j : Nat, xs.getD k' 0 = (j : Int) := ⟨(xs.getD k' 0).toNat, by have := (HX.out k' hlt').1; omega⟩
            have hjn : j < n := by have := (HX.out k' hlt').2; omega
            obtain ⟨b, o, rfl, hbb, ht⟩ := ((HA.out.ext HH.out.2.1 (Nat.le_refl _)).below hbw (by omega)) (by omega)
            replace ht := ht j (by omega)
            obtain ⟨a, e, ha, ha6, he, he6⟩ := HS.out j (by omega)
            have hw : wcol ts xs k' = (a : Int) := by unfold wcol; rw [hj]; exact ha
            have hee : ecol ts xs k' = (e : Int) := by unfold ecol; rw [hj]; exact he
            have hkb : keepB ts xs k' = (decide ((a : Int) ∈ colL (ecol ts xs) k) && decide ((e : Int) ∈ colL (wcol ts xs) k)) := by unfold keepB; rw [colL_mem, colL_mem, hlx, hw, hee]
            have p1 := ht.1
            have p2 := ht.2.2.1
            rw [hj] at q1
            rw [ha] at p1
            rw [he] at p2
            have r1 := (HH.out.2.2.below (B := w.heap.size + 1) hbw (by omega)).rd 1 rfl
            have g6 := ((G6.out.below hb2).at_ ha6).1
            have g5 := ((G5.out.below hb2).at_ he6).1
            have hsc := betwN_succ ts xs k'
            have hle := betwN_le ts xs k'
            rw [hkb, hj] at hsc
            generalize decide ((a : Int) ∈ colL (ecol ts xs) k) = u1 at g6 hsc
            generalize decide ((e : Int) ∈ colL (wcol ts xs) k) = u2 at g5 hsc
            have b1 : (a : Int) < (C : Int) := by omega
            have b2 : (e : Int) < (C : Int) := by omega
            have b3 : (j : Int) < (n : Int) := by omega
            have HSC := Lib.hid hsc
            generalize hus : betwN ts xs k' = us at HO hle HSC
            have HUS := Lib.hid hus
            clear hus hsc hkb hw hee ha he ht hcx hown hb2 hbw
            cases hu : (u1 && u2) with
            | true =>
              have hu1 : u1 = true := by cases u1 <;> simp_all
              have hu2 : u2 = true := by cases u2 <;> simp_all
              subst hu1 hu2
              go_wp2_with (at_builtin; refine wpList_push rfl _ _ rfl W2.heap.size _ us.length _ rfl (HO.out.alloc _) wr.heap.size (j : Int) rfl (heap_alloc_new wr _) ?c1 ?c2 ?c3 ?_)
              case c1 => unfold maxLen; omega
              case c2 => omega
              case c3 => have := HB2.out.size; simp; omega
              intro v' w3 hown' hgrow _
              have e1 : betwN ts xs (k' + 1) = us ++ [(j : Int)] := by rw [HSC.out]; simp
              have O3 := Lib.hid (show w3.ownsRow W2.heap.size 2 1 v' (betwN ts xs (k' + 1)).length (vis (betwN ts xs (k' + 1))) by rw [e1, vis_snoc, List.length_append]; exact hown')
              have B3 := Lib.hid ((HB2.out.alloc HB2.out.size _).grown hgrow (by have := HB2.out.size; simp; omega) (fun j hj => (HO.out.lt j hj).1))
              clear hown' hgrow HO HB2 e1
              go_wp2_with fail
              go_roundw
              case rel => exact ⟨k' + 1, by omega, by go_num, O3.out, B3.out⟩
              case measure => simp [intOf]; omega
            | false =>
              have e1 : betwN ts xs (k' + 1) = us := by rw [HSC.out, hu]; simp
              have HE1 := Lib.hid e1
              clear e1
              cases u1 with
              | false =>
                go_wp2_with fail
                go_roundw
                case rel => exact ⟨k' + 1, by omega, by go_num, by rw [HE1.out]; exact HO.out, HB2.out⟩
                case measure => simp [intOf]; omega
              | true =>
                obtain rfl : u2 = false := by simpa using hu
                go_wp2_with fail
                go_roundw
                case rel => exact ⟨k' + 1, by omega, by go_num, by rw [HE1.out]; exact HO.out, HB2.out⟩
                case measure => simp [intOf]; omega
          · obtain rfl : k' = k := by omega
            obtain ⟨A2, cap2, rfl, hcap, htw⟩ := own_iwr HO.out rfl
            have HT := Lib.hid htw
            clear htw HO hown hb2
            go_wp2_with fail
            go_ret
            exact ⟨A2, cap2, rfl, (HH.out.2.1.below (Nat.le_refl _)).trans (hbw.mono (by omega)), HT.out.low (by omega)⟩
end Go.Proofs.Ytcakbnfpmpdljaa
