/- Whether a set is determined at a corner: the program's side. -/
import Derived.Test.YtjbnmkiidongmaaDet3
import Derived.Test.YtjbnmkiidongmaaIs2
import Derived.Test.YtjbnmkiidongmaaMem
namespace Go.Proofs.Ytjbnmkiidongmaa
set_option linter.unusedVariables false
set_option linter.unusedSimpArgs false
open Go.RowKit Go.Sort

theorem keptT_eq (s t : Tl) (i : Nat) (hi : i < 4) : keptT s i = keptT t i ↔ (colT s i = colT t i ∧ colT s ((i + 1) % 4) = colT t ((i + 1) % 4)) := by
  obtain ⟨a, b, c, d⟩ := s
  obtain ⟨a', b', c', d'⟩ := t
  obtain rfl | rfl | rfl | rfl : i = 0 ∨ i = 1 ∨ i = 2 ∨ i = 3 := by omega
  all_goals simp [keptT, colT]
  all_goals first | done | exact And.comm | (constructor <;> intro h <;> exact ⟨h.2, h.1⟩)
theorem detB_iff (ts : List Tl) (i : Nat) (hi : i < 4) : detB ts i ((i + 1) % 4) = true ↔ ∀ y, y < ts.length → ∀ x, x < y → keptT (ts.getD x T0) i ≠ keptT (ts.getD y T0) i := by
  constructor
  · intro h y hy x hx e
    have := (keptT_eq _ _ i hi).1 e
    rw [detB_at hy hx (by unfold sameAt; rw [decide_eq_true this.1.symm, decide_eq_true this.2.symm]; rfl)] at h
    exact absurd h (by decide)
  · intro h
    refine detB_all fun y x hy hx => ?_
    cases hs : sameAt ts i ((i + 1) % 4) y x with
    | false => rfl
    | true =>
      simp only [sameAt, Bool.and_eq_true, decide_eq_true_eq] at hs
      exact absurd ((keptT_eq _ _ i hi).2 ⟨hs.1.symm, hs.2.symm⟩) (h y hy x hx)
theorem wf64 {x : Int} (h0 : 0 ≤ x) (h1 : x < 1000) : (Lit.int .i64 x).wf = true := by
  show (decide (IntKind.i64.min ≤ x) && decide (x ≤ IntKind.i64.max)) = true
  rw [Bool.and_eq_true, decide_eq_true_eq, decide_eq_true_eq]
  have h2 : IntKind.i64.min = -9223372036854775808 := by decide
  have h3 : IntKind.i64.max = 9223372036854775807 := by decide
  omega
theorem kept_key {c : Int} {ts : List Tl} (hs : isSet c ts = true) {k i : Nat} (hk : k < ts.length) (hi : i < 4) : ∃ l, keyOf Try.prog 59 (tv (keptT (ts.getD k T0) i)) = some l := by
  have hc := (isSet_col hs).2
  have hg : good c ts k = true := by
    simp only [isSet, Bool.and_eq_true] at hs
    exact List.all_eq_true.1 hs.2 k (List.mem_range.2 hk)
  simp only [good, Bool.and_eq_true] at hg
  have ht := hg.1
  simp only [tileOk, decide_eq_true_eq] at ht
  generalize ts.getD k T0 = t at ht
  have w0 : (Lit.int .i64 0).wf = true := wf64 (by omega) (by omega)
  have wa := wf64 ht.1 (by omega)
  have wb := wf64 ht.2.2.1 (by omega)
  have wc := wf64 ht.2.2.2.2.1 (by omega)
  have wd := wf64 ht.2.2.2.2.2.2.1 (by omega)
  obtain rfl | rfl | rfl | rfl : i = 0 ∨ i = 1 ∨ i = 2 ∨ i = 3 := by omega
  · exact key_tile _ wa wb w0 w0
  · exact key_tile _ w0 wb wc w0
  · exact key_tile _ w0 w0 wc wd
  · exact key_tile _ wa w0 w0 wd
theorem ownsMap_ext {w w' : World} {P : Program} {k : TypeId} {R : Value → Option (DataW Unit × List MemPlace)} {b n : Nat} {D : DataW Unit} (h : w.ownsMap P k R b n D) (hx : Ext w w') : w'.ownsMap P k R b n D := by
  have hlt := h.lt
  obtain ⟨es, clock, hb, r⟩ := h
  exact ⟨es, clock, ((hx.below (Nat.le_refl _)).block b hlt).trans hb, r⟩

set_option maxRecDepth 100000 in
set_option maxHeartbeats 4000000 in
theorem implDet_0 (c0 : Int) (A : Option Addr) (n c : Nat) (ts : List Tl) (i : Nat) (w : World) (hn : n ≤ 1048576) (hl : ts.length = n) (hA : TR w w.heap.size A ts) (hs : isSet c0 ts = true) (hi : i < 4) :
    Calls Try.prog 34 #[.agg #[.int .i64 c0, .slice A n c], .int .i64 (i : Int)] w fun e w' => e = .returned (.tuple #[.bool (detB ts i ((i + 1) % 4)), .int .i64 0]) ∧ Below w.heap.size w w' := by
  have his : ∀ W, Ext w W → Calls Try.prog 70 #[.agg #[.int .i64 c0, .slice A n c]] W _ := fun W hW => isSet_any c0 A n c ts W (by omega) hl ((hA.ext hW (Nat.le_refl _)).more (hW.below (Nat.le_refl _)).size)
  rw [hs] at his
  have HI := Lib.hid his
  have HS := Lib.hid hs
  have HA := Lib.hid hA
  clear his hs hA
  obtain ⟨f, hf⟩ : ∃ f : Nat → Tl, f = fun x => keptT (ts.getD x T0) i := ⟨_, rfl⟩
  go_enter Try.func34, Try.ntmps34
  go_wp2_with fail
  refine (HI.out _ ((Ext.refl w).alloc _)).mono ?_
  rintro e w1 ⟨rfl, hx⟩
  have HB1 := Lib.hid (((Blk.new w 35 #[.int .i64 c0, .slice A n c]).ext hx).ext ((Ext.refl _).alloc (.map #[] 0)))
  have HXW := Lib.hid (show w.heap.size + 1 ≤ w1.heap.size by have := (hx.below (Nat.le_refl _)).size; simpa using this)
  have HX := Lib.hid ((((Ext.refl w).alloc _).trans hx).alloc (.map #[] 0))
  have HM := Lib.hid (MapInv.made w1 f)
  clear hx
  have hi3 : ¬ ((4 : Int) ≤ (i : Int)) := by omega
  have hmk := run_makeMap (P := Try.prog) 83 w1
  have r1 := HB1.out.rd 1 rfl
  go_wp2_with fail
  clear r1 hmk hi3
  obtain ⟨b, hb⟩ : ∃ b, b = w1.heap.size := ⟨_, rfl⟩
  have hbw : w.heap.size + 1 ≤ b := by
    have := HB1.out.lt
    rw [hb]
    have h2 := (((Ext.refl w).alloc (Obj.cells #[.int .i64 c0, .slice A n c] 35)).below (Nat.le_refl _)).size
    have h3 := HXW.out
    omega
  rw [← hb] at HM ⊢
  obtain ⟨W1, hW1⟩ : ∃ W1, W1 = w1.alloc (.map #[] 0) := ⟨_, rfl⟩
  have hbs : b + 1 ≤ W1.heap.size := by rw [hW1, hb]; simp
  rw [← hW1] at HM HX HB1 ⊢
  clear hW1 hb
  go_loopw [22] (fun ii wr => ∃ k : Nat, k ≤ n ∧ ii = .int .i64 k ∧ MapInv wr b f k ∧ Below b W1 wr) (fun ii _ => n - (intOf ii).toNat)
  case atStart => exact ⟨0, Nat.zero_le _, rfl, HM.out, Below.refl _ _⟩
  case round =>
    obtain ⟨k, hk, rfl, ⟨D, hown, hhas, hle, hsz⟩, hbl⟩ := hrel
    have HB := Lib.hid hbl
    have HO := Lib.hid hown
    have HD := Lib.hid (And.intro hhas (And.intro hle hsz))
    clear hown hhas hle hsz hbl
    by_cases hlt : k < n
    · obtain ⟨bb, o, rfl, hbb, ht⟩ := ((HA.out.ext HX.out (Nat.le_refl _)).below HB.out (by omega)) (by omega)
      replace ht := ht k (by omega)
      obtain ⟨l, hkey⟩ := kept_key HS.out (k := k) (i := i) (by omega) hi
      have hfk : f k = keptT (ts.getD k T0) i := by rw [hf]
      have hat := fun W => atCorner_any (ts.getD k T0) i W hi
      rw [← hfk] at hat hkey
      generalize ts.getD k T0 = t at ht hat
      obtain ⟨x0, x1, x2, x3⟩ := t
      obtain ⟨c0', c1, c2, c3⟩ := ht
      simp only at c0' c1 c2 c3
      have HAT := Lib.hid (show ∀ W, Calls Try.prog 73 #[.agg #[.int .i64 x0, .int .i64 x1, .int .i64 x2, .int .i64 x3], .int .i64 (i : Int)] W (fun e w' => e = .returned (tv (f k)) ∧ Ext W w') from hat)
      have HK := Lib.hid hkey
      clear hat hkey hfk
      go_wp2_with fail
      refine (HAT.out _).mono ?_
      rintro e w3 ⟨rfl, hx⟩
      have hx2 := ((Ext.refl wr).alloc (Obj.cells #[.int .i64 x0, .int .i64 x1, .int .i64 x2, .int .i64 x3] 59)).trans hx
      have hown3 := ownsMap_ext HO.out hx2
      have HX2 := Lib.hid hx2
      clear hx hx2 c0' c1 c2 c3
      generalize hv : tv (f k) = v
      have HV := Lib.hid hv
      rw [hv] at HK
      clear hv
      go_wp2_with (at_mapUpdate; refine wpList_mapUpdate_own _ rfl _ _ _ 83 rfl 59 4 tile_keyed Try.underlying83 _ b k D rfl hown3 (by unfold maxLen; omega) _ _ l rfl rfl HK.out (.lit (.bool true)) [] (plainElem_bool Try.underlying4 true) ?_; intro w4 hown4 hgrow4)
      have HI4 := Lib.hid (MapInv.put hown3 HD.out.1 HD.out.2.1 HD.out.2.2 (by rw [HV.out]; exact HK.out) hown4)
      have HB4 := Lib.hid ((HB.out.trans (HX2.out.below (by have := HB.out.size; omega))).grown hgrow4 (by have := HB.out.size; have := (HX2.out.below (Nat.le_refl _)).size; omega) (fun g hg => by cases hg; exact Nat.le_refl _))
      clear hown3 hown4 hgrow4 HO HD HK HV HX2 HB
      go_roundw
      case rel => first | exact ⟨k + 1, by omega, by go_num, HI4.out, HB4.out⟩ | ((repeat apply Exists.intro); exact ⟨⟨k + 1, by omega, by go_num, HI4.out, HB4.out⟩, rfl⟩)
      case measure => simp [intOf]; omega
    · obtain rfl : k = n := by omega
      have hq : ((Go.Maps.size D : Int) == (k : Int)) = detB ts i ((i + 1) % 4) := by
        rw [Bool.eq_iff_iff, detB_iff ts i hi, hl, beq_iff_eq, Int.ofNat_inj, HD.out.2.2, hf]
      have HQ := Lib.hid hq
      have hlen := fun ty => HO.out.len Try.underlying83 ty
      have r1 := (HB1.out.below HB.out (by omega)).rd 1 rfl
      generalize Go.Maps.size D = m at hlen HQ
      clear hq hf HO HD
      go_wp2_with fail
      go_ret2
      exact ⟨ret_bi HQ.out rfl, (HX.out.below (Nat.le_refl _)).trans (HB.out.mono (by omega))⟩
end Go.Proofs.Ytjbnmkiidongmaa
