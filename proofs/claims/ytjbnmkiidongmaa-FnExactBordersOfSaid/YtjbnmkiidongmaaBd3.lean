/- The border words of a filling: both sides, all cases. -/
import Derived.Test.YtjbnmkiidongmaaBd2
namespace Go.Proofs.Ytjbnmkiidongmaa
set_option linter.unusedVariables false
set_option linter.unusedSimpArgs false
open Go.RowKit Go.Sort

set_option maxRecDepth 100000 in
set_option maxHeartbeats 4000000 in
theorem implBorders_no (c0 : Int) (A : Option Addr) (n c : Nat) (ts : List Tl) (B : Option Addr) (m p : Nat) (rs : List (List Int)) (code : Int) (w : World) (hn : n ≤ 1048576) (hl : ts.length = n) (hA : TR w w.heap.size A ts) (hm : m ≤ 1048576) (hlr : rs.length = m) (hB : IRR w w.heap.size B rs) (hrow : ∀ k, k < m → (rs.getD k []).length ≤ 1048576) (hc : fillCode c0 ts rs = code) (hz : code ≠ 0) :
    Calls Try.prog 25 #[.agg #[.int .i64 c0, .slice A n c], .slice B m p] w fun ee w' => ee = .returned (.tuple #[.slice none 0 0, .int .i64 code]) ∧ Below w.heap.size w w' := by
  have hfill : ∀ W, Ext w W → Calls Try.prog 67 #[.agg #[.int .i64 c0, .slice A n c], .slice B m p] W _ := fun W hW => implFilling_any c0 A n c ts B m p rs W hn hl ((hA.ext hW (Nat.le_refl _)).more (hW.below (Nat.le_refl _)).size) hm hlr ((hB.ext hW (Nat.le_refl _)).more (hW.below (Nat.le_refl _)).size) hrow
  rw [hc] at hfill
  unfold BoolRes at hfill
  have HF := Lib.hid hfill
  have hne : (code != 0) = true := by simp [hz]
  clear hfill hrow hA hB hlr hc
  generalize fillAns c0 ts rs = ans at HF
  go_enter Try.func25, Try.ntmps25
  go_wp2_with fail
  refine (HF.out _ ((Ext.refl w).alloc _)).mono ?_
  rintro ee W0 ⟨rfl, hx⟩
  have HE := Lib.hid ((((Ext.refl w).alloc (Obj.cells #[.int .i64 c0, .slice A n c] 35)).below (Nat.le_refl _)).trans (hx.mono (by simp)))
  clear hx
  go_wp2_with fail
  go_ret2
  exact ⟨rfl, HE.out⟩
set_option maxRecDepth 100000 in
set_option maxHeartbeats 4000000 in
theorem implBorders_bad (c0 : Int) (A : Option Addr) (n c : Nat) (ts : List Tl) (B : Option Addr) (m p : Nat) (rs : List (List Int)) (w : World) (hn : n ≤ 1048576) (hl : ts.length = n) (hA : TR w w.heap.size A ts) (hm : m ≤ 1048576) (hlr : rs.length = m) (hB : IRR w w.heap.size B rs) (hrow : ∀ k, k < m → (rs.getD k []).length ≤ 1048576) (hs : isSet c0 ts = true) (hok : rowsOk ts rs = true) (hgood : goodB ts rs = false) :
    Calls Try.prog 25 #[.agg #[.int .i64 c0, .slice A n c], .slice B m p] w fun ee w' => ee = .returned (.tuple #[.slice none 0 0, .int .i64 5]) ∧ Below w.heap.size w w' := by
  have hfill : ∀ W, Ext w W → Calls Try.prog 67 #[.agg #[.int .i64 c0, .slice A n c], .slice B m p] W _ := fun W hW => implFilling_any c0 A n c ts B m p rs W hn hl ((hA.ext hW (Nat.le_refl _)).more (hW.below (Nat.le_refl _)).size) hm hlr ((hB.ext hW (Nat.le_refl _)).more (hW.below (Nat.le_refl _)).size) hrow
  rw [fa0 hs hok, hgood, fc0 hs hok] at hfill
  unfold BoolRes at hfill
  have HF := Lib.hid hfill
  clear hfill hrow hA hB hlr
  go_enter Try.func25, Try.ntmps25
  go_wp2_with fail
  refine (HF.out _ ((Ext.refl w).alloc _)).mono ?_
  rintro ee W0 ⟨rfl, hx⟩
  have HE := Lib.hid ((((Ext.refl w).alloc (Obj.cells #[.int .i64 c0, .slice A n c] 35)).below (Nat.le_refl _)).trans (hx.mono (by simp)))
  clear hx
  go_wp2_with fail
  go_ret2
  exact ⟨rfl, HE.out⟩

set_option maxRecDepth 100000 in
set_option maxHeartbeats 4000000 in
theorem specBorders_no (c0 : Int) (A : Option Addr) (n c : Nat) (ts : List Tl) (B : Option Addr) (m p : Nat) (rs : List (List Int)) (code : Int) (w : World) (hn : n ≤ 1048576) (hl : ts.length = n) (hA : TR w w.heap.size A ts) (hm : m ≤ 1048576) (hlr : rs.length = m) (hB : IRR w w.heap.size B rs) (hrow : ∀ k, k < m → (rs.getD k []).length ≤ 1048576) (hc : fillCode c0 ts rs = code) (hz : code ≠ 0) :
    Calls Try.prog 22 #[.agg #[.int .i64 c0, .slice A n c], .slice B m p] w fun ee w' => ee = .returned (.tuple #[.slice none 0 0, .int .i64 code]) ∧ Below w.heap.size w w' := by
  have har : ∀ W, Ext w W → Calls Try.prog 64 #[.agg #[.int .i64 c0, .slice A n c], .slice B m p] W _ := fun W hW => l01Rows_any c0 A n c ts B m p rs W hn hl ((hA.ext hW (Nat.le_refl _)).more (hW.below (Nat.le_refl _)).size) hm hlr ((hB.ext hW (Nat.le_refl _)).more (hW.below (Nat.le_refl _)).size) hrow
  rw [hc] at har
  have HR := Lib.hid har
  have hne : (code != 0) = true := by simp [hz]
  clear har hrow hA hB hlr hc
  go_enter Try.func22, Try.ntmps22
  go_wp2_with fail
  refine (HR.out _ ((Ext.refl w).alloc _)).mono ?_
  rintro e w1 ⟨rfl, hx⟩
  have HX := Lib.hid (((Ext.refl w).alloc _).trans hx)
  clear hx
  go_wp2_with fail
  go_ret2
  exact ⟨rfl, HX.out.below (Nat.le_refl _)⟩
set_option maxRecDepth 100000 in
set_option maxHeartbeats 4000000 in
theorem specBorders_bad (c0 : Int) (A : Option Addr) (n c : Nat) (ts : List Tl) (B : Option Addr) (m p : Nat) (rs : List (List Int)) (w : World) (hn : n ≤ 1048576) (hl : ts.length = n) (hA : TR w w.heap.size A ts) (hm : m ≤ 1048576) (hlr : rs.length = m) (hB : IRR w w.heap.size B rs) (hrow : ∀ k, k < m → (rs.getD k []).length ≤ 1048576) (hs : isSet c0 ts = true) (hok : rowsOk ts rs = true) (hgood : goodB ts rs = false) :
    Calls Try.prog 22 #[.agg #[.int .i64 c0, .slice A n c], .slice B m p] w fun ee w' => ee = .returned (.tuple #[.slice none 0 0, .int .i64 5]) ∧ Below w.heap.size w w' := by
  have har : ∀ W, Ext w W → Calls Try.prog 64 #[.agg #[.int .i64 c0, .slice A n c], .slice B m p] W _ := fun W hW => l01Rows_any c0 A n c ts B m p rs W hn hl ((hA.ext hW (Nat.le_refl _)).more (hW.below (Nat.le_refl _)).size) hm hlr ((hB.ext hW (Nat.le_refl _)).more (hW.below (Nat.le_refl _)).size) hrow
  have hgd : ∀ W, Ext w W → Calls Try.prog 65 #[.agg #[.int .i64 c0, .slice A n c], .slice B m p] W _ := fun W hW => l01Good_any c0 A n c ts B m p rs W hn hl ((hA.ext hW (Nat.le_refl _)).more (hW.below (Nat.le_refl _)).size) hm hlr ((hB.ext hW (Nat.le_refl _)).more (hW.below (Nat.le_refl _)).size) hok
  rw [fc0 hs hok] at har
  rw [hgood] at hgd
  have HR := Lib.hid har
  have HG := Lib.hid hgd
  clear har hgd hrow hA hB hlr
  go_enter Try.func22, Try.ntmps22
  go_wp2_with fail
  refine (HR.out _ ((Ext.refl w).alloc _)).mono ?_
  rintro e w1 ⟨rfl, hx⟩
  have hb := (Blk.new w 35 #[.int .i64 c0, .slice A n c]).ext hx
  have r0 := hb.rd 0 rfl
  have r1 := hb.rd 1 rfl
  have HX := Lib.hid (((Ext.refl w).alloc _).trans hx)
  clear hx hb
  go_wp2_with fail
  refine (HG.out _ HX.out).mono ?_
  rintro e w2 ⟨rfl, hx⟩
  have HX2 := Lib.hid (HX.out.trans hx)
  clear hx r0 r1
  go_wp2_with fail
  go_ret2
  exact ⟨rfl, HX2.out.below (Nat.le_refl _)⟩
set_option maxRecDepth 100000 in
set_option maxHeartbeats 4000000 in
theorem specBorders_0 (c0 : Int) (A : Option Addr) (n c : Nat) (ts : List Tl) (B : Option Addr) (m p : Nat) (rs : List (List Int)) (e d : Nat) (w : World) (hn : n ≤ 1048576) (hl : ts.length = n) (hA : TR w w.heap.size A ts) (hm : m ≤ 1048576) (hlr : rs.length = m) (hB : IRR w w.heap.size B rs) (hrow : ∀ k, k < m → (rs.getD k []).length ≤ 1048576) (hm1 : m = e + 1) (he : e < 8) (hd : d < 8) (hs : isSet c0 ts = true) (hok : rowsOk ts rs = true) (hgood : goodB ts rs = true) (hwd : (rs.getD 0 []).length = d + 1) :
    Calls Try.prog 22 #[.agg #[.int .i64 c0, .slice A n c], .slice B m p] w fun ee w' => ∃ R cap, ee = .returned (.tuple #[.slice R 4 cap, .int .i64 0]) ∧ Below w.heap.size w w' ∧ IWW w' w.heap.size w'.heap.size R (brd ts rs e d) := by
  have har : ∀ W, Ext w W → Calls Try.prog 64 #[.agg #[.int .i64 c0, .slice A n c], .slice B m p] W _ := fun W hW => l01Rows_any c0 A n c ts B m p rs W hn hl ((hA.ext hW (Nat.le_refl _)).more (hW.below (Nat.le_refl _)).size) hm hlr ((hB.ext hW (Nat.le_refl _)).more (hW.below (Nat.le_refl _)).size) hrow
  have hgd : ∀ W, Ext w W → Calls Try.prog 65 #[.agg #[.int .i64 c0, .slice A n c], .slice B m p] W _ := fun W hW => l01Good_any c0 A n c ts B m p rs W hn hl ((hA.ext hW (Nat.le_refl _)).more (hW.below (Nat.le_refl _)).size) hm hlr ((hB.ext hW (Nat.le_refl _)).more (hW.below (Nat.le_refl _)).size) hok
  have hbd : ∀ W, Ext w W → Calls Try.prog 66 #[.agg #[.int .i64 c0, .slice A n c], .slice B m p] W _ := fun W hW => l01Borders_any c0 A n c ts B m p rs e d W hn hl ((hA.ext hW (Nat.le_refl _)).more (hW.below (Nat.le_refl _)).size) hm1 he hd hlr ((hB.ext hW (Nat.le_refl _)).more (hW.below (Nat.le_refl _)).size) hok hwd
  rw [fc0 hs hok] at har
  rw [hgood] at hgd
  have HR := Lib.hid har
  have HG := Lib.hid hgd
  have HD := Lib.hid hbd
  clear har hgd hbd hrow hA hB hlr hm1 hwd he hd hm hn hl
  go_enter Try.func22, Try.ntmps22
  go_wp2_with fail
  refine (HR.out _ ((Ext.refl w).alloc _)).mono ?_
  rintro e w1 ⟨rfl, hx⟩
  have hb := (Blk.new w 35 #[.int .i64 c0, .slice A n c]).ext hx
  have r0 := hb.rd 0 rfl
  have r1 := hb.rd 1 rfl
  have HX := Lib.hid (((Ext.refl w).alloc _).trans hx)
  have HBK := Lib.hid hb
  clear hx hb
  go_wp2_with fail
  refine (HG.out _ HX.out).mono ?_
  rintro e w2 ⟨rfl, hx⟩
  have hb := HBK.out.ext hx
  have HX2 := Lib.hid (HX.out.trans hx)
  clear hx r0 r1 HBK
  have r0 := hb.rd 0 rfl
  have r1 := hb.rd 1 rfl
  clear hb
  go_wp2_with fail
  refine (HD.out _ HX2.out).mono ?_
  rintro e w3 ⟨R, cap, rfl, hb, hw⟩
  have HX3 := Lib.hid ((HX2.out.below (Nat.le_refl _)).trans (hb.mono (HX2.out.below (Nat.le_refl _)).size))
  have HW := Lib.hid (hw.low (HX2.out.below (Nat.le_refl _)).size)
  clear hb hw r0 r1
  go_wp2_with fail
  go_ret2
  exact ⟨_, _, rfl, HX3.out, HW.out⟩
end Go.Proofs.Ytjbnmkiidongmaa
