/- Whether rows are a filling: the model's door. -/
import Derived.Test.YtdkodmmbgflijaaFil4
namespace Go.Proofs.Ytdkodmmbgflijaa
set_option linter.unusedVariables false
set_option linter.unusedSimpArgs false
open Go.RowKit Go.Sort

set_option maxHeartbeats 1000000 in
theorem specFilling_any (c0 : Int) (A : Option Addr) (n c : Nat) (ts : List Tl) (B : Option Addr) (m d : Nat) (rs : List (List Int)) (w : World) (hn : n ≤ 1048576) (hl : ts.length = n) (hA : TR w w.heap.size A ts) (hm : m ≤ 1048576) (hlr : rs.length = m) (hB : IRR w w.heap.size B rs) (hrow : ∀ k, k < m → (rs.getD k []).length ≤ 1048576) :
    Calls Try.prog 47 #[.agg #[.int .i64 c0, .slice A n c], .slice B m d] w (BoolRes w (fillAns c0 ts rs) (fillCode c0 ts rs)) := by
  have har : ∀ W, Ext w W → Calls Try.prog 93 #[.agg #[.int .i64 c0, .slice A n c], .slice B m d] W _ := fun W hW => l01Rows_any c0 A n c ts B m d rs W hn hl ((hA.ext hW (Nat.le_refl _)).more (hW.below (Nat.le_refl _)).size) hm hlr ((hB.ext hW (Nat.le_refl _)).more (hW.below (Nat.le_refl _)).size) hrow
  have hgd : rowsOk ts rs = true → ∀ W, Ext w W → Calls Try.prog 94 #[.agg #[.int .i64 c0, .slice A n c], .slice B m d] W _ := fun hok W hW => l01Good_any c0 A n c ts B m d rs W hn hl ((hA.ext hW (Nat.le_refl _)).more (hW.below (Nat.le_refl _)).size) hm hlr ((hB.ext hW (Nat.le_refl _)).more (hW.below (Nat.le_refl _)).size) hok
  have HR := Lib.hid har
  have HG := Lib.hid hgd
  clear har hgd hA hB hrow
  by_cases hc : fillCode c0 ts rs = 0
  · have hboth : isSet c0 ts = true ∧ rowsOk ts rs = true := by
      unfold fillCode at hc
      split at hc
      · split at hc
        · exact ⟨by assumption, by assumption⟩
        · omega
      · omega
    have HG' := Lib.hid (HG.out hboth.2)
    rw [fa0 hboth.1 hboth.2]
    rw [hc] at HR ⊢
    clear HG hc hboth
    go_enter Try.func47, Try.ntmps47
    go_wp2_with fail
    refine (HR.out _ ((Ext.refl w).alloc _)).mono ?_
    rintro e w1 ⟨rfl, hx⟩
    have hb := (Blk.new w 29 #[.int .i64 c0, .slice A n c]).ext hx
    have r0 := hb.rd 0 rfl
    have r1 := hb.rd 1 rfl
    have HX := Lib.hid (((Ext.refl w).alloc _).trans hx)
    clear hx hb
    go_wp2_with fail
    refine (HG'.out _ HX.out).mono ?_
    rintro e w2 ⟨rfl, hx⟩
    have HX2 := Lib.hid (HX.out.trans hx)
    clear hx r0 r1
    go_wp2_with fail
    go_ret2
    exact BoolRes.mk rfl (HX2.out.below (Nat.le_refl _))
  · have hans : fillAns c0 ts rs = false := by
      unfold fillCode at hc
      unfold fillAns
      cases hs : isSet c0 ts with
      | false => rfl
      | true =>
        cases ho : rowsOk ts rs with
        | false => rfl
        | true => rw [hs, ho] at hc; exact absurd rfl hc
    rw [hans]
    generalize fillCode c0 ts rs = code at HR hc ⊢
    have hne : (code != 0) = true := by simp [hc]
    clear HG hans
    go_enter Try.func47, Try.ntmps47
    go_wp2_with fail
    refine (HR.out _ ((Ext.refl w).alloc _)).mono ?_
    rintro e w1 ⟨rfl, hx⟩
    have HX := Lib.hid (((Ext.refl w).alloc _).trans hx)
    clear hx
    go_wp2_with fail
    go_ret2
    exact BoolRes.mk rfl (HX.out.below (Nat.le_refl _))
end Go.Proofs.Ytdkodmmbgflijaa
