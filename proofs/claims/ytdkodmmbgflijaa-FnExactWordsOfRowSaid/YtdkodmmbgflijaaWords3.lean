/- WordsOfRow, on both sides. -/
import Derived.Test.YtdkodmmbgflijaaWords2
import Derived.Deep.RegionHeld3
namespace Go.Proofs.Ytdkodmmbgflijaa
set_option linter.unusedVariables false
set_option linter.unusedSimpArgs false
open Go.RowKit Go.Sort

/-- Two lists of numbers and a code have been handed back, to be read; what was there is as it was. -/
def LLRead (w : World) (ys zs : List Int) (code : Int) (e : Ending) (w' : World) : Prop :=
  ∃ R0 p0 R1 p1, e = .returned (.tuple #[.slice R0 ys.length p0, .slice R1 zs.length p1, .int .i64 code]) ∧ Below w.heap.size w w' ∧ IWr w' w.heap.size w'.heap.size R0 ys ∧ IWr w' w.heap.size w'.heap.size R1 zs
/-- Two lists of numbers and a code have been handed back, each list in memory of its own; what was there is as it was. -/
def LLOwn (w : World) (ys zs : List Int) (code : Int) (e : Ending) (w' : World) : Prop :=
  ∃ R0 p0 R1 p1 mid, w.heap.size ≤ mid ∧ mid ≤ w'.heap.size ∧ e = .returned (.tuple #[.slice R0 ys.length p0, .slice R1 zs.length p1, .int .i64 code]) ∧ Below w.heap.size w w' ∧ IWr w' w.heap.size mid R0 ys ∧ IWr w' mid w'.heap.size R1 zs
theorem LLRead.mk {w w' : World} {ys zs : List Int} {code : Int} {e : Ending} (R0 : Option Addr) (p0 : Nat) (R1 : Option Addr) (p1 : Nat) (he : e = .returned (.tuple #[.slice R0 ys.length p0, .slice R1 zs.length p1, .int .i64 code])) (hb : Below w.heap.size w w') (h0 : IWr w' w.heap.size w'.heap.size R0 ys) (h1 : IWr w' w.heap.size w'.heap.size R1 zs) : LLRead w ys zs code e w' := ⟨R0, p0, R1, p1, he, hb, h0, h1⟩
theorem LLOwn.mk {w w' : World} {ys zs : List Int} {code : Int} {e : Ending} (R0 : Option Addr) (p0 : Nat) (R1 : Option Addr) (p1 mid : Nat) (h2 : w.heap.size ≤ mid) (h3 : mid ≤ w'.heap.size) (he : e = .returned (.tuple #[.slice R0 ys.length p0, .slice R1 zs.length p1, .int .i64 code])) (hb : Below w.heap.size w w') (h0 : IWr w' w.heap.size mid R0 ys) (h1 : IWr w' mid w'.heap.size R1 zs) : LLOwn w ys zs code e w' := ⟨R0, p0, R1, p1, mid, h2, h3, he, hb, h0, h1⟩
theorem IWr.nil {w : World} {lo hi : Nat} {A : Option Addr} : IWr w lo hi A [] := fun h => absurd h (Nat.lt_irrefl _)
theorem allT_of_isRow {ts : List Tl} {xs : List Int} (h : isRow ts xs = true) : allT ts xs = true := by
  rw [isRow_impl] at h
  simp only [Bool.and_eq_true] at h
  exact h.1.2

def okRow (c0 : Int) (ts : List Tl) (xs : List Int) : Bool := isSet c0 ts && isRow ts xs
def rowCode (c0 : Int) (ts : List Tl) (xs : List Int) : Int := if isSet c0 ts = true then (if isRow ts xs = true then 0 else 2) else 1
def wordN (c0 : Int) (ts : List Tl) (xs : List Int) : List Int := if okRow c0 ts xs = true then colN ts xs else []
def wordS (c0 : Int) (ts : List Tl) (xs : List Int) : List Int := if okRow c0 ts xs = true then colS ts xs else []

set_option maxHeartbeats 1000000 in
theorem specWords_any (c0 : Int) (A : Option Addr) (n c : Nat) (ts : List Tl) (B : Option Addr) (m d : Nat) (xs : List Int) (w : World) (hn : n ≤ 1048576) (hl : ts.length = n) (hA : TR w w.heap.size A ts) (hm : m ≤ 1048576) (hlx : xs.length = m) (hB : IR w w.heap.size B xs) :
    Calls Try.prog 36 #[.agg #[.int .i64 c0, .slice A n c], .slice B m d] w (LLRead w (wordN c0 ts xs) (wordS c0 ts xs) (rowCode c0 ts xs)) := by
  have his : ∀ W, Ext w W → Calls Try.prog 52 #[.agg #[.int .i64 c0, .slice A n c]] W _ := fun W hW => l01Is_any c0 A n c ts W (by omega) hl ((hA.ext hW (Nat.le_refl _)).more (hW.below (Nat.le_refl _)).size)
  have hro : ∀ W, Ext w W → Calls Try.prog 73 #[.agg #[.int .i64 c0, .slice A n c], .slice B m d] W _ := fun W hW => l02Row_any c0 A n c ts B m d xs W hn hl ((hA.ext hW (Nat.le_refl _)).more (hW.below (Nat.le_refl _)).size) (by omega) hlx ((hB.ext hW (Nat.le_refl _)).more (hW.below (Nat.le_refl _)).size)
  have hwo : isRow ts xs = true → ∀ W, Ext w W → Calls Try.prog 77 #[.agg #[.int .i64 c0, .slice A n c], .slice B m d] W _ := fun hr W hW => l02Words_any c0 A n c ts B m d xs W hn hl ((hA.ext hW (Nat.le_refl _)).more (hW.below (Nat.le_refl _)).size) (by omega) hlx ((hB.ext hW (Nat.le_refl _)).more (hW.below (Nat.le_refl _)).size) (allT_of_isRow hr)
  have HI := Lib.hid his
  have HR := Lib.hid hro
  have HW := Lib.hid hwo
  clear his hro hwo hA hB
  unfold wordN wordS rowCode okRow
  generalize isSet c0 ts = s at HI ⊢
  cases s with
  | false =>
    go_enter Try.func36, Try.ntmps36
    go_wp2_with fail
    refine (HI.out _ ((Ext.refl w).alloc _)).mono ?_
    rintro e w1 ⟨rfl, hx⟩
    have HX := Lib.hid (((Ext.refl w).alloc _).trans hx)
    clear hx
    go_wp2_with fail
    go_ret3
    exact LLRead.mk none 0 none 0 rfl (HX.out.below (Nat.le_refl _)) IWr.nil IWr.nil
  | true =>
    generalize isRow ts xs = r at HR HW ⊢
    cases r with
    | false =>
      clear HW
      go_enter Try.func36, Try.ntmps36
      go_wp2_with fail
      refine (HI.out _ ((Ext.refl w).alloc _)).mono ?_
      rintro e w1 ⟨rfl, hx⟩
      have hb := (Blk.new w 29 #[.int .i64 c0, .slice A n c]).ext hx
      have r0 := hb.rd 0 rfl
      have r1 := hb.rd 1 rfl
      have HX := Lib.hid (((Ext.refl w).alloc _).trans hx)
      clear hx hb
      go_wp2_with fail
      refine (HR.out _ HX.out).mono ?_
      rintro e w2 ⟨rfl, hx⟩
      have HX2 := Lib.hid (HX.out.trans hx)
      clear hx r0 r1
      go_wp2_with fail
      go_ret3
      exact LLRead.mk none 0 none 0 rfl (HX2.out.below (Nat.le_refl _)) IWr.nil IWr.nil
    | true =>
      have HW' := Lib.hid (HW.out rfl)
      clear HW
      simp only [Bool.and_self, if_true]
      go_enter Try.func36, Try.ntmps36
      go_wp2_with fail
      refine (HI.out _ ((Ext.refl w).alloc _)).mono ?_
      rintro e w1 ⟨rfl, hx⟩
      have hb := (Blk.new w 29 #[.int .i64 c0, .slice A n c]).ext hx
      have r0 := hb.rd 0 rfl
      have r1 := hb.rd 1 rfl
      have HX := Lib.hid (((Ext.refl w).alloc _).trans hx)
      have HB := Lib.hid hb
      clear hx hb
      go_wp2_with fail
      refine (HR.out _ HX.out).mono ?_
      rintro e w2 ⟨rfl, hx⟩
      have HX2 := Lib.hid (HX.out.trans hx)
      have hb := HB.out.ext hx
      clear r0 r1
      have r0 := hb.rd 0 rfl
      have r1 := hb.rd 1 rfl
      clear hx hb HB HX
      go_wp2_with fail
      refine (HW'.out _ HX2.out).mono ?_
      rintro e w3 ⟨R0, p0, R1, p1, rfl, hb, h0, h1⟩
      have H0 := Lib.hid h0
      have H1 := Lib.hid h1
      have HB := Lib.hid hb
      clear hb h0 h1 r0 r1
      go_wp2_with fail
      go_ret3
      have hs := (HX2.out.below (Nat.le_refl _)).size
      exact LLRead.mk R0 p0 R1 p1 rfl ((HX2.out.below (Nat.le_refl _)).trans (HB.out.mono hs)) (H0.out.low hs) (H1.out.low hs)

set_option maxRecDepth 100000 in
set_option maxHeartbeats 1000000 in
theorem implWords_any (c0 : Int) (A : Option Addr) (n c : Nat) (ts : List Tl) (B : Option Addr) (m d : Nat) (xs : List Int) (w : World) (hn : n ≤ 1048576) (hl : ts.length = n) (hA : TR w w.heap.size A ts) (hm : m ≤ 1048576) (hmd : m ≤ d) (hlx : xs.length = m) (hB : IR w w.heap.size B xs) :
    Calls Try.prog 37 #[.agg #[.int .i64 c0, .slice A n c], .slice B m d] w (LLOwn w (wordN c0 ts xs) (wordS c0 ts xs) (rowCode c0 ts xs)) := by
  have his : ∀ W, Ext w W → Calls Try.prog 34 #[.agg #[.int .i64 c0, .slice A n c], .slice B m d] W _ := fun W hW => implIsRow_any c0 A n c ts B m d xs W hn hl ((hA.ext hW (Nat.le_refl _)).more (hW.below (Nat.le_refl _)).size) hm hmd hlx ((hB.ext hW (Nat.le_refl _)).more (hW.below (Nat.le_refl _)).size)
  have hn1 : isRow ts xs = true → ∀ W, Below w.heap.size w W → Calls Try.prog 78 #[.agg #[.int .i64 c0, .slice A n c], .slice B m d, .int .i64 1] W _ := fun hr W hW => coloursAt_N c0 A n c ts B m d xs W hn hl ((hA.below hW (Nat.le_refl _)).more hW.size) hm hlx ((hB.below hW (Nat.le_refl _)).more hW.size) (allT_of_isRow hr)
  have hs1 : isRow ts xs = true → ∀ W, Below w.heap.size w W → Calls Try.prog 78 #[.agg #[.int .i64 c0, .slice A n c], .slice B m d, .int .i64 3] W _ := fun hr W hW => coloursAt_S c0 A n c ts B m d xs W hn hl ((hA.below hW (Nat.le_refl _)).more hW.size) hm hlx ((hB.below hW (Nat.le_refl _)).more hW.size) (allT_of_isRow hr)
  unfold BoolRes at his
  have HI := Lib.hid his
  have HN := Lib.hid hn1
  have HS := Lib.hid hs1
  clear his hn1 hs1 hA hB
  unfold wordN wordS rowCode okRow
  generalize isSet c0 ts = s at HI ⊢
  generalize isRow ts xs = r at HI HN HS ⊢
  cases s with
  | false =>
    clear HN HS
    go_enter Try.func37, Try.ntmps37
    go_wp2_with fail
    refine (HI.out _ ((Ext.refl w).alloc _)).mono ?_
    rintro e w1 ⟨rfl, hx⟩
    have HX := Lib.hid ((((Ext.refl w).alloc (.cells #[.int .i64 c0, .slice A n c] 29)).below (Nat.le_refl _)).trans (hx.mono (by simp)))
    clear hx
    go_wp2_with fail
    go_ret3
    exact LLOwn.mk none 0 none 0 _ HX.out.size (Nat.le_refl _) rfl HX.out IWr.nil IWr.nil
  | true =>
    cases r with
    | false =>
      clear HN HS
      go_enter Try.func37, Try.ntmps37
      go_wp2_with fail
      refine (HI.out _ ((Ext.refl w).alloc _)).mono ?_
      rintro e w1 ⟨rfl, hx⟩
      have HX := Lib.hid ((((Ext.refl w).alloc (.cells #[.int .i64 c0, .slice A n c] 29)).below (Nat.le_refl _)).trans (hx.mono (by simp)))
      clear hx
      go_wp2_with fail
      go_ret3
      exact LLOwn.mk none 0 none 0 _ HX.out.size (Nat.le_refl _) rfl HX.out IWr.nil IWr.nil
    | true =>
      have HN' := Lib.hid (HN.out rfl)
      have HS' := Lib.hid (HS.out rfl)
      clear HN HS
      simp only [Bool.and_self, if_true] at HI ⊢
      go_enter Try.func37, Try.ntmps37
      go_wp2_with fail
      refine (HI.out _ ((Ext.refl w).alloc _)).mono ?_
      rintro e w1 ⟨rfl, hx⟩
      have hb := (Blk.new w 29 #[.int .i64 c0, .slice A n c]).below hx (by simp)
      have K1 := Lib.hid ((((Ext.refl w).alloc (.cells #[.int .i64 c0, .slice A n c] 29)).below (Nat.le_refl _)).trans (hx.mono (by simp)))
      have B1 := Lib.hid hb
      have r0 := hb.rd 0 rfl
      have r1 := hb.rd 1 rfl
      clear hx hb
      go_wp2_with fail
      go_region_held3 (fun w' => w'.cell? ⟨w.heap.size, 0, none⟩ = some (.int .i64 c0) ∧ w'.cell? ⟨w.heap.size, 1, none⟩ = some (.slice A n c))
        (first | exact ⟨k0, k1⟩ | exact ⟨l0, l1⟩ | go_keep)
        (first
          | (go_at_call 78; (with_reducible refine (HN'.out _ K1.out.drew).mono ?_); rintro e w2 ⟨R0, p0, rfl, hb, hw⟩; have K2 := Lib.hid (K1.out.drew.trans (hb.mono K1.out.size)); have B2 := Lib.hid (Blk.below (w := w1.drew) B1.out hb B1.out.lt); have W2 := Lib.hid hw; have k0 := B2.out.rd 0 rfl; have k1 := B2.out.rd 1 rfl; clear hb hw)
          | (go_at_call 78; (with_reducible refine (HS'.out _ K2.out).mono ?_); rintro e w3 ⟨R1, p1, rfl, hb, hw⟩; have K3 := Lib.hid (K2.out.trans (hb.mono K2.out.size)); have B3 := Lib.hid (B2.out.below hb B2.out.lt); have X3 := Lib.hid (W2.out.below hb); have W3 := Lib.hid hw; have S3 := Lib.hid hb.size; have l0 := B3.out.rd 0 rfl; have l1 := B3.out.rd 1 rfl; clear hb hw k0 k1))
      clear l0 l1 r0 r1
      go_wp2_with fail
      go_ret3
      have h1 := K1.out.size
      have h2 := K2.out.size
      exact LLOwn.mk R0 p0 R1 p1 w2.heap.size h2 S3.out rfl K3.out (X3.out.low h1) W3.out
end Go.Proofs.Ytdkodmmbgflijaa
