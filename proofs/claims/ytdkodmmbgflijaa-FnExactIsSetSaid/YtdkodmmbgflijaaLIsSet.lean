/- The law on IsSet: walked, for every set that can come in. -/
import Derived.Test.YtdkodmmbgflijaaIsS
import Derived.Deep.RegionHeld3
namespace Go.Proofs.Ytdkodmmbgflijaa
set_option linter.unusedVariables false
set_option linter.unusedSimpArgs false
open Go.RowKit Go.Sort

/-- What a law knows of its own box: its block, still there. -/
theorem Blk.read {w : World} {g : Nat} {t : TypeId} {cs : Array Value} (h : Blk w g t cs) (i : Nat) {v : Value} (hv : cs[i]? = some v) : w.cell? ⟨g, i, none⟩ = some v := (h.cell i).trans hv

set_option maxRecDepth 100000 in
set_option maxHeartbeats 1000000 in
theorem law_isSet (c0 : Int) (A : Option Addr) (n c : Nat) (ts : List Tl) (w : World) (hn : n ≤ 9223372036854775807) (hl : ts.length = n) (hA : TR w w.heap.size A ts) :
    Calls Try.prog 3 #[.agg #[.int .i64 c0, .slice A n c]] w fun e w' => e = .returned (.bool true) ∧ Below w.heap.size w w' := by
  have hsz : ∀ W, Calls Try.prog 15 #[.agg #[.int .i64 c0, .slice A n c], .int .i64 1048576] W _ := fun W => szSet_any c0 A n c 1048576 W hn (by omega) (by omega)
  by_cases hbig : (1048576 : Int) < n
  · simp only [if_pos hbig] at hsz
    go_enter Try.func3, Try.ntmps3
    go_wp2_with fail
    refine (hsz _).mono ?_
    rintro e w1 ⟨rfl, hx⟩
    have HX := Lib.hid hx
    clear hx
    go_wp2_with fail
    go_ret
    exact ⟨rfl, (((Ext.refl w).alloc _).trans HX.out).below (Nat.le_refl _)⟩
  · simp only [if_neg hbig] at hsz
    have hn' : n ≤ 1048576 := by omega
    have hneg : ¬ (1048576 - (n : Int) < 0) := by omega
    have hts : ∀ W, Below w.heap.size w W → Calls Try.prog 17 #[.agg #[.int .i64 c0, .slice A n c]] W _ := fun W hW => toSet_any c0 A n c ts W hn' hl ((hA.below hW (Nat.le_refl _)).more hW.size)
    have HT := Lib.hid hts
    clear hts
    generalize hr : isSet c0 ts = r
    have HR := Lib.hid hr
    clear hr hA
    go_enter Try.func3, Try.ntmps3
    go_wp2_with fail
    refine (hsz _).mono ?_
    rintro e w1 ⟨rfl, hx⟩
    have K1 := Lib.hid ((((Ext.refl w).alloc _).trans hx).below (Nat.le_refl _))
    have hB := (Blk.new w _ _).ext hx
    have b0 := hB.read 0 rfl
    have b1 := hB.read 1 rfl
    have B1 := Lib.hid hB
    clear hx hB hsz
    go_wp2_with fail
    refine (HT.out _ K1.out).mono ?_
    rintro e w2 ⟨A2, rfl, hb, hw⟩
    have K2 := Lib.hid (K1.out.trans (hb.mono K1.out.size))
    have B2 := Lib.hid (B1.out.below hb B1.out.lt)
    have W2 := Lib.hid hw
    clear hb hw b0 b1 K1 B1
    go_wp2_with fail
    refine (specIsSet_any c0 A2 n n ts _ (by omega) hl W2.out.tr).mono ?_
    rw [HR.out]
    rintro e w3 ⟨rfl, hx⟩
    have K3 := Lib.hid (K2.out.trans (hx.below K2.out.size))
    have B3 := Lib.hid (B2.out.ext hx)
    have b0 := B3.out.read 0 rfl
    have b1 := B3.out.read 1 rfl
    clear hx K2 B2 W2
    go_wp2_with fail
    refine (HT.out _ K3.out).mono ?_
    rintro e w4 ⟨A4, rfl, hb, hw⟩
    have K4 := Lib.hid (K3.out.trans (hb.mono K3.out.size))
    have B4 := Lib.hid (B3.out.below hb B3.out.lt)
    have W4 := Lib.hid hw
    clear hb hw b0 b1 K3 B3
    go_wp2_with fail
    have hx : Ext w4 (w4.alloc (.cells #[.int .i64 c0, .slice A4 n n] 29)) := (Ext.refl _).alloc _
    have G5 := Lib.hid (Blk.new w4 29 #[.int .i64 c0, .slice A4 n n])
    have K5 := Lib.hid (K4.out.trans (hx.below K4.out.size))
    have B5 := Lib.hid (B4.out.ext hx)
    have W5 := Lib.hid (W4.out.ext hx)
    clear hx
    refine (isSet_any c0 A4 n n ts _ (by omega) hl W5.out.tr).mono ?_
    rw [HR.out]
    rintro e w6 ⟨rfl, hx⟩
    have K6 := Lib.hid (K5.out.trans (hx.below K5.out.size))
    have B6 := Lib.hid (B5.out.ext hx)
    have G6 := Lib.hid (G5.out.ext hx)
    have W6 := Lib.hid (W5.out.ext hx)
    have b0 := B6.out.read 0 rfl
    have b1 := B6.out.read 1 rfl
    have g0 := G6.out.read 0 rfl
    have g1 := G6.out.read 1 rfl
    clear hx K4 K5 B4 B5 G5 W4 W5
    have hrr : (r != r) = false := by simp
    go_wp2_with fail
    generalize w4.heap.size = q4 at *
    go_region_held3 (fun w' => w'.cell? ⟨w.heap.size, 0, none⟩ = some (.int .i64 c0) ∧ w'.cell? ⟨w.heap.size, 1, none⟩ = some (.slice A n c) ∧ w'.cell? ⟨q4, 0, none⟩ = some (.int .i64 c0) ∧ w'.cell? ⟨q4, 1, none⟩ = some (.slice A4 n n))
      (first | exact ⟨k0, k1, k2, k3⟩ | exact ⟨l0, l1, l2, l3⟩ | go_keep)
      (first
        | (go_at_call 17; refine (HT.out _ K6.out.drew).mono ?_; rintro e w7 ⟨A7, rfl, hb, hw⟩; have K7 := Lib.hid (K6.out.drew.trans (hb.mono K6.out.size)); have B7 := Lib.hid (Blk.below (w := w6.drew) B6.out hb B6.out.lt); have G7 := Lib.hid (Blk.below (w := w6.drew) G6.out hb G6.out.lt); have X7 := Lib.hid (TW.below (w := w6.drew) W6.out hb); have Y7 := Lib.hid hw; have k0 := B7.out.read 0 rfl; have k1 := B7.out.read 1 rfl; have k2 := G7.out.read 0 rfl; have k3 := G7.out.read 1 rfl; clear hb hw)
        | (go_at_call 19; refine (eqSet_any c0 c0 A4 A7 n n n n ts ts _ (by omega) hl hl X7.out.tr Y7.out.tr).mono ?_; rw [decide_eq_true (⟨rfl, rfl⟩ : c0 = c0 ∧ ts = ts)]; rintro e w8 ⟨rfl, hx⟩; have K8 := Lib.hid (K7.out.trans (hx.below K7.out.size)); have l0 := (B7.out.ext hx).read 0 rfl; have l1 := (B7.out.ext hx).read 1 rfl; have l2 := (G7.out.ext hx).read 0 rfl; have l3 := (G7.out.ext hx).read 1 rfl; clear hx))
    go_wp2_with fail
    go_ret
    exact ⟨rfl, K8.out⟩
end Go.Proofs.Ytdkodmmbgflijaa
