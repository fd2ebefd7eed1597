/- Rounds are counted: the program's side. -/
import Derived.Test.YtdkodmmbgflijaaCnt6
namespace Go.Proofs.Ytdkodmmbgflijaa
set_option linter.unusedVariables false
set_option linter.unusedSimpArgs false
open Go.RowKit Go.Sort

def unit (c : Nat) : Nat → Int := fun e => if e = c then 1 else 0
theorem unit_cap (c : Nat) : Cap (unit c) := fun e => by unfold unit; split <;> omega
/-- The rounds of j tiles from a colour. -/
def rnd (ts : List Tl) (j c : Nat) : Int := wpow ts (unit c) j c
def rndTo (ts : List Tl) (j k : Nat) : Nat → Int := fun e => if e < k then rnd ts j e else 0
theorem rnd_cap (ts : List Tl) (j : Nat) : Cap (rnd ts j) := fun e => wpow_cap ts (unit_cap e) j e
theorem rndTo_cap (ts : List Tl) (j k : Nat) : Cap (rndTo ts j k) := fun e => by
  have := rnd_cap ts j e
  unfold rndTo
  split <;> omega
theorem rndTo_succ (ts : List Tl) (j k : Nat) : (fun i => if i = k then rnd ts j k else rndTo ts j k i) = rndTo ts j (k + 1) := by
  funext i
  unfold rndTo
  by_cases h1 : i = k
  · subst h1; rw [if_pos rfl, if_pos (by omega)]
  · by_cases h2 : i < k
    · rw [if_neg h1, if_pos h2, if_pos (by omega)]
    · rw [if_neg h1, if_neg h2, if_neg (by omega)]
theorem unit_of (c : Nat) : (fun i => if i = c then (1 : Int) else (fun _ => 0) i) = unit c := rfl
theorem capSum_congr {f g : Nat → Int} : ∀ k, (∀ e, e < k → f e = g e) → capSum f k = capSum g k
  | 0, _ => rfl
  | k + 1, h => by
    show min (capSum f k + f k) _ = min (capSum g k + g k) _
    rw [capSum_congr k (fun e he => h e (by omega)), h k (by omega)]
theorem rnd_sum (ts : List Tl) (j : Nat) {C : Nat} (hC : C ≤ 6) : capSum (rnd ts j) C = min (tot6 (rndTo ts j C)) 1000000000000001 := by
  have h1 := capSum_far (rndTo_cap ts j C) (C := C) (6 - C) (fun e h1 _ => by unfold rndTo; rw [if_neg (by omega)])
  rw [show C + (6 - C) = 6 by omega, capSum_six (rndTo_cap ts j C)] at h1
  rw [h1]
  exact capSum_congr C fun e he => by unfold rndTo; rw [if_pos he]
def roundCount (c0 : Int) (ts : List Tl) (i : Int) : Int := if lenCode c0 ts i = 0 then cnt (tot6 (rndTo ts i.toNat c0.toNat)) else 0
def roundCode (c0 : Int) (ts : List Tl) (i : Int) : Int := if lenCode c0 ts i = 0 then cntCode (tot6 (rndTo ts i.toNat c0.toNat)) else lenCode c0 ts i

set_option maxRecDepth 100000 in
set_option maxHeartbeats 4000000 in
theorem implRounds_any (c0 : Int) (A : Option Addr) (n c : Nat) (ts : List Tl) (i : Int) (w : World) (hn : n ≤ 1048576) (hl : ts.length = n) (hA : TR w w.heap.size A ts) :
    Calls Try.prog 45 #[.agg #[.int .i64 c0, .slice A n c], .int .i64 i] w (IntRes w (roundCount c0 ts i) (roundCode c0 ts i)) := by
  have hck : ∀ W, Ext w W → Calls Try.prog 84 #[.agg #[.int .i64 c0, .slice A n c], .int .i64 i] W _ := fun W hW => checkLength_any c0 A n c ts i W hn hl ((hA.ext hW (Nat.le_refl _)).more (hW.below (Nat.le_refl _)).size)
  have HC := Lib.hid hck
  clear hck
  unfold roundCount roundCode
  by_cases hc : lenCode c0 ts i = 0
  · obtain ⟨hset, hi1, hi2⟩ := lenCode_ok hc
    obtain ⟨j, rfl⟩ : ∃ j : Nat, i = (j : Int) := ⟨i.toNat, by omega⟩
    have hcol := isSet_col hset
    have hok : ∀ t ∈ ts, tileOk 6 t = true := fun t ht => tileOk_mono hcol.2 (ok_of_isSet' hset t ht)
    obtain ⟨C, rfl⟩ : ∃ C : Nat, c0 = (C : Int) := ⟨c0.toNat, by omega⟩
    have hC6 : C ≤ 6 := by omega
    have hex : ∀ (f : Nat → Int), Cap f → ∀ W, Below w.heap.size w W → Calls Try.prog 86 #[.agg (l6 f), .slice A n c] W _ := fun f hf W hW => extended_any f A n c ts W hf hn hl ((hA.below hW (Nat.le_refl _)).more hW.size) hok
    unfold l6 at hex
    have HX := Lib.hid hex
    have HTO := Lib.hid (fun W => total_any (rndTo ts j C) (rndTo_cap ts j C) W)
    unfold l6 at HTO
    rw [if_pos hc, if_pos hc, Int.toNat_natCast, Int.toNat_natCast]
    rw [hc] at HC
    have hj : j ≤ 40 := by omega
    clear hex hc hA hok hset hcol
    go_enter Try.func45, Try.ntmps45
    go_wp2_with fail
    refine (HC.out _ ((Ext.refl w).alloc _)).mono ?_
    rintro e w1 ⟨rfl, hx⟩
    have K1 := Lib.hid ((((Ext.refl w).alloc _).trans hx).below (Nat.le_refl _))
    have B1 := Lib.hid ((Blk.new w 29 #[.int .i64 (C : Int), .slice A n c]).ext hx)
    have S1 : w.heap.size + 1 ≤ w1.heap.size := by have := (hx.below (Nat.le_refl _)).size; simpa using this
    have r0 := ((B1.out).ext ((Ext.refl w1).alloc (Obj.cells #[.int .i64 0, .int .i64 0, .int .i64 0, .int .i64 0, .int .i64 0, .int .i64 0] 84))).rd 0 rfl
    clear hx
    go_wp2_with fail
    clear r0
    have K3 := Lib.hid (K1.out.alloc K1.out.size (Obj.cells (l6 fun _ => 0) 84))
    have B3 := Lib.hid (B1.out.ext ((Ext.refl w1).alloc (Obj.cells (l6 fun _ => 0) 84)))
    have G3 := Lib.hid (Blk.new w1 84 (l6 fun _ => 0))
    have S4 : w1.heap.size + 1 ≤ (w1.alloc (Obj.cells (l6 fun _ => 0) 84)).heap.size := by simp
    unfold l6 at K3 B3 G3 S4
    generalize w1.alloc (Obj.cells #[.int .i64 0, .int .i64 0, .int .i64 0, .int .i64 0, .int .i64 0, .int .i64 0] 84) = w3 at *
    clear K1 B1
    generalize w1.heap.size = g at *
    go_loopw [18] (fun i wr => ∃ k : Nat, k ≤ C ∧ i = .int .i64 k ∧ Blk wr g 84 (l6 (rndTo ts j k)) ∧ Blk wr w.heap.size 29 #[.int .i64 (C : Int), .slice A n c] ∧ Below w.heap.size w wr ∧ g + 1 ≤ wr.heap.size) (fun i _ => C - (intOf i).toNat)
    case atStart => exact ⟨0, Nat.zero_le _, rfl, G3.out, B3.out, K3.out, S4⟩
    case round =>
      obtain ⟨k, hk, rfl, hg, hb, hbw, hsz⟩ := hrel
      have G := Lib.hid hg
      have B' := Lib.hid hb
      have K := Lib.hid hbw
      clear hg hb hbw G3 B3 K3 S4
      by_cases hlt : k < C
      · have hk6 : k < 6 := by omega
        have hk63 : (k : Int) < 6 := by omega
        obtain ⟨wo, rfl⟩ : ∃ wo : World, wo = wr := ⟨_, rfl⟩
        have hn9 := (Blk.new wo 84 (l6 fun _ => 0))
        have d9 : (wo.alloc (Obj.cells #[.int .i64 0, .int .i64 0, .int .i64 0, .int .i64 0, .int .i64 0, .int .i64 0] 84)).cell? ⟨wo.heap.size, k, none⟩ = some (.int .i64 0) := (hn9.cell k).trans ((arr6 _).2 k hk6)
        have f9 : (wo.alloc (Obj.cells #[.int .i64 0, .int .i64 0, .int .i64 0, .int .i64 0, .int .i64 0, .int .i64 0] 84)).frozen? ⟨wo.heap.size, k, none⟩ = false := hn9.frozen k
        clear hn9
        go_wp2_with fail
        have hcs : ([Value.int .i64 0, .int .i64 0, .int .i64 0, .int .i64 0, .int .i64 0, .int .i64 0].set k (.int .i64 1)).toArray = l6 (unit k) := by
          have : k = 0 ∨ k = 1 ∨ k = 2 ∨ k = 3 ∨ k = 4 ∨ k = 5 := by omega
          rcases this with rfl | rfl | rfl | rfl | rfl | rfl <;> rfl
        rw [hcs]
        have hx4 : Ext wo (wo.alloc (Obj.cells (l6 (unit k)) 84)) := (Ext.refl _).alloc _
        have N4 := Lib.hid (Blk.new wo 84 (l6 (unit k)))
        have G4 := Lib.hid (G.out.ext hx4)
        have B4 := Lib.hid (B'.out.ext hx4)
        have K4 := Lib.hid (K.out.trans (hx4.below K.out.size))
        have S4 : wo.heap.size + 1 ≤ (wo.alloc (Obj.cells (l6 (unit k)) 84)).heap.size := by simp
        clear d9 f9 hcs hx4 G B' K
        generalize wo.alloc (Obj.cells (l6 (unit k)) 84) = w4 at *
        generalize wo.heap.size = h at *
        go_loopw [24] (fun i wr => ∃ q : Nat, q ≤ j ∧ i = .int .i64 q ∧ Blk wr h 84 (l6 (wpow ts (unit k) q)) ∧ Blk wr g 84 (l6 (rndTo ts j k)) ∧ Blk wr w.heap.size 29 #[.int .i64 (C : Int), .slice A n c] ∧ Below w.heap.size w wr ∧ h + 1 ≤ wr.heap.size) (fun i _ => j - (intOf i).toNat)
        case atStart => exact ⟨0, Nat.zero_le _, rfl, N4.out, G4.out, B4.out, K4.out, S4⟩
        case round =>
          obtain ⟨q, hq, rfl, hg, hr, hb, hbw, hsz4⟩ := hrel
          have hcap := wpow_cap ts (unit_cap k) q
          clear N4 G4 B4 K4 S4
          by_cases hlq : q < j
          · have hst : wpow ts (unit k) (q + 1) = wstep ts (wpow ts (unit k) q) := rfl
            generalize wpow ts (unit k) q = f at hg hcap hst
            have d0 := hg.rd 0 (v := .int .i64 (f 0)) rfl
            have d1 := hg.rd 1 (v := .int .i64 (f 1)) rfl
            have d2 := hg.rd 2 (v := .int .i64 (f 2)) rfl
            have d3 := hg.rd 3 (v := .int .i64 (f 3)) rfl
            have d4 := hg.rd 4 (v := .int .i64 (f 4)) rfl
            have d5 := hg.rd 5 (v := .int .i64 (f 5)) rfl
            have r1 := hb.rd 1 rfl
            have G := Lib.hid hg
            have R := Lib.hid hr
            have B := Lib.hid hb
            have K := Lib.hid hbw
            have HST := Lib.hid hst
            have HCAP := Lib.hid hcap
            clear hg hr hb hbw hst hcap
            go_wp2_with fail
            refine (HX.out f HCAP.out _ K.out).mono ?_
            rintro e w5 ⟨rfl, hb4⟩
            have G4 := Lib.hid (G.out.below hb4 G.out.lt)
            have R4 := Lib.hid (R.out.below hb4 R.out.lt)
            have B4 := Lib.hid (B.out.below hb4 B.out.lt)
            have K4 := Lib.hid (K.out.trans (hb4.mono K.out.size))
            have S4 := hb4.size
            clear d0 d1 d2 d3 d4 d5 r1 hb4 G R B K
            have d0 := G4.out.rd 0 (v := .int .i64 (f 0)) rfl
            have d1 := G4.out.rd 1 (v := .int .i64 (f 1)) rfl
            have d2 := G4.out.rd 2 (v := .int .i64 (f 2)) rfl
            have d3 := G4.out.rd 3 (v := .int .i64 (f 3)) rfl
            have d4 := G4.out.rd 4 (v := .int .i64 (f 4)) rfl
            have d5 := G4.out.rd 5 (v := .int .i64 (f 5)) rfl
            have z0 := G4.out.frozen 0
            have z1 := G4.out.frozen 1
            have z2 := G4.out.frozen 2
            have z3 := G4.out.frozen 3
            have z4 := G4.out.frozen 4
            have z5 := G4.out.frozen 5
            go_wp2_with fail
            go_roundw
            case rel =>
              have hgw : w.heap.size ≠ h := by have := K4.out.size; omega
              have hgg : g ≠ h := by omega
              have hwg : w.heap.size ≤ h := by omega
              refine ⟨q + 1, by omega, by go_num, ?_, ?_, ?_, ?_, ?_⟩
              · rw [HST.out]
                exact blk_store6 G4.out _ _ _ _ _ _
              · exact ((((((R4.out.far hgg _).far hgg _).far hgg _).far hgg _).far hgg _).far hgg _)
              · exact ((((((B4.out.far hgw _).far hgw _).far hgw _).far hgw _).far hgw _).far hgw _)
              · exact (((((K4.out.setCell hwg _).setCell hwg _).setCell hwg _).setCell hwg _).setCell hwg _).setCell hwg _
              · simp [World.setCell]
                omega
            case measure => simp [intOf]; omega
          · obtain rfl : q = j := by omega
            have dk := (hg.cell k).trans ((arr6 _).2 k hk6)
            have rk := (hr.cell k).trans ((arr6 _).2 k hk6)
            have zk := hr.frozen k
            have ez : rnd ts q k = wpow ts (unit k) q k := rfl
            rw [← ez] at dk
            have R := Lib.hid hr
            have B := Lib.hid hb
            have K := Lib.hid hbw
            clear hg hr hb hbw hcap ez
            go_wp2_with fail
            go_roundw
            case rel =>
              have hgw : w.heap.size ≠ g := by omega
              have hwg : w.heap.size ≤ g := by omega
              refine ⟨k + 1, by omega, by go_num, ?_, B.out.far hgw _, K.out.setCell hwg _, by simp [World.setCell]; omega⟩
              have := R.out.set_ k (.int .i64 (rnd ts q k))
              rw [arr6_eq ((arr6 (rndTo ts q k)).set (e := k) (rnd ts q k)), rndTo_succ] at this
              exact this
            case measure => simp [intOf]; omega
      · obtain rfl : k = C := by omega
        have d0 := G.out.rd 0 (v := .int .i64 (rndTo ts j k 0)) rfl
        have d1 := G.out.rd 1 (v := .int .i64 (rndTo ts j k 1)) rfl
        have d2 := G.out.rd 2 (v := .int .i64 (rndTo ts j k 2)) rfl
        have d3 := G.out.rd 3 (v := .int .i64 (rndTo ts j k 3)) rfl
        have d4 := G.out.rd 4 (v := .int .i64 (rndTo ts j k 4)) rfl
        have d5 := G.out.rd 5 (v := .int .i64 (rndTo ts j k 5)) rfl
        go_wp2_with fail
        refine (HTO.out _).mono ?_
        rintro e w4 ⟨rfl, hb4⟩
        have K4 := Lib.hid (K.out.trans (hb4.mono K.out.size))
        clear hb4 d0 d1 d2 d3 d4 d5 K
        go_wp2_with fail
        refine (limitedCount_any _ _).mono ?_
        rintro e w5 ⟨rfl, rfl⟩
        go_wp2_with fail
        go_ret2
        exact IntRes.mk rfl K4.out
  · rw [if_neg hc, if_neg hc]
    generalize lenCode c0 ts i = code at HC hc
    clear hA
    have hne : (code != 0) = true := by simp [hc]
    go_enter Try.func45, Try.ntmps45
    go_wp2_with fail
    refine (HC.out _ ((Ext.refl w).alloc _)).mono ?_
    rintro e w1 ⟨rfl, hx⟩
    have HX := Lib.hid (((Ext.refl w).alloc _).trans hx)
    clear hx
    go_wp2_with fail
    go_ret2
    exact IntRes.mk rfl (HX.out.below (Nat.le_refl _))
end Go.Proofs.Ytdkodmmbgflijaa
