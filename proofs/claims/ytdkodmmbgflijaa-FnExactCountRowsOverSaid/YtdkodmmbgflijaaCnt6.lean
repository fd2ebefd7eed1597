/- The model's CountRows, and the law's theorem. -/
import Derived.Test.YtdkodmmbgflijaaCnt5
import Derived.Test.YtdkodmmbgflijaaCnt3
import Derived.Deep.RegionHeld3
namespace Go.Proofs.Ytdkodmmbgflijaa
set_option linter.unusedVariables false
set_option linter.unusedSimpArgs false
open Go.RowKit Go.Sort

theorem pfold_far {p : Tl → Bool} {now : Nat → Int} {C e : Nat} (he : C ≤ e) : ∀ (ts : List Tl) {nx : Nat → Int}, (∀ t ∈ ts, tileOk C t = true) → nx e = 0 → ts.foldl (addP p now) nx e = 0
  | [], _, _, h => h
  | t :: r, nx, ht, h => by
    refine pfold_far he r (fun t' h' => ht t' (List.mem_cons_of_mem _ h')) ?_
    have ho := ht t (List.mem_cons_self ..)
    simp only [tileOk, decide_eq_true_eq] at ho
    unfold addP addT
    split
    · show (if e = t.2.2.1.toNat then min (nx e + now t.1.toNat) 1000000000000001 else nx e) = 0
      rw [if_neg (by omega)]
      exact h
    · exact h
theorem npow_far {ts : List Tl} {ns : List Int} {f : Nat → Int} {C e k : Nat} (he : C ≤ e) (ht : ∀ t ∈ ts, tileOk C t = true) (hk : 1 ≤ k) : npow ts ns f k e = 0 := by
  obtain ⟨j, rfl⟩ : ∃ j, k = j + 1 := ⟨k - 1, by omega⟩
  exact pfold_far he ts ht rfl
theorem capSum_far {f : Nat → Int} (hf : Cap f) {C : Nat} : ∀ d, (∀ e, C ≤ e → e < C + d → f e = 0) → capSum f (C + d) = capSum f C
  | 0, _ => rfl
  | d + 1, h => by
    have h1 := capSum_far hf d (fun e h1 h2 => h e h1 (by omega))
    have h2 := h (C + d) (by omega) (by omega)
    have h3 := capSum_cap hf (C + d)
    show min (capSum f (C + d) + f (C + d)) 1000000000000001 = capSum f C
    rw [← h1, h2]
    omega
theorem capSum_six {f : Nat → Int} (hf : Cap f) : capSum f 6 = min (tot6 f) 1000000000000001 := by
  have h0 := hf 0
  have h1 := hf 1
  have h2 := hf 2
  have h3 := hf 3
  have h4 := hf 4
  have h5 := hf 5
  simp only [capSum, tot6]
  omega
theorem cnt_cap (s : Int) : cnt (min s 1000000000000001) = cnt s ∧ cntCode (min s 1000000000000001) = cntCode s := by
  unfold cnt cntCode
  by_cases h : 1000000000000000 < s
  · rw [if_pos h, if_pos h, if_pos (by omega), if_pos (by omega)]; exact ⟨rfl, rfl⟩
  · rw [if_neg h, if_neg h, if_neg (by omega), if_neg (by omega)]; exact ⟨by omega, rfl⟩
theorem cnt_ways {ts : List Tl} {ns : List Int} {f : Nat → Int} (hf : Cap f) {C k : Nat} (hC : C ≤ 6) (ht : ∀ t ∈ ts, tileOk C t = true) (hk : 1 ≤ k) :
    cnt (capSum (npow ts ns f k) C) = cnt (tot6 (npow ts ns f k)) ∧ cntCode (capSum (npow ts ns f k) C) = cntCode (tot6 (npow ts ns f k)) := by
  have h := capSum_far (npow_cap ts ns hf k) (C := C) (6 - C) (fun e h1 h2 => npow_far h1 ht hk)
  rw [show C + (6 - C) = 6 by omega] at h
  rw [← h, capSum_six (npow_cap ts ns hf k)]
  exact cnt_cap _

set_option maxRecDepth 100000 in
set_option maxHeartbeats 4000000 in
theorem specCountRows_any (c0 : Int) (A : Option Addr) (n c : Nat) (ts : List Tl) (i : Int) (w : World) (hn : n ≤ 1048576) (hl : ts.length = n) (hA : TR w w.heap.size A ts) :
    Calls Try.prog 40 #[.agg #[.int .i64 c0, .slice A n c], .int .i64 i] w (IntRes w (rowsCount c0 ts i) (rowsCode c0 ts i)) := by
  have hck : ∀ W, Ext w W → Calls Try.prog 79 #[.agg #[.int .i64 c0, .slice A n c], .int .i64 i] W _ := fun W hW => l02Long_any c0 A n c ts i W hn hl ((hA.ext hW (Nat.le_refl _)).more (hW.below (Nat.le_refl _)).size)
  have HC := Lib.hid hck
  clear hck
  unfold rowsCount rowsCode
  by_cases hc : lenCode c0 ts i = 0
  · obtain ⟨hset, hi1, hi2⟩ := lenCode_ok hc
    obtain ⟨j, rfl⟩ : ∃ j : Nat, i = (j : Int) := ⟨i.toNat, by omega⟩
    have hcol := isSet_col hset
    obtain ⟨C, rfl⟩ : ∃ C : Nat, c0 = (C : Int) := ⟨c0.toNat, by omega⟩
    have hok : ∀ t ∈ ts, tileOk C t = true := fun t ht => ok_of_isSet' hset t ht
    have hwy : ∀ (F : Option Addr) (cf : Nat) W, Below w.heap.size w W → IR W W.heap.size F (fl C fun _ => 1) → Calls Try.prog 82 #[.agg #[.int .i64 (C : Int), .slice A n c], .slice F C cf, .int .i64 (j : Int), .slice none 0 0] W _ :=
      fun F cf W hW hF => l02Ways_any C A n c ts F cf (fun _ => 1) j none 0 0 [] W (by omega) (by omega) hn hl ((hA.below hW (Nat.le_refl _)).more hW.size) hok cap_one hF (by omega) (by omega) rfl (fun h => absurd h (Nat.lt_irrefl _)) (.inl rfl)
    have HY := Lib.hid hwy
    have hres := cnt_ways (ts := ts) (ns := []) cap_one (C := C) (k := j) (by omega) hok (by omega)
    have hcapj := npow_cap ts [] cap_one j
    rw [npow_nil] at hres hcapj
    simp only [npow_nil] at HY
    rw [if_pos hc, if_pos hc, Int.toNat_natCast, ← hres.1, ← hres.2]
    rw [hc] at HC
    have hC6 : C ≤ 1048576 := by omega
    generalize wpow ts (fun _ => 1) j = g at HY hcapj ⊢
    have HG := Lib.hid hcapj
    clear hwy hc hA hok hset hres hcapj hcol
    go_enter Try.func40, Try.ntmps40
    go_wp2_with fail
    refine (HC.out _ ((Ext.refl w).alloc _)).mono ?_
    rintro e w1 ⟨rfl, hx⟩
    have K1 := Lib.hid ((((Ext.refl w).alloc _).trans hx).below (Nat.le_refl _))
    have B1 := Lib.hid ((Blk.new w 29 #[.int .i64 (C : Int), .slice A n c]).ext hx)
    have r0 := B1.out.rd 0 rfl
    have r1 := B1.out.rd 1 rfl
    clear hx
    go_wp2_with fail
    go_region_held3 (fun w' => w'.cell? ⟨w.heap.size, 0, none⟩ = some (.int .i64 (C : Int)) ∧ w'.cell? ⟨w.heap.size, 1, none⟩ = some (.slice A n c))
      (first | exact ⟨k0, k1⟩ | exact ⟨l0, l1⟩ | exact ⟨m0, m1⟩ | go_keep)
      (first
        | (go_at_call 83; refine (l02Each_any C _ hC6).mono ?_; rintro e w2 ⟨F, cf, rfl, hb, hw⟩; have K2 := Lib.hid (K1.out.drew.trans (hb.mono K1.out.size)); have B2 := Lib.hid (Blk.below (w := w1.drew) B1.out hb B1.out.lt); have W2 := Lib.hid hw; have k0 := B2.out.rd 0 rfl; have k1 := B2.out.rd 1 rfl; clear hb hw)
        | (go_at_call 82; refine (HY.out F cf _ K2.out W2.out.ir).mono ?_; rintro e w3 ⟨Q, cq, rfl, hb, hw⟩; have K3 := Lib.hid (K2.out.trans (hb.mono K2.out.size)); have B3 := Lib.hid (B2.out.below hb B2.out.lt); have W3 := Lib.hid hw; have l0 := B3.out.rd 0 rfl; have l1 := B3.out.rd 1 rfl; clear hb hw k0 k1)
        | (go_at_call 81; refine (l02Total_any Q C cq g _ hC6 HG.out W3.out.ir).mono ?_; rintro e w4 ⟨rfl, hb⟩; have K4 := Lib.hid (K3.out.trans (hb.mono K3.out.size)); have B4 := Lib.hid (B3.out.below hb B3.out.lt); have m0 := B4.out.rd 0 rfl; have m1 := B4.out.rd 1 rfl; clear hb l0 l1)
        | (go_at_call 80; refine (l02Told_any _ _).mono ?_; rintro e w5 ⟨rfl, rfl⟩))
    clear m0 m1 r0 r1
    go_wp2_with fail
    go_ret2
    exact IntRes.mk rfl K4.out
  · rw [if_neg hc, if_neg hc]
    generalize lenCode c0 ts i = code at HC hc
    clear hA
    have hne : (code != 0) = true := by simp [hc]
    go_enter Try.func40, Try.ntmps40
    go_wp2_with fail
    refine (HC.out _ ((Ext.refl w).alloc _)).mono ?_
    rintro e w1 ⟨rfl, hx⟩
    have HX := Lib.hid (((Ext.refl w).alloc _).trans hx)
    clear hx
    go_wp2_with fail
    go_ret2
    exact IntRes.mk rfl (HX.out.below (Nat.le_refl _))
end Go.Proofs.Ytdkodmmbgflijaa
