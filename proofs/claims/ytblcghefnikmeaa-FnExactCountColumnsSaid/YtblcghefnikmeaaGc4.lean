/- Columns: edges, heights; the program's side. -/
import Derived.Test.YtblcghefnikmeaaGc2
import Derived.Test.YtblcghefnikmeaaIsA
import Derived.Deep.RegionHeld3
import Derived.Lib.Hide
namespace Go.Proofs.Ytblcghefnikmeaa
set_option linter.unusedVariables false
set_option linter.unusedSimpArgs false
open Go.RowKit Go.Sort

set_option maxRecDepth 100000 in
set_option maxHeartbeats 4000000 in
theorem edgeOf_any (C : Nat) (A : Option Addr) (n c : Nat) (ts : List Tl) (B : Option Addr) (m d : Nat) (xs : List Int) (w : World) (hc1 : 1 ≤ C) (hc6 : C ≤ 6) (hn : n ≤ 1048576) (hl : ts.length = n) (hA : TR w w.heap.size A ts) (hs : colOk C ts) (hm : m ≤ 4) (hlx : xs.length = m) (hB : IR w w.heap.size B xs) (hal : allT ts xs = true) :
    Calls Try.prog 93 #[.agg #[.int .i64 (C : Int), .slice A n c], .slice B m d] w fun e w' => e = .returned (tv (edgeT (C : Int) ts xs)) ∧ Below w.heap.size w w' := by
  have hcw : ∀ W, Below w.heap.size w W → Calls Try.prog 129 #[.agg #[.int .i64 (C : Int), .slice A n c], .slice B m d, .int .i64 0] W _ := fun W hW => coloursAt_W (C : Int) A n c ts B m d xs W hn hl ((hA.below hW (Nat.le_refl _)).more hW.size) (by omega) hlx ((hB.below hW (Nat.le_refl _)).more hW.size) hal
  have hce : ∀ W, Below w.heap.size w W → Calls Try.prog 129 #[.agg #[.int .i64 (C : Int), .slice A n c], .slice B m d, .int .i64 2] W _ := fun W hW => coloursAt_E (C : Int) A n c ts B m d xs W hn hl ((hA.below hW (Nat.le_refl _)).more hW.size) (by omega) hlx ((hB.below hW (Nat.le_refl _)).more hW.size) hal
  have hnw : ∀ W F cf, IR W W.heap.size F (colW ts xs) → Calls Try.prog 137 #[.agg #[.int .i64 (C : Int), .slice A n c], .slice F (colW ts xs).length cf] W _ := fun W F cf h => wordNumber_any C A n c F _ cf (colW ts xs) W hc1 hc6 (by rw [colW_len]; omega) rfl h (mem_colW hs hal)
  have hne : ∀ W F cf, IR W W.heap.size F (colE ts xs) → Calls Try.prog 137 #[.agg #[.int .i64 (C : Int), .slice A n c], .slice F (colE ts xs).length cf] W _ := fun W F cf h => wordNumber_any C A n c F _ cf (colE ts xs) W hc1 hc6 (by rw [colE_len]; omega) rfl h (mem_colE hs hal)
  unfold edgeT tv
  generalize wnum (C : Int) (colW ts xs) = nw at hnw ⊢
  generalize wnum (C : Int) (colE ts xs) = ne at hne ⊢
  generalize colW ts xs = xw at hcw hnw
  generalize colE ts xs = xe at hce hne
  have HCW := Lib.hid hcw
  have HCE := Lib.hid hce
  have HNW := Lib.hid hnw
  have HNE := Lib.hid hne
  clear hcw hce hnw hne hA hB hal hs
  go_enter Try.func93, Try.ntmps93
  go_wp2_with fail
  obtain ⟨W0, hW0⟩ : ∃ W0, (w.alloc (Obj.cells #[.int .i64 (C : Int), .slice A n c] 30)).alloc (Obj.cells #[.int .i64 0, .int .i64 0, .int .i64 0, .int .i64 0] 45) = W0 := ⟨_, rfl⟩
  have hx0 : Ext w W0 := by rw [← hW0]; exact ((Ext.refl w).alloc _).alloc _
  have hS : Blk W0 w.heap.size 30 #[.int .i64 (C : Int), .slice A n c] := by rw [← hW0]; exact (Blk.new w _ _).ext ((Ext.refl _).alloc _)
  have hR : Blk W0 (w.heap.size + 1) 45 #[.int .i64 0, .int .i64 0, .int .i64 0, .int .i64 0] := by
    rw [← hW0]
    have := Blk.new (w.alloc (Obj.cells #[.int .i64 (C : Int), .slice A n c] 30)) 45 #[.int .i64 0, .int .i64 0, .int .i64 0, .int .i64 0]
    simpa using this
  have hsz : W0.heap.size = w.heap.size + 2 := by rw [← hW0]; simp
  rw [hW0]
  have H0 := Lib.hid (hx0.below (Nat.le_refl _))
  have HS := Lib.hid hS
  have HR := Lib.hid hR
  have r0 := hS.rd 0 rfl
  have r1 := hS.rd 1 rfl
  clear hx0 hS hR hW0
  go_region_held3 (fun w' => w'.cell? ⟨w.heap.size, 0, none⟩ = some (.int .i64 (C : Int)) ∧ w'.cell? ⟨w.heap.size, 1, none⟩ = some (.slice A n c))
    (first | exact ⟨k0, k1⟩ | exact ⟨l0, l1⟩ | go_keep)
    (first
      | (go_at_call 129; refine (HCW.out _ H0.out.drew).mono ?_; rintro e w2 ⟨F, cf, rfl, hb, hw⟩; have K2 := Lib.hid ((Below.refl W0.heap.size W0).drew.trans hb); have W2 := Lib.hid hw; have k0 := (Blk.below HS.out K2.out HS.out.lt).rd 0 rfl; have k1 := (Blk.below HS.out K2.out HS.out.lt).rd 1 rfl; clear hb hw)
      | (go_at_call 137; refine (HNW.out _ _ _ W2.out.ir).mono ?_; rintro e w3 ⟨rfl, hx⟩; have K3 := Lib.hid (K2.out.trans (hx.below K2.out.size)); have l0 := (Blk.below HS.out K3.out HS.out.lt).rd 0 rfl; have l1 := (Blk.below HS.out K3.out HS.out.lt).rd 1 rfl; clear hx k0 k1))
  clear r0 r1 HCW HNW
  have HB3 := Lib.hid (H0.out.trans (K3.out.mono (by omega : w.heap.size ≤ W0.heap.size)))
  go_wp2_with fail
  go_region_held3 (fun w' => w'.cell? ⟨w.heap.size, 0, none⟩ = some (.int .i64 (C : Int)) ∧ w'.cell? ⟨w.heap.size, 1, none⟩ = some (.slice A n c))
    (first | exact ⟨k0, k1⟩ | exact ⟨m0, m1⟩ | go_keep)
    (first
      | (go_at_call 129; refine (HCE.out _ HB3.out.drew).mono ?_; rintro e w4 ⟨F4, cf4, rfl, hb, hw⟩; have K4 := Lib.hid (K3.out.drew.trans (hb.mono K3.out.size)); have W4 := Lib.hid hw; have k0 := (Blk.below HS.out K4.out HS.out.lt).rd 0 rfl; have k1 := (Blk.below HS.out K4.out HS.out.lt).rd 1 rfl; clear hb hw)
      | (go_at_call 137; refine (HNE.out _ _ _ W4.out.ir).mono ?_; rintro e w5 ⟨rfl, hx⟩; have K5 := Lib.hid (K4.out.trans (hx.below K4.out.size)); have m0 := (Blk.below HS.out K5.out HS.out.lt).rd 0 rfl; have m1 := (Blk.below HS.out K5.out HS.out.lt).rd 1 rfl; clear hx k0 k1))
  clear l0 l1 HCE HNE
  have HR5 := HR.out.below K5.out HR.out.lt
  have t0 := HR5.rd 0 rfl
  have t1 := HR5.rd 1 rfl
  have t2 := HR5.rd 2 rfl
  have t3 := HR5.rd 3 rfl
  have z0 := HR5.frozen 0
  have z1 := HR5.frozen 1
  have z2 := HR5.frozen 2
  have z3 := HR5.frozen 3
  have HB5 := Lib.hid (H0.out.trans (K5.out.mono (by omega : w.heap.size ≤ W0.heap.size)))
  clear HR5
  have hb5 : w.heap.size ≤ w.heap.size + 1 := by omega
  have HLE := Lib.hid hb5
  clear hb5
  go_wp2_with fail
  refine bodyPost_ret (v := .agg #[.int .i64 nw, .int .i64 0, .int .i64 ne, .int .i64 0]) (by simp [results, Try.results93, go_sem, t0, t1, t2, t3, z0, z1, z2, z3]) rfl ⟨rfl, ?_⟩
  exact (((HB5.out.setCell HLE.out _).setCell HLE.out _).setCell HLE.out _).setCell HLE.out _

set_option maxRecDepth 100000 in
set_option maxHeartbeats 1000000 in
theorem wordsOfLength_any (C : Nat) (A : Option Addr) (n c : Nat) (h : Nat) (w : World) (hc6 : C ≤ 6) (hh : h ≤ 4) :
    Calls Try.prog 91 #[.agg #[.int .i64 (C : Int), .slice A n c], .int .i64 (h : Int)] w fun e w' => e = .returned (.int .i64 ((C ^ h : Nat) : Int)) ∧ Ext w w' := by
  go_enter Try.func91, Try.ntmps91
  go_wp2_with fail
  have HX0 := Lib.hid ((Ext.refl w).alloc (Obj.cells #[.int .i64 (C : Int), .slice A n c] 30))
  have r0 := (Blk.new w 30 #[.int .i64 (C : Int), .slice A n c]).rd 0 rfl
  generalize w.alloc (Obj.cells #[.int .i64 (C : Int), .slice A n c] 30) = W0 at *
  go_loopw [5, 7] (fun v i wr => ∃ k : Nat, k ≤ h ∧ i = .int .i64 k ∧ v = .int .i64 ((C ^ k : Nat) : Int) ∧ wr = W0) (fun _ i _ => h - (intOf i).toNat)
  case atStart => exact ⟨0, Nat.zero_le _, rfl, by simp, rfl⟩
  case round =>
    obtain ⟨k, hk, rfl, rfl, rfl⟩ := hrel
    have hp := pow_le4 (k := k) hc6 (by omega)
    have hs : C ^ (k + 1) = C ^ k * C := Nat.pow_succ ..
    have hpc : C ^ k * C ≤ 1296 * 6 := Nat.mul_le_mul hp hc6
    have EP := Lib.hid hs
    clear hs
    obtain ⟨p, hp'⟩ : ∃ p, p = C ^ k := ⟨_, rfl⟩
    rw [← hp'] at hp hpc EP ⊢
    have EK := Lib.hid hp'
    clear hp'
    by_cases hlt : k < h
    · have hcast : ((p * C : Nat) : Int) = (p : Int) * (C : Int) := by push_cast; rfl
      have hw1 : IntKind.i64.wrap ((p : Int) * (C : Int)) = (p : Int) * (C : Int) := IntWalk.i64_in _ (by omega)
      have hlt3 : (k : Int) < (h : Int) := by omega
      go_wp2_with fail
      go_roundw
      case rel => exact ⟨k + 1, by omega, by go_num, by rw [EP.out]; push_cast; rfl, trivial⟩
      case measure => simp [intOf]; omega
    · obtain rfl : k = h := by omega
      go_wp2_with fail
      go_ret
      exact ⟨by rw [← EK.out]; rfl, HX0.out⟩

/-- What the height and the set are checked for. -/
def hCode (c0 : Int) (ts : List Tl) (h : Int) : Int := if isSet c0 ts = true then (if 1 ≤ h ∧ h ≤ 4 then 0 else 2) else 1
set_option maxRecDepth 100000 in
set_option maxHeartbeats 1000000 in
theorem checkHeight_any (c0 : Int) (A : Option Addr) (n c : Nat) (ts : List Tl) (h : Int) (w : World) (hn : n ≤ 1048576) (hl : ts.length = n) (hA : TR w w.heap.size A ts) :
    Calls Try.prog 90 #[.agg #[.int .i64 c0, .slice A n c], .int .i64 h] w fun e w' => e = .returned (.int .i64 (hCode c0 ts h)) ∧ Ext w w' := by
  have his : ∀ W, Ext w W → Calls Try.prog 67 #[.agg #[.int .i64 c0, .slice A n c]] W _ := fun W hW => isSet_any c0 A n c ts W (by omega) hl ((hA.ext hW (Nat.le_refl _)).more (hW.below (Nat.le_refl _)).size)
  have HI := Lib.hid his
  clear his hA
  obtain ⟨code, hcode⟩ : ∃ code, hCode c0 ts h = code := ⟨_, rfl⟩
  rw [hcode]
  unfold hCode at hcode
  generalize isSet c0 ts = s at HI hcode
  have HC := Lib.hid hcode
  clear hcode
  go_enter Try.func90, Try.ntmps90
  go_wp2_with fail
  refine (HI.out _ ((Ext.refl w).alloc _)).mono ?_
  rintro e w1 ⟨rfl, hx⟩
  have HX := Lib.hid (((Ext.refl w).alloc _).trans hx)
  clear hx HI
  cases s with
  | false =>
    go_wp2_with fail
    go_ret
    exact ⟨by rw [← HC.out]; rfl, HX.out⟩
  | true =>
    by_cases h1 : h < 1
    · go_wp2_with fail
      go_ret
      exact ⟨by have hc := HC.out; rw [if_pos trivial, if_neg (by omega)] at hc; rw [← hc]; rfl, HX.out⟩
    · by_cases h4 : 4 < h
      · go_wp2_with fail
        go_ret
        exact ⟨by have hc := HC.out; rw [if_pos trivial, if_neg (by omega)] at hc; rw [← hc]; rfl, HX.out⟩
      · go_wp2_with fail
        go_ret
        exact ⟨by have hc := HC.out; rw [if_pos trivial, if_pos (by omega)] at hc; rw [← hc]; rfl, HX.out⟩
end Go.Proofs.Ytblcghefnikmeaa
