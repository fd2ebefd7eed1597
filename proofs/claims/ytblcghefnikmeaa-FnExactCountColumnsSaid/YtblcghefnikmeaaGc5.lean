/- Columns: a list is cut; all columns; the program's side. -/
import Derived.Test.YtblcghefnikmeaaGc3
import Derived.Lib.Hide
namespace Go.Proofs.Ytblcghefnikmeaa
set_option linter.unusedVariables false
set_option linter.unusedSimpArgs false
open Go.RowKit Go.Sort

theorem flat_at {rs : List (List Int)} {h : Nat} (hr : ∀ r ∈ rs, r.length = h) : ∀ {k j : Nat}, k < rs.length → j < h → rs.flatten.getD (k * h + j) 0 = (rs.getD k []).getD j 0 := by
  induction rs with
  | nil => intro k j hk; simp at hk
  | cons r rs ih =>
    intro k j hk hj
    have hrl := hr r (by simp)
    rw [List.flatten_cons]
    cases k with
    | zero =>
      simp only [Nat.zero_mul, Nat.zero_add, List.getD_cons_zero]
      simp [List.getD, List.getElem?_append_left (show j < r.length by omega)]
    | succ k =>
      simp only [List.getD_cons_succ]
      rw [← ih (fun s hs => hr s (by simp [hs])) (k := k) (by simp at hk; omega) hj]
      have e : (k + 1) * h + j = r.length + (k * h + j) := by rw [hrl, Nat.add_mul]; omega
      rw [e, List.getD, List.getElem?_append_right (by omega), Nat.add_sub_cancel_left]
      rfl
theorem ir_part {w : World} {B b off h k : Nat} {rs : List (List Int)} (hA : IR w B (some ⟨b, off, none⟩) rs.flatten) (hr : ∀ r ∈ rs, r.length = h) (hk : k < rs.length) : IR w B (some ⟨b, off + k * h, none⟩) (rs.getD k []) := fun h0 => by
  have hkl : (rs.getD k []).length = h := hr _ (by simp [List.getD, hk])
  have hfl := flat_len_of hr
  have hm : k * h + h ≤ rs.length * h := by
    have := Nat.mul_le_mul_right h (show k + 1 ≤ rs.length by omega)
    rw [Nat.add_mul] at this
    omega
  obtain ⟨b', off', e, hb, hc⟩ := hA (by omega)
  cases e
  refine ⟨b, off + k * h, rfl, hb, fun j hj => ?_⟩
  rw [hkl] at hj
  rw [← flat_at hr hk hj, Nat.add_assoc]
  exact hc (k * h + j) (by omega)

set_option maxRecDepth 100000 in
set_option maxHeartbeats 2000000 in
theorem cutColumns_any (A : Option Addr) (L c : Nat) (rs : List (List Int)) (h : Nat) (hI : Int) (w : World) (hhI : hI = (h : Int)) (h1 : 1 ≤ h) (hh : h ≤ 4) (hr : ∀ r ∈ rs, r.length = h) (hL : rs.flatten.length = L) (hcap : L ≤ c) (hLs : rs.length ≤ 65536) (hA : IR w w.heap.size A rs.flatten) (lo : Nat) (hlo : lo ≤ w.heap.size) (hAlo : ∀ b o, A = some ⟨b, o, none⟩ → 0 < L → lo ≤ b) :
    Calls Try.prog 135 #[.slice A L c, .int .i64 hI] w fun e w' => ∃ R cap, e = .returned (.slice R rs.length cap) ∧ Below w.heap.size w w' ∧ IRL w' lo R rs := by
  subst hhI
  have HA := Lib.hid hA
  have HR := Lib.hid hr
  have hLm : L = rs.length * h := by rw [← hL]; exact flat_len_of hr
  clear hA hr hL
  have HLM := Lib.hid hLm
  have hL9 : L ≤ 262144 := by rw [hLm]; exact Nat.le_trans (Nat.mul_le_mul hLs hh) (by decide)
  clear hLm
  go_enter Try.func135, Try.ntmps135
  go_wp2_with fail
  go_loopw [5, 6] (fun v ff wr => ∃ k : Nat, k ≤ rs.length ∧ ff = .int .i64 ((k * h : Nat) : Int) ∧ OwnS wr w.heap.size lo v (rs.take k) ∧ Below w.heap.size w wr) (fun _ ff _ => L - (intOf ff).toNat)
  case atStart => exact ⟨0, Nat.zero_le _, by simp, OwnS.nil _ _ _, Below.refl _ _⟩
  case round =>
    obtain ⟨k, hk, rfl, hown, hb⟩ := hrel
    have HO := Lib.hid hown
    have HB := Lib.hid hb
    clear hown hb
    by_cases hlt : k < rs.length
    · have hm : k * h + h ≤ L := by
        have := Nat.mul_le_mul_right h (show k + 1 ≤ rs.length by omega)
        rw [Nat.add_mul, ← HLM.out] at this
        omega
      obtain ⟨b, off, rfl, hbb, -⟩ := HA.out (by rw [flat_len_of HR.out, ← HLM.out]; omega)
      have HP := Lib.hid (ir_part HA.out HR.out hlt)
      have HK := Lib.hid (show (rs.getD k []).length = h from HR.out _ (by simp [List.getD, hlt]))
      have HT := Lib.hid (rtake_snoc rs hlt)
      have HTL := Lib.hid (show (rs.take k).length + 1 ≤ 65537 by rw [List.length_take]; omega)
      have HF := Lib.hid (show (k + 1) * h = k * h + h by rw [Nat.add_mul]; omega)
      obtain ⟨f, hf⟩ : ∃ f, f = k * h := ⟨_, rfl⟩
      rw [← hf] at hm HP HF ⊢
      clear hf
      have hf1 : (f : Int) < (L : Int) := by omega
      have hf2 : f ≤ f + h := by omega
      have hf3 : f + h ≤ c := by omega
      have hw1 : IntKind.i64.wrap ((f : Int) + (h : Int)) = (f : Int) + (h : Int) := IntWalk.i64_in _ (by omega)
      have hf4 : (f : Int) + (h : Int) ≤ (c : Int) := by omega
      have hf5 : (f : Int) ≤ (f : Int) + (h : Int) := by omega
      have hf6 : (0 : Int) ≤ (f : Int) + (h : Int) := by omega
      have hszb := HB.out.size
      go_wp2_with (at_builtin; refine wpList_pushS rfl _ _ rfl w.heap.size lo _ (rs.take k) rfl wr HO.out (((Ext.refl _).alloc _).below (Nat.le_refl _)) wr.heap.size (some ⟨b, off + f, none⟩) h h (rs.getD k []) rfl (heap_alloc_new wr _) ?c1 ?c4 HK.out (Nat.le_refl _) ?c2 ?c3 ?_)
      case c4 => intro c' u' e' _; cases e'; exact hAlo b off rfl (by omega)
      case c1 => exact (rdi_of_ir (HP.out.below HB.out (Nat.le_refl _)) HB.out.size (fun g e => (HO.out.lt e).1)).ext ((Ext.refl _).alloc _)
      case c2 => have := HTL.out; omega
      case c3 => exact hszb
      intro v' w3 hown' hgrow hb3
      have O3 := Lib.hid (show OwnS w3 w.heap.size lo v' (rs.take (k + 1)) by first | exact hown' | (rw [HT.out]; exact hown'))
      have B3 := Lib.hid ((HB.out.alloc hszb _).trans hb3)
      clear hown' hgrow hb3
      go_wp2_with fail
      go_roundw
      case rel => exact ⟨k + 1, by omega, by rw [HF.out]; push_cast; rfl, O3.out, B3.out⟩
      case measure => simp [intOf]; omega
    · have hk2 : k = rs.length := by omega
      obtain ⟨f, hf⟩ : ∃ f, f = k * h := ⟨_, rfl⟩
      rw [← hf]
      have hnl : ¬ (f : Int) < (L : Int) := by rw [hf, hk2, ← HLM.out]; omega
      clear hf
      have HO2 := HO.out
      rw [hk2, List.take_length] at HO2
      obtain ⟨A2, cap2, rfl, hcap2, hir⟩ := HO2.done hlo
      have HI := Lib.hid hir
      clear HO2 hir HO
      go_wp2_with fail
      go_ret
      first | exact ⟨A2, cap2, rfl, HB.out, HI.out⟩ | exact ⟨A2, ⟨cap2, rfl⟩, HB.out, HI.out⟩

theorem IWr.lo_at {w : World} {lo lo' hi : Nat} {A : Option Addr} {xs : List Int} (h : IWr w lo hi A xs) (hl : lo' ≤ lo) : ∀ b o, A = some ⟨b, o, none⟩ → 0 < xs.length → lo' ≤ b := by
  intro b o e h0
  obtain ⟨b', o', _, _, e', h1, _⟩ := h h0
  rw [e] at e'
  cases e'
  omega
set_option maxRecDepth 100000 in
set_option maxHeartbeats 2000000 in
theorem columnsOf_any (c0 : Int) (A : Option Addr) (n c : Nat) (ts : List Tl) (h : Nat) (w : World) (hn : n ≤ 16) (hl : ts.length = n) (hA : TR w w.heap.size A ts) (hh : h ≤ 4) :
    Calls Try.prog 92 #[.agg #[.int .i64 c0, .slice A n c], .int .i64 (h : Int)] w fun e w' => ∃ R cap, e = .returned (.slice R (colsL ts h).length cap) ∧ Below w.heap.size w w' ∧ IRL w' w.heap.size R (colsL ts h) := by
  have HA := Lib.hid hA
  clear hA
  go_enter Try.func92, Try.ntmps92
  go_wp2_with fail
  obtain ⟨W0, hW0⟩ : ∃ W0, (w.alloc (Obj.cells #[.int .i64 c0, .slice A n c] 30)).alloc (Obj.cells #[.slice none 0 0] 48) = W0 := ⟨_, rfl⟩
  have hx0 : Ext w W0 := by rw [← hW0]; exact ((Ext.refl w).alloc _).alloc _
  have hS : Blk W0 w.heap.size 30 #[.int .i64 c0, .slice A n c] := by rw [← hW0]; exact (Blk.new w _ _).ext ((Ext.refl _).alloc _)
  have hR : Blk W0 (w.heap.size + 1) 48 #[.slice none 0 0] := by
    rw [← hW0]
    have := Blk.new (w.alloc (Obj.cells #[.int .i64 c0, .slice A n c] 30)) 48 #[.slice none 0 0]
    simpa using this
  rw [hW0]
  have HX0 := Lib.hid (hx0.below (Nat.le_refl _))
  have HS := Lib.hid hS
  have HR := Lib.hid hR
  clear hx0 hS hR hW0
  go_loopw [5, 9] (fun v ii wr => ∃ (i : Nat) (R : Option Addr) (q : Nat), i ≤ h ∧ ii = .int .i64 i ∧ v = .slice R (colsL ts i).length q ∧ IRL wr w.heap.size R (colsL ts i) ∧ Below W0.heap.size W0 wr) (fun _ ii _ => h - (intOf ii).toNat)
  case atStart =>
    refine ⟨0, _, _, Nat.zero_le _, rfl, rfl, fun _ => ⟨w.heap.size + 1, 0, rfl, by omega, HR.out.lt, fun k hk => ?_⟩, Below.refl _ _⟩
    have hk0 : k = 0 := by simp [colsL] at hk; exact hk
    subst hk0
    exact ⟨none, 0, HR.out.cell 0, Nat.le_refl _, fun h0 => absurd h0 (Nat.lt_irrefl _), fun _ _ _ h0 => absurd h0 (Nat.lt_irrefl _)⟩
  case round =>
    obtain ⟨i, R, q, hi, rfl, rfl, hir, hb⟩ := hrel
    have HI := Lib.hid hir
    have HB := Lib.hid hb
    have hsz := hb.size
    clear hir hb
    by_cases hlt : i < h
    · have hm16 : (colsL ts i).length ≤ 4096 := Nat.le_trans (colsL_16 (by omega) i) (Nat.le_trans (Nat.pow_le_pow_right (by omega) (show i ≤ 3 by omega)) (by decide))
      have hm17 : (colsL ts (i + 1)).length ≤ 65536 := Nat.le_trans (colsL_16 (by omega) (i + 1)) (Nat.le_trans (Nat.pow_le_pow_right (by omega) (show i + 1 ≤ 4 by omega)) (by decide))
      have hat := fun k (hk : k < (colsL ts i).length) => colsL_at ts i hk
      have hll : ∀ W, Below W0.heap.size W0 W → IRR W W.heap.size R (colsL ts i) → Calls Try.prog 136 #[.agg #[.int .i64 c0, .slice A n c], .slice R (colsL ts i).length q] W _ := fun W hW hWR => listLonger_any c0 A n c ts R _ q (colsL ts i) i W hn hl ((HA.out.below (HX0.out.trans (hW.mono HX0.out.size)) (Nat.le_refl _)).more (HX0.out.trans (hW.mono HX0.out.size)).size) hm16 rfl hWR (by omega) hat
      have hcc : ∀ W F cf, (longerL ts (colsL ts i)).flatten.length ≤ cf → IR W W.heap.size F (longerL ts (colsL ts i)).flatten → w.heap.size ≤ W.heap.size → (∀ b o, F = some ⟨b, o, none⟩ → 0 < (longerL ts (colsL ts i)).flatten.length → w.heap.size ≤ b) → Calls Try.prog 135 #[.slice F (longerL ts (colsL ts i)).flatten.length cf, .int .i64 ((i : Int) + 1)] W _ := fun W F cf h1 h2 h3 h5 => cutColumns_any F _ cf (longerL ts (colsL ts i)) (i + 1) ((i : Int) + 1) W (by push_cast; rfl) (by omega) (by omega) (longerL_each (each_take fun k hk => (hat k hk).1)) rfl h1 hm17 h2 w.heap.size h3 h5
      have HE := Lib.hid (show colsL ts (i + 1) = longerL ts (colsL ts i) from rfl)
      have HLL := Lib.hid hll
      have HCC := Lib.hid hcc
      clear hll hcc hm16 hm17 hat
      generalize longerL ts (colsL ts i) = lon at *
      generalize (colsL ts i).length = len at *
      obtain ⟨fl, hfl⟩ : ∃ fl, fl = lon.flatten := ⟨_, rfl⟩
      rw [← hfl] at HLL HCC
      clear hfl
      have r0 := (HS.out.below HB.out HS.out.lt).rd 0 rfl
      have r1 := (HS.out.below HB.out HS.out.lt).rd 1 rfl
      have hlt3 : (i : Int) < (h : Int) := by omega
      have hwi : IntKind.i64.wrap ((i : Int) + 1) = (i : Int) + 1 := IntWalk.i64_in _ (by omega)
      go_wp2_with (first | (go_at_call 136; refine (HLL.out _ HB.out HI.out.irr).mono ?_; rintro e w2 ⟨F, cf, rfl, hcf, hb2, hw2⟩; have K2 := Lib.hid (HB.out.trans (hb2.mono hsz)); have W2 := Lib.hid hw2; clear hb2 hw2) | (go_at_call 135; refine (HCC.out _ _ _ hcf W2.out.ir (Nat.le_trans HX0.out.size K2.out.size) (W2.out.lo_at (Nat.le_trans HX0.out.size hsz))).mono ?_; rintro e w3 ⟨F3, cf3, rfl, hb3, hw3⟩; have K3 := Lib.hid (K2.out.trans (hb3.mono K2.out.size)); have W3 := Lib.hid hw3; clear hb3 hw3))
      go_roundw
      case rel => exact ⟨i + 1, F3, cf3, by omega, by go_num, by rw [HE.out], by rw [HE.out]; exact W3.out, K3.out⟩
      case measure => simp [intOf]; omega
    · obtain rfl : i = h := by omega
      go_wp2_with fail
      go_ret
      exact ⟨R, q, rfl, HX0.out.trans (HB.out.mono HX0.out.size), HI.out⟩
end Go.Proofs.Ytblcghefnikmeaa
