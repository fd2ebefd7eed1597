/- IntervalOf: the program's errors; the model's ends. -/
import Derived.Test.YtplbjnnicmcpdaaIt3
namespace Go.Proofs.Ytplbjnnicmcpdaa
set_option linter.unusedVariables false
set_option linter.unusedSimpArgs false
open Go.RowKit Go.Sort

theorem iwr_none {w : World} {lo hi : Nat} {A : Option Addr} : IWr w lo hi A [] := fun h => absurd h (Nat.lt_irrefl _)
set_option maxRecDepth 100000 in
set_option maxHeartbeats 2000000 in
theorem implInterval_2 (A : Option Addr) (n c : Nat) (xs : List Int) (w : World) (hn : n ≤ 1048576) (hl : xs.length = n) (hA : IR w w.heap.size A xs) (h : itOk xs = false) :
    Calls Try.prog 10 #[.slice A n c] w (LLOwn w [] [] 2) := by
  have hrl := isRowLength_any (n : Int) w
  by_cases h1 : 1 ≤ n ∧ n ≤ 20
  · rw [decide_eq_true (by omega)] at hrl
    have hwi := areWithin_raw 0 5 A n c xs w (by omega) hl (fun h0 => by
      obtain ⟨b, o, e, -, hc⟩ := hA (by omega)
      exact ⟨b, o, e, fun k hk => hc k (by omega)⟩)
    have hb : withinB 0 5 xs = false := by simpa [itOk, hl, h1] using h
    rw [hb] at hwi
    have HRL := Lib.hid hrl
    have HWI := Lib.hid hwi
    clear hrl hwi hb h hA h1
    go_enter Try.func10, Try.ntmps10
    go_wp2_with fail
    refine HRL.out.mono ?_
    rintro e w' ⟨rfl, rfl⟩
    go_wp2_with fail
    refine HWI.out.mono ?_
    rintro e w' ⟨rfl, rfl⟩
    go_wp2_with fail
    go_ret3
    exact LLOwn.mk none 0 none 0 _ (Nat.le_refl _) (Nat.le_refl _) rfl (Below.refl _ _) iwr_none iwr_none
  · rw [decide_eq_false (by omega)] at hrl
    have HRL := Lib.hid hrl
    clear hrl h hA h1
    go_enter Try.func10, Try.ntmps10
    go_wp2_with fail
    refine HRL.out.mono ?_
    rintro e w' ⟨rfl, rfl⟩
    go_wp2_with fail
    go_ret3
    exact LLOwn.mk none 0 none 0 _ (Nat.le_refl _) (Nat.le_refl _) rfl (Below.refl _ _) iwr_none iwr_none
set_option maxRecDepth 100000 in
set_option maxHeartbeats 2000000 in
theorem implInterval_4 (A : Option Addr) (n c : Nat) (xs : List Int) (w : World) (hl : xs.length = n) (hA : IR w w.heap.size A xs) (h : itOk xs = true) (hh : itHas xs = false) :
    Calls Try.prog 10 #[.slice A n c] w (LLOwn w [] [] 4) := by
  obtain ⟨h1, h5⟩ := itOk_5 h
  rw [hl] at h1
  have hrl := isRowLength_any (n : Int) w
  rw [decide_eq_true (by omega)] at hrl
  have hwi := areWithin_raw 0 5 A n c xs w (by omega) hl (fun h0 => by
    obtain ⟨b, o, e, -, hc⟩ := hA (by omega)
    exact ⟨b, o, e, fun k hk => hc k (by omega)⟩)
  rw [show withinB 0 5 xs = true by simp only [itOk, Bool.and_eq_true] at h; exact h.2] at hwi
  have HIV := Lib.hid (intervalOf_any A n c xs w (by omega) (by omega) hl hA h5)
  have hsl := lowE_small h
  have hsh := highE_small h
  simp only [itHas, decide_eq_false_iff_not] at hh
  have hc1 := smul hsl hsh
  have hc2 := smul hsh hsl
  have hcm := cmpI_ge (x := (((lowE xs).1 * (highE xs).2 : Nat) : Int)) (y := (((highE xs).1 * (lowE xs).2 : Nat) : Int)) (fun hlt => hh (Int.ofNat_lt.1 hlt))
  have hcmp := fun W => compareFrac_any (lowE xs) (highE xs) W hc1 hc2
  generalize cmpI (((lowE xs).1 * (highE xs).2 : Nat) : Int) (((highE xs).1 * (lowE xs).2 : Nat) : Int) = z at hcm hcmp
  obtain ⟨⟨lx, ly⟩, hlo⟩ : ∃ f, f = lowE xs := ⟨_, rfl⟩
  obtain ⟨⟨hx, hy⟩, hhi⟩ : ∃ f, f = highE xs := ⟨_, rfl⟩
  rw [← hlo] at HIV hcmp
  rw [← hhi] at HIV hcmp
  simp only [fv] at HIV hcmp
  have HCM := Lib.hid hcmp
  have HRL := Lib.hid hrl
  have HWI := Lib.hid hwi
  clear hrl hwi hcmp hlo hhi hsl hsh hh hc1 hc2 h h5 hA
  go_enter Try.func10, Try.ntmps10
  go_wp2_with fail
  refine HRL.out.mono ?_
  rintro e w' ⟨rfl, rfl⟩
  go_wp2_with fail
  refine HWI.out.mono ?_
  rintro e w' ⟨rfl, rfl⟩
  go_wp2_with fail
  refine HIV.out.mono ?_
  rintro e w1 ⟨rfl, hb⟩
  obtain ⟨W1, hW1⟩ : ∃ W1, (w1.alloc (Obj.cells #[.int .i64 (lx : Int), .int .i64 (ly : Int)] 59)).alloc (Obj.cells #[.int .i64 (hx : Int), .int .i64 (hy : Int)] 59) = W1 := ⟨_, rfl⟩
  have hE : Ext w1 W1 := by rw [← hW1]; exact ((Ext.refl w1).alloc _).alloc _
  have hP0 : Blk W1 w1.heap.size 59 #[.int .i64 (lx : Int), .int .i64 (ly : Int)] := by rw [← hW1]; exact (Blk.new w1 _ _).ext ((Ext.refl _).alloc _)
  have hQ0 : Blk W1 (w1.heap.size + 1) 59 #[.int .i64 (hx : Int), .int .i64 (hy : Int)] := by rw [← hW1]; have := Blk.new (w1.alloc (Obj.cells #[.int .i64 (lx : Int), .int .i64 (ly : Int)] 59)) 59 #[.int .i64 (hx : Int), .int .i64 (hy : Int)]; simpa using this
  have HB1 := Lib.hid (hb.trans (hE.below hb.size))
  have i0 := hP0.rd 0 rfl
  have i1 := hP0.rd 1 rfl
  have i2 := hQ0.rd 0 rfl
  have i3 := hQ0.rd 1 rfl
  clear hb hE hP0 hQ0
  go_wp2_with fail
  clear hW1 i0 i1 i2 i3
  refine (HCM.out _).mono ?_
  rintro e w2 ⟨rfl, hx2⟩
  have K2 := Lib.hid (HB1.out.trans (hx2.below HB1.out.size))
  clear hx2
  go_wp2_with fail
  go_ret3
  exact LLOwn.mk none 0 none 0 _ K2.out.size (Nat.le_refl _) rfl K2.out iwr_none iwr_none

/-- The ends, as the model finds them. -/
def lowP (xs : List Int) : Nat → Fq
  | 0 => (0, 1)
  | k + 1 => if (lowP xs k).1 * (k + 1) < nS xs (k + 1) * (lowP xs k).2 then (nS xs (k + 1), k + 1) else lowP xs k
def highP (xs : List Int) : Nat → Fq
  | 0 => (6, 1)
  | k + 1 => if (nS xs (k + 1) + 1) * (highP xs k).2 < (highP xs k).1 * (k + 1) then (nS xs (k + 1) + 1, k + 1) else highP xs k
theorem lowP_succ (xs : List Int) (k : Nat) : lowP xs (k + 1) = if (lowP xs k).1 * (k + 1) < nS xs (k + 1) * (lowP xs k).2 then (nS xs (k + 1), k + 1) else lowP xs k := rfl
theorem highP_succ (xs : List Int) (k : Nat) : highP xs (k + 1) = if (nS xs (k + 1) + 1) * (highP xs k).2 < (highP xs k).1 * (k + 1) then (nS xs (k + 1) + 1, k + 1) else highP xs k := rfl
theorem maxF_succ (fs : List Fq) (k : Nat) : maxF fs (k + 1) = if (maxF fs k).1 * (fs.getD (k + 1) F0).2 < (fs.getD (k + 1) F0).1 * (maxF fs k).2 then fs.getD (k + 1) F0 else maxF fs k := rfl
theorem minF_succ (fs : List Fq) (k : Nat) : minF fs (k + 1) = if (fs.getD (k + 1) F0).1 * (minF fs k).2 < (minF fs k).1 * (fs.getD (k + 1) F0).2 then fs.getD (k + 1) F0 else minF fs k := rfl
theorem lowP_eq (xs : List Int) (n : Nat) : ∀ k, k < n → maxF (lowsF xs n) k = lowP xs (k + 1)
  | 0, hk => by
    show (lowsF xs n).getD 0 F0 = _
    rw [lowsF_at xs hk, lowP_succ]
    by_cases h : (lowP xs 0).1 * (0 + 1) < nS xs (0 + 1) * (lowP xs 0).2
    · rw [if_pos h]
    · rw [if_neg h]
      have h' : ¬ 0 * (0 + 1) < nS xs (0 + 1) * 1 := h
      have : nS xs (0 + 1) = 0 := by omega
      rw [this]
      rfl
  | k + 1, hk => by
    rw [maxF_succ, lowP_succ xs (k + 1), lowsF_at xs hk, lowP_eq xs n k (by omega)]
theorem highP_eq {xs : List Int} (n : Nat) (h1 : nS xs 1 ≤ 5) : ∀ k, k < n → minF (highsF xs n) k = highP xs (k + 1)
  | 0, hk => by
    show (highsF xs n).getD 0 F0 = _
    rw [highsF_at xs hk, highP_succ]
    by_cases h : (nS xs (0 + 1) + 1) * (highP xs 0).2 < (highP xs 0).1 * (0 + 1)
    · rw [if_pos h]
    · rw [if_neg h]
      have h' : ¬ (nS xs (0 + 1) + 1) * 1 < 6 * (0 + 1) := h
      have h2 : nS xs (0 + 1) ≤ 5 := h1
      have : nS xs (0 + 1) = 5 := by omega
      rw [this]
      rfl
  | k + 1, hk => by
    rw [minF_succ, highP_succ xs (k + 1), highsF_at xs hk, highP_eq n h1 k (by omega)]
theorem lt_low {a b i s g : Nat} (hg : 0 < g) (ha : g ∣ a) (hb : g ∣ b) : a / g * i < s * (b / g) ↔ a * i < s * b := by
  obtain ⟨x, rfl⟩ := ha
  obtain ⟨y, rfl⟩ := hb
  rw [Nat.mul_div_cancel_left _ hg, Nat.mul_div_cancel_left _ hg, Nat.mul_assoc, ← Nat.mul_assoc s, Nat.mul_comm s g, Nat.mul_assoc]
  exact (Nat.mul_lt_mul_left hg).symm
theorem lt_high {a b i s g : Nat} (hg : 0 < g) (ha : g ∣ a) (hb : g ∣ b) : s * (b / g) < a / g * i ↔ s * b < a * i := by
  obtain ⟨x, rfl⟩ := ha
  obtain ⟨y, rfl⟩ := hb
  rw [Nat.mul_div_cancel_left _ hg, Nat.mul_div_cancel_left _ hg, Nat.mul_assoc, ← Nat.mul_assoc s, Nat.mul_comm s g, Nat.mul_assoc]
  exact (Nat.mul_lt_mul_left hg).symm
theorem lowP_small {xs : List Int} (hl : xs.length ≤ 20) (h : ∀ k, k < xs.length → 0 ≤ xs.getD k 0 ∧ xs.getD k 0 ≤ 5) : ∀ k, k ≤ xs.length → smallF (lowP xs k) ∧ 0 < (lowP xs k).2
  | 0, _ => by simp [lowP, smallF]
  | k + 1, hk => by
    have := nS_le h (k + 1) hk
    simp only [lowP]
    split
    · exact ⟨⟨by simp only; omega, by simp only; omega⟩, by simp⟩
    · exact lowP_small hl h k (by omega)
theorem highP_small {xs : List Int} (hl : xs.length ≤ 20) (h : ∀ k, k < xs.length → 0 ≤ xs.getD k 0 ∧ xs.getD k 0 ≤ 5) : ∀ k, k ≤ xs.length → smallF (highP xs k) ∧ 0 < (highP xs k).2
  | 0, _ => by simp [highP, smallF]
  | k + 1, hk => by
    have := nS_le h (k + 1) hk
    simp only [highP]
    split
    · exact ⟨⟨by simp only; omega, by simp only; omega⟩, by simp⟩
    · exact highP_small hl h k (by omega)
set_option maxRecDepth 100000 in
set_option maxHeartbeats 2000000 in
theorem l08Lowest_any (a b : Nat) (w : World) (hb : 0 < b) (ha : a ≤ 300) (hb3 : b ≤ 300) :
    Calls Try.prog 31 #[.int .i64 (a : Int), .int .i64 (b : Int)] w fun e w' => ∃ R, e = .returned (.slice R 2 2) ∧ Below w.heap.size w w' ∧ IWr w' w.heap.size w'.heap.size R (lowT (a, b)) := by
  have HG := Lib.hid (fun W => l06Gcd_any a b W (by omega) (by omega))
  have hg0 : 0 < Nat.gcd a b := Nat.gcd_pos_of_pos_right a hb
  have HT := Lib.hid (show lowT (a, b) = [((a / Nat.gcd a b : Nat) : Int), ((b / Nat.gcd a b : Nat) : Int)] from rfl)
  generalize Nat.gcd a b = g at *
  go_enter Try.func31, Try.ntmps31
  go_wp2_with fail
  refine (HG.out _).mono ?_
  rintro e w1 ⟨rfl, hx⟩
  have HX1 := Lib.hid hx
  have HS := Lib.hid (hx.below (Nat.le_refl w.heap.size)).size
  clear hx
  obtain ⟨g1, g1'⟩ := tdivN3 a g (by omega)
  obtain ⟨g2, g2'⟩ := tdivN3 b g (by omega)
  generalize a / g = x at *
  generalize b / g = y at *
  obtain ⟨y1, y1'⟩ : ¬ (g : Int) = 0 ∧ ((g : Int) == 0) = false := ⟨by omega, by rw [beq_eq_false_iff_ne]; omega⟩
  go_wp2_with fail
  have n1 : ¬ g = 0 := by omega
  go_region_held3 (fun w' => w1.heap.size ≤ w'.heap.size)
    (first | go_keep | (simp; done)) (fail)
  all_goals
    clear g1 g1' g2 g2' y1 y1' n1
    go_wp2_with fail
    go_ret
    exact ⟨_, rfl, ((HX1.out.alloc _).drew).below (Nat.le_refl _), by rw [HT.out]; exact (iwr_twoL w1 (x : Int) (y : Int) _ HS.out).ext ((Ext.refl _).drew)⟩
end Go.Proofs.Ytplbjnnicmcpdaa
