/- Fractions in lowest terms on both sides; IntervalOf: the program's door. -/
import Derived.Test.YtplbjnnicmcpdaaIt2
import Derived.Test.YtplbjnnicmcpdaaGd1
import Derived.Test.YtplbjnnicmcpdaaWords3
import Derived.Deep.RegionHeld3
namespace Go.Proofs.Ytplbjnnicmcpdaa
set_option linter.unusedVariables false
set_option linter.unusedSimpArgs false
open Go.RowKit Go.Sort

/-- A fraction in lowest terms, as two numbers. -/
def lowT (f : Fq) : List Int := [((f.1 / Nat.gcd f.1 f.2 : Nat) : Int), ((f.2 / Nat.gcd f.1 f.2 : Nat) : Int)]
theorem iwr_twoL (W : World) (x y : Int) (lo : Nat) (h : lo ≤ W.heap.size) : IWr (W.alloc (Obj.cells #[.int .i64 x, .int .i64 y] 2)) lo (W.alloc (Obj.cells #[.int .i64 x, .int .i64 y] 2)).heap.size (some ⟨W.heap.size, 0, none⟩) [x, y] := fun _ =>
  ⟨_, 0, _, _, rfl, h, by simp, Blk.new W _ _, fun k hk => by
    simp only [List.length_cons, List.length_nil] at hk
    obtain rfl | rfl : k = 0 ∨ k = 1 := by omega
    all_goals simp⟩
theorem tdivN3 (k m : Nat) (hk : k ≤ 1000000) : Int.tdiv (k : Int) (m : Int) = ((k / m : Nat) : Int) ∧ IntKind.i64.wrap ((k / m : Nat) : Int) = ((k / m : Nat) : Int) := by
  have h := Nat.div_le_self k m
  refine ⟨by rw [Int.tdiv_eq_ediv_of_nonneg (by omega)]; push_cast; rfl, ?_⟩
  generalize k / m = q at h ⊢
  exact IntWalk.i64_in _ (by omega)
set_option maxRecDepth 100000 in
set_option maxHeartbeats 2000000 in
theorem inLowest_any (a b : Nat) (w : World) (hb : 0 < b) (ha : a ≤ 300) (hb3 : b ≤ 300) :
    Calls Try.prog 36 #[.agg #[.int .i64 (a : Int), .int .i64 (b : Int)]] w fun e w' => ∃ R, e = .returned (.slice R 2 2) ∧ Below w.heap.size w w' ∧ IWr w' w.heap.size w'.heap.size R (lowT (a, b)) := by
  have HG := Lib.hid (fun W => commonDivisor_any a b W (by omega) (by omega))
  have hg0 : 0 < Nat.gcd a b := Nat.gcd_pos_of_pos_right a hb
  have HT := Lib.hid (show lowT (a, b) = [((a / Nat.gcd a b : Nat) : Int), ((b / Nat.gcd a b : Nat) : Int)] from rfl)
  generalize Nat.gcd a b = g at *
  obtain ⟨W0, hW0⟩ : ∃ W0, w.alloc (Obj.cells #[.int .i64 (a : Int), .int .i64 (b : Int)] 59) = W0 := ⟨_, rfl⟩
  have hE : Ext w W0 := by rw [← hW0]; exact (Ext.refl w).alloc _
  have hP0 : Blk W0 w.heap.size 59 #[.int .i64 (a : Int), .int .i64 (b : Int)] := by rw [← hW0]; exact Blk.new w _ _
  have HE := Lib.hid hE
  have HP := Lib.hid hP0
  have i0 := hP0.rd 0 rfl
  have i1 := hP0.rd 1 rfl
  clear hE hP0
  go_enter Try.func36, Try.ntmps36
  go_wp2_with fail
  clear hW0 i0 i1
  refine (HG.out _).mono ?_
  rintro e w1 ⟨rfl, hx⟩
  have HX1 := Lib.hid (HE.out.trans hx)
  have hP1 := HP.out.ext hx
  have p0 := hP1.rd 0 rfl
  have p1 := hP1.rd 1 rfl
  have HS := Lib.hid (HX1.out.below (Nat.le_refl w.heap.size)).size
  clear hx hP1
  obtain ⟨g1, g1'⟩ := tdivN3 a g (by omega)
  obtain ⟨g2, g2'⟩ := tdivN3 b g (by omega)
  generalize a / g = x at *
  generalize b / g = y at *
  obtain ⟨y1, y1'⟩ : ¬ (g : Int) = 0 ∧ ((g : Int) == 0) = false := ⟨by omega, by rw [beq_eq_false_iff_ne]; omega⟩
  go_wp2_with fail
  have n1 : ¬ g = 0 := by omega
  go_region_held3 (fun w' => w'.cell? ⟨w.heap.size, 0, none⟩ = some (.int .i64 (a : Int)) ∧ w'.cell? ⟨w.heap.size, 1, none⟩ = some (.int .i64 (b : Int)))
    (first | exact ⟨p0, p1⟩ | go_keep) (fail)
  all_goals
    clear p0 p1 g1 g1' g2 g2' y1 y1' n1
    go_wp2_with fail
    go_ret
    exact ⟨_, rfl, ((HX1.out.alloc _).drew).below (Nat.le_refl _), by rw [HT.out]; exact (iwr_twoL w1 (x : Int) (y : Int) _ HS.out).ext ((Ext.refl _).drew)⟩
/-- Whether digits are told by IntervalOf at all, and whether a number has them. -/
def itOk (xs : List Int) : Bool := decide (1 ≤ xs.length ∧ xs.length ≤ 20) && withinB 0 5 xs
def itHas (xs : List Int) : Bool := decide ((lowE xs).1 * (highE xs).2 < (highE xs).1 * (lowE xs).2)
theorem itOk_5 {xs : List Int} (h : itOk xs = true) : (1 ≤ xs.length ∧ xs.length ≤ 20) ∧ ∀ k, k < xs.length → 0 ≤ xs.getD k 0 ∧ xs.getD k 0 ≤ 5 := by
  simp only [itOk, Bool.and_eq_true, decide_eq_true_eq] at h
  exact ⟨h.1, fun k hk => withinB_get h.2 hk⟩
theorem lowE_small {xs : List Int} (h : itOk xs = true) : smallF (lowE xs) := by
  obtain ⟨h1, h5⟩ := itOk_5 h
  exact maxF_small (lows_small h1.2 h5) _ (by omega)
theorem highE_small {xs : List Int} (h : itOk xs = true) : smallF (highE xs) := by
  obtain ⟨h1, h5⟩ := itOk_5 h
  exact minF_small (highs_small h1.2 h5) _ (by omega)
theorem maxF_pos {xs : List Int} {n : Nat} : ∀ k, k < n → 0 < (maxF (lowsF xs n) k).2
  | 0, hk => by simp only [maxF]; rw [lowsF_at xs hk]; simp
  | k + 1, hk => by
    simp only [maxF]
    split
    · rw [lowsF_at xs hk]; simp
    · exact maxF_pos k (by omega)
theorem minF_pos {xs : List Int} {n : Nat} : ∀ k, k < n → 0 < (minF (highsF xs n) k).2
  | 0, hk => by simp only [minF]; rw [highsF_at xs hk]; simp
  | k + 1, hk => by
    simp only [minF]
    split
    · rw [highsF_at xs hk]; simp
    · exact minF_pos k (by omega)
set_option maxRecDepth 100000 in
set_option maxHeartbeats 2000000 in
theorem implInterval_0 (A : Option Addr) (n c : Nat) (xs : List Int) (w : World) (hl : xs.length = n) (hA : IR w w.heap.size A xs) (h : itOk xs = true) (hh : itHas xs = true) :
    Calls Try.prog 10 #[.slice A n c] w (LLOwn w (lowT (lowE xs)) (lowT (highE xs)) 0) := by
  obtain ⟨h1, h5⟩ := itOk_5 h
  rw [hl] at h1
  have hrl := isRowLength_any (n : Int) w
  rw [decide_eq_true (by omega)] at hrl
  have hwi := areWithin_raw 0 5 A n c xs w (by omega) hl (fun h0 => by
    obtain ⟨b, o, e, -, hc⟩ := hA (by omega)
    exact ⟨b, o, e, fun k hk => hc k (by omega)⟩)
  rw [show withinB 0 5 xs = true by simp only [itOk, Bool.and_eq_true] at h; exact h.2] at hwi
  have HIV := Lib.hid (intervalOf_any A n c xs w (by omega) (by omega) hl hA h5)
  have hsl := lowE_small h
  have hsh := highE_small h
  have hpl : 0 < (lowE xs).2 := maxF_pos _ (by omega)
  have hph : 0 < (highE xs).2 := minF_pos _ (by omega)
  simp only [itHas, decide_eq_true_eq] at hh
  have hc1 := smul hsl hsh
  have hc2 := smul hsh hsl
  have hcm := cmpI_lt (x := (((lowE xs).1 * (highE xs).2 : Nat) : Int)) (y := (((highE xs).1 * (lowE xs).2 : Nat) : Int)) (by exact_mod_cast hh)
  have hcmp := fun W => compareFrac_any (lowE xs) (highE xs) W hc1 hc2
  rw [hcm] at hcmp
  have hi1 := fun W => inLowest_any (lowE xs).1 (lowE xs).2 W hpl hsl.1 hsl.2
  have hi2 := fun W => inLowest_any (highE xs).1 (highE xs).2 W hph hsh.1 hsh.2
  have HLT1 := Lib.hid (show (lowT (lowE xs)).length = 2 from rfl)
  have HLT2 := Lib.hid (show (lowT (highE xs)).length = 2 from rfl)
  obtain ⟨⟨lx, ly⟩, hlo⟩ : ∃ f, f = lowE xs := ⟨_, rfl⟩
  obtain ⟨⟨hx, hy⟩, hhi⟩ : ∃ f, f = highE xs := ⟨_, rfl⟩
  rw [← hlo] at HIV hcmp hi1 HLT1 ⊢
  rw [← hhi] at HIV hcmp hi2 HLT2 ⊢
  simp only [fv] at HIV hcmp hi1 hi2
  have HCM := Lib.hid hcmp
  have HI1 := Lib.hid hi1
  have HI2 := Lib.hid hi2
  have HRL := Lib.hid hrl
  have HWI := Lib.hid hwi
  generalize lowT (lx, ly) = LO at *
  generalize lowT (hx, hy) = HI at *
  clear hrl hwi hcmp hi1 hi2 hlo hhi hsl hsh hpl hph hh hc1 hc2 hcm h h5 hA
  go_enter Try.func10, Try.ntmps10
  go_wp2_with fail
  refine HRL.out.mono ?_
  rintro e w' ⟨rfl, rfl⟩
  go_wp2_with fail
  refine HWI.out.mono ?_
  rintro e w' ⟨rfl, rfl⟩
  go_wp2_with fail
  refine HIV.out.mono ?_
  rintro e w1 ⟨rfl, hb⟩
  obtain ⟨W1, hW1⟩ : ∃ W1, (w1.alloc (Obj.cells #[.int .i64 (lx : Int), .int .i64 (ly : Int)] 59)).alloc (Obj.cells #[.int .i64 (hx : Int), .int .i64 (hy : Int)] 59) = W1 := ⟨_, rfl⟩
  have hE : Ext w1 W1 := by rw [← hW1]; exact ((Ext.refl w1).alloc _).alloc _
  have hP0 : Blk W1 w1.heap.size 59 #[.int .i64 (lx : Int), .int .i64 (ly : Int)] := by rw [← hW1]; exact (Blk.new w1 _ _).ext ((Ext.refl _).alloc _)
  have hQ0 : Blk W1 (w1.heap.size + 1) 59 #[.int .i64 (hx : Int), .int .i64 (hy : Int)] := by rw [← hW1]; have := Blk.new (w1.alloc (Obj.cells #[.int .i64 (lx : Int), .int .i64 (ly : Int)] 59)) 59 #[.int .i64 (hx : Int), .int .i64 (hy : Int)]; simpa using this
  have HB1 := Lib.hid (hb.trans (hE.below hb.size))
  have HP := Lib.hid hP0
  have HQ := Lib.hid hQ0
  have i0 := hP0.rd 0 rfl
  have i1 := hP0.rd 1 rfl
  have i2 := hQ0.rd 0 rfl
  have i3 := hQ0.rd 1 rfl
  clear hb hE hP0 hQ0
  go_wp2_with fail
  clear hW1 i0 i1 i2 i3
  refine (HCM.out _).mono ?_
  rintro e w2 ⟨rfl, hx2⟩
  have K2 := Lib.hid (HB1.out.trans (hx2.below HB1.out.size))
  have P2 := Lib.hid (HP.out.ext hx2)
  have Q2 := Lib.hid (HQ.out.ext hx2)
  have r0 := P2.out.rd 0 rfl
  have r1 := P2.out.rd 1 rfl
  have r2 := Q2.out.rd 0 rfl
  have r3 := Q2.out.rd 1 rfl
  clear hx2
  go_wp2_with fail
  go_region_held3 (fun w' => w'.cell? ⟨w1.heap.size, 0, none⟩ = some (.int .i64 (lx : Int)) ∧ w'.cell? ⟨w1.heap.size, 1, none⟩ = some (.int .i64 (ly : Int)) ∧ w'.cell? ⟨w1.heap.size + 1, 0, none⟩ = some (.int .i64 (hx : Int)) ∧ w'.cell? ⟨w1.heap.size + 1, 1, none⟩ = some (.int .i64 (hy : Int)))
    (first | exact ⟨k0, k1, k2, k3⟩ | exact ⟨l0, l1, l2, l3⟩ | go_keep)
    (first
      | (go_at_call 36; (with_reducible refine (HI1.out _).mono ?_); rintro e w3 ⟨R0, rfl, hb, hw⟩; have K3 := Lib.hid (K2.out.drew.trans (hb.mono K2.out.size)); have P3 := Lib.hid (Blk.below (w := w2.drew) P2.out hb P2.out.lt); have Q3 := Lib.hid (Blk.below (w := w2.drew) Q2.out hb Q2.out.lt); have W3 := Lib.hid hw; have k0 := P3.out.rd 0 rfl; have k1 := P3.out.rd 1 rfl; have k2 := Q3.out.rd 0 rfl; have k3 := Q3.out.rd 1 rfl; clear hb hw)
      | (go_at_call 36; (with_reducible refine (HI2.out _).mono ?_); rintro e w4 ⟨R1, rfl, hb, hw⟩; have K4 := Lib.hid (K3.out.trans (hb.mono K3.out.size)); have P4 := Lib.hid (P3.out.below hb P3.out.lt); have Q4 := Lib.hid (Q3.out.below hb Q3.out.lt); have X4 := Lib.hid (W3.out.below hb); have W4 := Lib.hid hw; have S4 := Lib.hid hb.size; have l0 := P4.out.rd 0 rfl; have l1 := P4.out.rd 1 rfl; have l2 := Q4.out.rd 0 rfl; have l3 := Q4.out.rd 1 rfl; clear hb hw k0 k1 k2 k3))
  clear l0 l1 l2 l3 r0 r1 r2 r3
  go_wp2_with fail
  go_ret3
  have h1 := K2.out.size
  have h2 := K3.out.size
  exact LLOwn.mk R0 2 R1 2 w3.heap.size h2 S4.out (by rw [HLT1.out, HLT2.out]; rfl) K4.out (X4.out.low h1) W4.out
end Go.Proofs.Ytplbjnnicmcpdaa
