/- The least shift, and the shifts that keep: the model's side. -/
import Derived.Test.YtjoaoimebdkpaaaTo5
import Derived.Test.YtjoaoimebdkpaaaStC
namespace Go.Proofs.Ytjoaoimebdkpaaa
set_option linter.unusedVariables false
set_option linter.unusedSimpArgs false
open Go.RowKit Go.Sort

/-- m rows of wd numbers. -/
def Shape (m wd : Nat) (rs : List (List Int)) : Prop := rs.length = m ∧ ∀ k, k < m → (rs.getD k []).length = wd
theorem Shape.shR {m wd a : Nat} {rs : List (List Int)} (h : Shape m wd rs) (b : Nat) (ha : a < m) : Shape m wd (shR a b rs) := by
  obtain ⟨h1, h2⟩ := h
  refine ⟨by rw [shR_len, h1], fun k hk => ?_⟩
  rw [shR_row b (by omega) (by omega), rot_len, h2 _ (by rw [h1]; exact Nat.mod_lt _ (by omega))]
theorem Shape.shK {m wd k : Nat} {rs : List (List Int)} (h : Shape m wd rs) (hm : 0 < m) (hk : k < m * wd) : Shape m wd (shK k rs) := by
  unfold Proofs.Ytjoaoimebdkpaaa.shK
  rw [h.2 0 hm]
  exact h.shR _ (Nat.div_lt_of_lt_mul (by rw [Nat.mul_comm]; exact hk))
theorem IWW.loose_ {w : World} {lo lo' hi hi' : Nat} {A : Option Addr} {rs : List (List Int)} (h : IWW w lo hi A rs) (hl : lo' ≤ lo) (hh : hi ≤ hi') : IWW w lo' hi' A rs := fun h0 => by
  obtain ⟨b, off, t, cs, Q, q, e, h1, h2, h3, h4, h5⟩ := h h0
  refine ⟨b, off, t, cs, Q, q, e, by omega, by omega, h3, fun k hk => ?_, h5⟩
  obtain ⟨g1, g2, g3, g4⟩ := h4 k hk
  exact ⟨g1, g2, (g3.low hl).up hh, g4⟩
theorem Shape.least {m wd : Nat} {rs : List (List Int)} (h : Shape m wd rs) (hm : 0 < m) : ∀ k, k ≤ m * wd → Shape m wd (leastUp rs k)
  | 0, _ => h
  | k + 1, hk => by
    unfold leastUp
    split
    · exact h.shK hm (by omega)
    · exact h.least hm k (by omega)
theorem leastUp_yes {rs : List (List Int)} {k : Nat} (h : lessLL (shK k rs) (leastUp rs k) = true) : leastUp rs (k + 1) = shK k rs := by
  show (if _ then _ else _) = _
  rw [if_pos h]
theorem leastUp_no {rs : List (List Int)} {k : Nat} (h : lessLL (shK k rs) (leastUp rs k) = false) : leastUp rs (k + 1) = leastUp rs k := by
  show (if _ then _ else _) = _
  rw [if_neg (by rw [h]; decide)]
theorem keptUp_yes {rs : List (List Int)} {a b : Nat} (hb : b < (rs.getD 0 []).length) (h : shR a b rs = rs) : keptUp rs (a * (rs.getD 0 []).length + b + 1) = keptUp rs (a * (rs.getD 0 []).length + b) ++ [[(a : Int), (b : Int)]] := by
  show (if _ then _ else _) = _
  rw [if_pos (by rw [shK_at hb]; exact h)]
  have h1 : (a * (rs.getD 0 []).length + b) / (rs.getD 0 []).length = a := by
    rw [Nat.mul_comm, Nat.mul_add_div (by omega), Nat.div_eq_of_lt hb]; rfl
  have h2 : (a * (rs.getD 0 []).length + b) % (rs.getD 0 []).length = b := by
    rw [Nat.mul_comm, Nat.mul_add_mod, Nat.mod_eq_of_lt hb]
  rw [h1, h2]
theorem keptUp_no {rs : List (List Int)} {a b : Nat} (hb : b < (rs.getD 0 []).length) (h : shR a b rs ≠ rs) : keptUp rs (a * (rs.getD 0 []).length + b + 1) = keptUp rs (a * (rs.getD 0 []).length + b) := by
  show (if _ then _ else _) = _
  rw [if_neg (by rw [shK_at hb]; exact h)]

set_option maxRecDepth 100000 in
set_option maxHeartbeats 4000000 in
theorem l05Least_any (B : Option Addr) (m d : Nat) (rs : List (List Int)) (wd : Nat) (w : World) (hm : 1 ≤ m ∧ m ≤ 8) (hw : 1 ≤ wd ∧ wd ≤ 8) (hsh : Shape m wd rs) (hB : IRR w w.heap.size B rs) :
    Calls Try.prog 70 #[.slice B m d] w fun e w' => ∃ A cap, e = .returned (.slice A m cap) ∧ IWW w' w.heap.size w'.heap.size A (leastUp rs (m * wd)) ∧ Below w.heap.size w w' := by
  have hsf : ∀ W, Below w.heap.size w W → ∀ a b, a < m → b < wd → Calls Try.prog 67 #[.slice B m d, .int .i64 (a : Int), .int .i64 (b : Int)] W _ := fun W hW a b ha hb => l05Shift_any B m d rs wd a b W hm hw hsh.1 hsh.2 ((hB.below hW (Nat.le_refl _)).more hW.size) ha hb
  have hs0 := hsf w (Below.refl _ _) 0 0 (by omega) (by omega)
  rw [show ((0 : Nat) : Int) = 0 from rfl, shR_zero] at hs0
  have HS := Lib.hid hsf
  have HS0 := Lib.hid hs0
  have hwd0 : (rs.getD 0 []).length = wd := hsh.2 0 (by omega)
  obtain ⟨hm1, hm8⟩ := hm
  obtain ⟨hw1, hw8⟩ := hw
  obtain ⟨B0, o, rfl, hb0, hcr⟩ := hB (by rw [hsh.1]; omega)
  obtain ⟨Q0, q0, hcQ0, -, -⟩ := hcr 0 (by rw [hsh.1]; omega)
  rw [hwd0, Nat.add_zero] at hcQ0
  have hmi : (0 : Int) < (m : Int) := by omega
  have hmn : 0 < m := by omega
  have HSH := Lib.hid hsh
  have HW0 := Lib.hid hwd0
  clear hsf hs0 hB hcr hsh hwd0
  go_enter Try.func70, Try.ntmps70
  go_wp2_with fail
  refine HS0.out.mono ?_
  rintro e w1 ⟨v1, rfl, hown1, hb1⟩
  obtain ⟨A1, cap1, rfl, -, hiw1⟩ := hown1.done
  rw [HSH.out.1] at *
  have HI1 := Lib.hid hiw1
  have HB1 := Lib.hid hb1
  clear hown1 hiw1 hb1 HS0
  go_wp2_with fail
  go_loopw [3, 4] (fun v i wr => ∃ (a : Nat) (A : Option Addr) (cap : Nat), a ≤ m ∧ i = .int .i64 a ∧ v = .slice A m cap ∧ IWW wr w.heap.size wr.heap.size A (leastUp rs (a * wd)) ∧ Below w.heap.size w wr) (fun _ i _ => m - (intOf i).toNat)
  case atStart => exact ⟨0, A1, cap1, Nat.zero_le _, rfl, rfl, by rw [Nat.zero_mul]; exact HI1.out, HB1.out⟩
  case round =>
    clear HI1 HB1
    obtain ⟨a, A2, cap2, ha, rfl, rfl, hiw, hbw⟩ := hrel
    have HI := Lib.hid hiw
    have HB := Lib.hid hbw
    clear hiw hbw
    by_cases hlt : a < m
    · go_wp2_with fail
      go_loopw [3, 5] (fun v i wr => ∃ (b : Nat) (A : Option Addr) (cap : Nat), b ≤ wd ∧ i = .int .i64 b ∧ v = .slice A m cap ∧ IWW wr w.heap.size wr.heap.size A (leastUp rs (a * wd + b)) ∧ Below w.heap.size w wr) (fun _ i _ => wd - (intOf i).toNat)
      case atStart => exact ⟨0, A2, cap2, Nat.zero_le _, rfl, rfl, HI.out, HB.out⟩
      case round =>
        clear HI HB
        obtain ⟨b, A3, cap3, hb, rfl, rfl, hiw, hbw⟩ := hrel
        have e0 := (hbw.cell (p := ⟨B0, o, none⟩) hb0).trans hcQ0
        have HI := Lib.hid hiw
        have HB := Lib.hid hbw
        have hszw := hbw.size
        clear hiw hbw
        by_cases hlb : b < wd
        · have hkm : a * wd + b < m * wd := by
            have := Nat.mul_le_mul_right wd (show a + 1 ≤ m from hlt)
            rw [Nat.succ_mul] at this
            omega
          have hst := HS.out wr HB.out a b hlt hlb
          have hskk : shK (a * wd + b) rs = shR a b rs := by
            have := shK_at (a := a) (b := b) (rs := rs) (by rw [HW0.out]; exact hlb)
            rwa [HW0.out] at this
          have hy := leastUp_yes (rs := rs) (k := a * wd + b)
          have hn := leastUp_no (rs := rs) (k := a * wd + b)
          rw [hskk] at hy hn
          have HSHA := Lib.hid (HSH.out.shR b hlt)
          have HSHL := Lib.hid (HSH.out.least hmn (a * wd + b) (by omega))
          have hless := fun W (hW : Below wr.heap.size wr W) A4 cap4 (h4 : IRR W W.heap.size A4 (shR a b rs)) => l05Less_any A4 A3 m wd cap4 cap3 (shR a b rs) (leastUp rs (a * wd + b)) W hm8 hw8 HSHA.out.1 HSHL.out.1 HSHA.out.2 HSHL.out.2 h4 (HI.out.below hW).irr
          generalize lessLL (shR a b rs) (leastUp rs (a * wd + b)) = r at hless hy hn
          have hsl : (shR a b rs).length = m := HSHA.out.1
          have HSL := Lib.hid hsl
          have HST := Lib.hid hst
          have HL := Lib.hid hless
          have HY := Lib.hid hy
          have HN := Lib.hid hn
          clear hst hless hy hn hskk hsl
          cases r with
          | true =>
            have HE := Lib.hid (HY.out rfl)
            clear HY HN
            go_wp2_with fail
            refine HST.out.mono ?_
            rintro e w2 ⟨v2, rfl, hown2, hb2⟩
            obtain ⟨A4, cap4, hv2, -, hiw2⟩ := hown2.done
            rw [HSL.out] at hv2
            subst hv2
            have HI2 := Lib.hid hiw2
            have HB2 := Lib.hid hb2
            have hs2 := hb2.size
            clear hown2 hiw2 hb2 e0
            go_wp2_with fail
            refine (HL.out w2 HB2.out A4 cap4 HI2.out.irr).mono ?_
            rintro e w3 ⟨rfl, hx3⟩
            have HI3 := Lib.hid ((HI2.out.ext hx3).loose_ (lo' := w.heap.size) hszw (hx3.below (Nat.le_refl _)).size)
            have HB3 := Lib.hid (HB.out.trans ((HB2.out.mono hszw).trans (hx3.below (Nat.le_trans hszw hs2))))
            clear hx3
            go_wp2_with fail
            go_roundw
            case rel => first | exact ⟨b + 1, A4, cap4, by omega, by go_num, rfl, by rw [← Nat.add_assoc, HE.out]; exact HI3.out, HB3.out⟩ | ((repeat apply Exists.intro); exact ⟨⟨b + 1, A4, cap4, by omega, by go_num, rfl, by rw [← Nat.add_assoc, HE.out]; exact HI3.out, HB3.out⟩, rfl⟩)
            case measure => simp [intOf]; omega
          | false =>
            have HE := Lib.hid (HN.out rfl)
            clear HY HN
            go_wp2_with fail
            refine HST.out.mono ?_
            rintro e w2 ⟨v2, rfl, hown2, hb2⟩
            obtain ⟨A4, cap4, hv2, -, hiw2⟩ := hown2.done
            rw [HSL.out] at hv2
            subst hv2
            have HI2 := Lib.hid hiw2
            have HB2 := Lib.hid hb2
            have hs2 := hb2.size
            clear hown2 hiw2 hb2 e0
            go_wp2_with fail
            refine (HL.out w2 HB2.out A4 cap4 HI2.out.irr).mono ?_
            rintro e w3 ⟨rfl, hx3⟩
            have HI3 := Lib.hid ((((HI.out.below HB2.out).loose_ (Nat.le_refl _) hs2).ext hx3).loose_ (Nat.le_refl _) (hx3.below (Nat.le_refl _)).size)
            have HB3 := Lib.hid (HB.out.trans ((HB2.out.mono hszw).trans (hx3.below (Nat.le_trans hszw hs2))))
            clear hx3
            go_wp2_with fail
            go_roundw
            case rel => first | exact ⟨b + 1, A3, cap3, by omega, by go_num, rfl, by rw [← Nat.add_assoc, HE.out]; exact HI3.out, HB3.out⟩ | ((repeat apply Exists.intro); exact ⟨⟨b + 1, A3, cap3, by omega, by go_num, rfl, by rw [← Nat.add_assoc, HE.out]; exact HI3.out, HB3.out⟩, rfl⟩)
            case measure => simp [intOf]; omega
        · obtain rfl : b = wd := by omega
          go_wp2_with fail
          clear e0
          have HI3 := Lib.hid (show IWW wr w.heap.size wr.heap.size A3 (leastUp rs ((a + 1) * b)) by rw [Nat.succ_mul]; exact HI.out)
          go_roundw
          case rel => first | exact ⟨a + 1, A3, cap3, by omega, by go_num, rfl, HI3.out, HB.out⟩ | ((repeat apply Exists.intro); exact ⟨⟨a + 1, A3, cap3, by omega, by go_num, rfl, HI3.out, HB.out⟩, rfl⟩)
          case measure => simp [intOf]; omega
    · obtain rfl : a = m := by omega
      go_wp2_with fail
      go_ret
      exact ⟨A2, cap2, rfl, HI.out, HB.out⟩
set_option maxRecDepth 100000 in
set_option maxHeartbeats 4000000 in
theorem l05Kept_any (B : Option Addr) (m d : Nat) (rs : List (List Int)) (wd : Nat) (w : World) (hm : 1 ≤ m ∧ m ≤ 8) (hw : 1 ≤ wd ∧ wd ≤ 8) (hsh : Shape m wd rs) (hB : IRR w w.heap.size B rs) :
    Calls Try.prog 73 #[.slice B m d] w fun e w' => ∃ A cap, e = .returned (.slice A (keptUp rs (m * wd)).length cap) ∧ IWW w' w.heap.size w'.heap.size A (keptUp rs (m * wd)) ∧ Below w.heap.size w w' := by
  have hsf : ∀ W, Below w.heap.size w W → ∀ a b, a < m → b < wd → Calls Try.prog 67 #[.slice B m d, .int .i64 (a : Int), .int .i64 (b : Int)] W _ := fun W hW a b ha hb => l05Shift_any B m d rs wd a b W hm hw hsh.1 hsh.2 ((hB.below hW (Nat.le_refl _)).more hW.size) ha hb
  have hle : ∀ W, Below w.heap.size w W → ∀ a b A4 cap4, a < m → IRR W W.heap.size A4 (shR a b rs) → Calls Try.prog 122 #[.slice A4 m cap4, .slice B m d] W _ := fun W hW a b A4 cap4 ha h4 => l05Less_any A4 B m wd cap4 d (shR a b rs) rs W hm.2 hw.2 (hsh.shR b ha).1 hsh.1 (hsh.shR b ha).2 hsh.2 h4 ((hB.below hW (Nat.le_refl _)).more hW.size)
  have hge : ∀ W, Below w.heap.size w W → ∀ a b A4 cap4, a < m → IRR W W.heap.size A4 (shR a b rs) → Calls Try.prog 122 #[.slice B m d, .slice A4 m cap4] W _ := fun W hW a b A4 cap4 ha h4 => l05Less_any B A4 m wd d cap4 rs (shR a b rs) W hm.2 hw.2 hsh.1 (hsh.shR b ha).1 hsh.2 (hsh.shR b ha).2 ((hB.below hW (Nat.le_refl _)).more hW.size) h4
  have HS := Lib.hid hsf
  have HLE := Lib.hid hle
  have HGE := Lib.hid hge
  have hwd0 : (rs.getD 0 []).length = wd := hsh.2 0 (by omega)
  obtain ⟨hm1, hm8⟩ := hm
  obtain ⟨hw1, hw8⟩ := hw
  obtain ⟨B0, o, rfl, hb0, hcr⟩ := hB (by rw [hsh.1]; omega)
  obtain ⟨Q0, q0, hcQ0, -, -⟩ := hcr 0 (by rw [hsh.1]; omega)
  rw [hwd0, Nat.add_zero] at hcQ0
  have hmi : (0 : Int) < (m : Int) := by omega
  have hmn : 0 < m := by omega
  have hmw : m * wd ≤ 8 * 8 := Nat.mul_le_mul hm8 hw8
  have HSH := Lib.hid hsh
  have HW0 := Lib.hid hwd0
  clear hsf hle hge hB hcr hsh hwd0
  go_enter Try.func73, Try.ntmps73
  go_wp2_with fail
  go_loopw [3, 4] (fun v i wr => ∃ (a : Nat), a ≤ m ∧ i = .int .i64 a ∧ OwnRR wr w.heap.size v (keptUp rs (a * wd)) ∧ Below w.heap.size w wr) (fun _ i _ => m - (intOf i).toNat)
  case atStart => exact ⟨0, Nat.zero_le _, rfl, by rw [Nat.zero_mul]; exact OwnRR.made w w.heap.size (Nat.le_refl _), ((Ext.refl w).alloc _).below (Nat.le_refl _)⟩
  case round =>
    obtain ⟨a, ha, rfl, hown, hbw⟩ := hrel
    have HO := Lib.hid hown
    have HB := Lib.hid hbw
    clear hown hbw
    by_cases hlt : a < m
    · go_wp2_with fail
      go_loopw [3, 5] (fun v i wr => ∃ (b : Nat), b ≤ wd ∧ i = .int .i64 b ∧ OwnRR wr w.heap.size v (keptUp rs (a * wd + b)) ∧ Below w.heap.size w wr) (fun _ i _ => wd - (intOf i).toNat)
      case atStart => exact ⟨0, Nat.zero_le _, rfl, HO.out, HB.out⟩
      case round =>
        clear HO HB
        obtain ⟨b, hb, rfl, hown, hbw⟩ := hrel
        have e0 := (hbw.cell (p := ⟨B0, o, none⟩) hb0).trans hcQ0
        have HO := Lib.hid hown
        have HB := Lib.hid hbw
        have hszw := hbw.size
        clear hown hbw
        by_cases hlb : b < wd
        · have hkm : a * wd + b < m * wd := by
            have := Nat.mul_le_mul_right wd (show a + 1 ≤ m from hlt)
            rw [Nat.succ_mul] at this
            omega
          have hst := HS.out wr HB.out a b hlt hlb
          have hy := keptUp_yes (rs := rs) (a := a) (b := b) (by rw [HW0.out]; exact hlb)
          have hn := keptUp_no (rs := rs) (a := a) (b := b) (by rw [HW0.out]; exact hlb)
          rw [HW0.out] at hy hn
          have hless := fun W (hW : Below wr.heap.size wr W) A4 cap4 (h4 : IRR W W.heap.size A4 (shR a b rs)) => HLE.out W (HB.out.trans (hW.mono hszw)) a b A4 cap4 hlt h4
          have hgt := fun W (hW : Below wr.heap.size wr W) A4 cap4 (h4 : IRR W W.heap.size A4 (shR a b rs)) => HGE.out W (HB.out.trans (hW.mono hszw)) a b A4 cap4 hlt h4
          have hbo := less_both (shR a b rs) rs
          have hkl := keptUp_le rs (a * wd + b)
          have hsl : (shR a b rs).length = m := (HSH.out.shR b hlt).1
          generalize lessLL (shR a b rs) rs = r1 at hless hbo
          generalize lessLL rs (shR a b rs) = r2 at hgt hbo
          have HSL := Lib.hid hsl
          have HST := Lib.hid hst
          have HL := Lib.hid hless
          have HG := Lib.hid hgt
          have HY := Lib.hid hy
          have HN := Lib.hid hn
          have HBO := Lib.hid hbo
          clear hst hless hgt hy hn hsl hbo
          cases r1 with
          | true =>
            have HE := Lib.hid (HN.out (of_decide_eq_false (by simpa using HBO.out.symm)))
            clear HY HN HBO HG
            go_wp2_with fail
            refine HST.out.mono ?_
            rintro e w2 ⟨v2, rfl, hown2, hb2⟩
            obtain ⟨A4, cap4, hv2, -, hiw2⟩ := hown2.done
            rw [HSL.out] at hv2
            subst hv2
            have HI2 := Lib.hid hiw2
            have HB2 := Lib.hid hb2
            have hs2 := hb2.size
            clear hown2 hiw2 hb2 e0
            go_wp2_with fail
            refine (HL.out w2 HB2.out A4 cap4 HI2.out.irr).mono ?_
            rintro e w3 ⟨rfl, hx3⟩
            have hb3 := HB2.out.trans (hx3.below hs2)
            have HB3 := Lib.hid (HB.out.trans (hb3.mono hszw))
            have HO3 := Lib.hid (HO.out.below hb3)
            clear hx3 hb3
            go_wp2_with fail
            go_roundw
            case rel => first | exact ⟨b + 1, by omega, by go_num, by rw [← Nat.add_assoc, HE.out]; exact HO3.out, HB3.out⟩ | ((repeat apply Exists.intro); exact ⟨⟨b + 1, by omega, by go_num, by rw [← Nat.add_assoc, HE.out]; exact HO3.out, HB3.out⟩, rfl⟩)
            case measure => simp [intOf]; omega
          | false =>
            cases r2 with
            | true =>
              have HE := Lib.hid (HN.out (of_decide_eq_false (by simpa using HBO.out.symm)))
              clear HY HN HBO
              go_wp2_with fail
              refine HST.out.mono ?_
              rintro e w2 ⟨v2, rfl, hown2, hb2⟩
              obtain ⟨A4, cap4, hv2, -, hiw2⟩ := hown2.done
              rw [HSL.out] at hv2
              subst hv2
              have HI2 := Lib.hid hiw2
              have HB2 := Lib.hid hb2
              have hs2 := hb2.size
              clear hown2 hiw2 hb2 e0
              go_wp2_with fail
              refine (HL.out w2 HB2.out A4 cap4 HI2.out.irr).mono ?_
              rintro e w3 ⟨rfl, hx3⟩
              have hb3 := HB2.out.trans (hx3.below hs2)
              have HB3 := Lib.hid hb3
              have HI3 := Lib.hid (HI2.out.ext hx3).irr
              have hs3 := hb3.size
              clear hx3 hb3
              go_wp2_with fail
              refine (HG.out w3 HB3.out A4 cap4 HI3.out).mono ?_
              rintro e w4 ⟨rfl, hx4⟩
              have hb4 := HB3.out.trans (hx4.below hs3)
              have HB4 := Lib.hid (HB.out.trans (hb4.mono hszw))
              have HO4 := Lib.hid (HO.out.below hb4)
              clear hx4 hb4
              go_wp2_with fail
              go_roundw
              case rel => first | exact ⟨b + 1, by omega, by go_num, by rw [← Nat.add_assoc, HE.out]; exact HO4.out, HB4.out⟩ | ((repeat apply Exists.intro); exact ⟨⟨b + 1, by omega, by go_num, by rw [← Nat.add_assoc, HE.out]; exact HO4.out, HB4.out⟩, rfl⟩)
              case measure => simp [intOf]; omega
            | false =>
              have HE := Lib.hid (HY.out (of_decide_eq_true (by simpa using HBO.out.symm)))
              clear HY HN HBO
              go_wp2_with fail
              refine HST.out.mono ?_
              rintro e w2 ⟨v2, rfl, hown2, hb2⟩
              obtain ⟨A4, cap4, hv2, -, hiw2⟩ := hown2.done
              rw [HSL.out] at hv2
              subst hv2
              have HI2 := Lib.hid hiw2
              have HB2 := Lib.hid hb2
              have hs2 := hb2.size
              clear hown2 hiw2 hb2 e0
              go_wp2_with fail
              refine (HL.out w2 HB2.out A4 cap4 HI2.out.irr).mono ?_
              rintro e w3 ⟨rfl, hx3⟩
              have hb3 := HB2.out.trans (hx3.below hs2)
              have HB3 := Lib.hid hb3
              have HI3 := Lib.hid (HI2.out.ext hx3).irr
              have hs3 := hb3.size
              clear hx3 hb3
              go_wp2_with fail
              refine (HG.out w3 HB3.out A4 cap4 HI3.out).mono ?_
              rintro e w4 ⟨rfl, hx4⟩
              have hb4 := HB3.out.trans (hx4.below hs3)
              have HB4 := Lib.hid hb4
              have hs4 := hb4.size
              clear hx4 hb4
              go_wp2_with (at_builtin; refine wpList_pushR rfl _ _ rfl w.heap.size _ (keptUp rs (a * wd + b)) rfl wr HO.out ((HB4.out.alloc hs4 _).alloc (by simp; omega) _) (w4.heap.size + 1) (some ⟨w4.heap.size, 0, none⟩) 2 2 [(a : Int), (b : Int)] rfl (by have := heap_alloc_new (w4.alloc (Obj.cells #[.int .i64 (a : Int), .int .i64 (b : Int)] 2)) (Obj.cells #[.slice (some ⟨w4.heap.size, 0, none⟩) 2 2] 51); rw [World.size_alloc] at this; exact this) ?c1 rfl (Nat.le_refl _) (by omega) hszw ?_)
              case c1 => exact ((iwr_new (w := w4) (Blk.new w4 2 #[.int .i64 (a : Int), .int .i64 (b : Int)]) (by simp)).ext ((Ext.refl _).alloc _) |>.up (by simp)).low hs4
              intro v' w' h1 h2 h3 h4
              rw [← HE.out] at h1
              have N1 := Lib.hid h1
              have N2 := Lib.hid (HB.out.trans ((HB4.out.mono hszw).trans ((((((Ext.refl w4).alloc _).alloc _).below (by omega))).trans h4)))
              clear h1 h2 h3 h4
              go_wp2_with fail
              go_roundw
              case rel => first | exact ⟨b + 1, by omega, by go_num, N1.out, N2.out⟩ | ((repeat apply Exists.intro); exact ⟨⟨b + 1, by omega, by go_num, N1.out, N2.out⟩, rfl⟩)
              case measure => simp [intOf]; omega
        · obtain rfl : b = wd := by omega
          go_wp2_with fail
          clear e0
          have HO3 := Lib.hid (show OwnRR wr w.heap.size u3 (keptUp rs ((a + 1) * b)) by rw [Nat.succ_mul]; exact HO.out)
          go_roundw
          case rel => first | exact ⟨a + 1, by omega, by go_num, HO3.out, HB.out⟩ | ((repeat apply Exists.intro); exact ⟨⟨a + 1, by omega, by go_num, HO3.out, HB.out⟩, rfl⟩)
          case measure => simp [intOf]; omega
    · obtain rfl : a = m := by omega
      obtain ⟨A9, c9, rfl, -, hiw9⟩ := HO.out.done
      have HW9 := Lib.hid hiw9
      clear hiw9
      go_wp2_with fail
      go_ret
      exact ⟨A9, c9, rfl, HW9.out, HB.out⟩
end Go.Proofs.Ytjoaoimebdkpaaa
