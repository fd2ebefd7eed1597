/- slices.Grow and slices.Concat at rows of numbers. -/
import Derived.Test.YtnmgkchkbchfaaaAppI
import Derived.Test.YtnmgkchkbchfaaaRs
import Derived.Lib.AppendZeros
import Derived.Lib.Hide
namespace Go.Proofs.Ytnmgkchkbchfaaa
set_option linter.unusedVariables false
set_option linter.unusedSimpArgs false
open Go.RowKit Go.Sort

theorem vis_one64 (xs : List Int) : ∀ u ∈ vis xs, u.oneCell' = true := by
  intro u hu
  obtain ⟨x, _, rfl⟩ := List.mem_map.1 hu
  rfl
set_option maxHeartbeats 1000000 in
theorem grow64_any (m : Nat) (w : World) (hm : m ≤ 65536) :
    Calls Try.prog 148 #[.slice none 0 0, .int .i64 (m : Int)] w fun e w' => ∃ v', e = .returned v' ∧ w'.ownsRow w.heap.size 2 1 v' 0 [] ∧ Below w.heap.size w w' := by
  obtain ⟨i0, hi, hz0, hz1, hz2⟩ := info_parts info_int
  have h1 : ¬ ((m : Int) < 0) := by omega
  have h2 : IntKind.i64.wrap (m : Int) = m := IntWalk.i64_in _ (by omega)
  rcases Nat.eq_zero_or_pos m with h0 | h0
  · subst h0
    go_enter Try.func148, Try.ntmps148
    go_wp2_with fail
    go_ret
    exact ⟨_, rfl, World.ownsRow_nil _ _ _ _, Below.refl _ _⟩
  · have h3 : (0 : Int) < (m : Int) := by omega
    have hrun := Lib.hid (Lib.run_append_nil_zeros (P := Try.prog) w 44 3 44 2 i0 _ .i64 .i64 Try.underlying44 Try.underlying3 hi hz0 m h0 (by rw [hz1]; decide) (by omega) (by rw [hz2]; omega))
    clear hi hz0 hz1 hz2
    go_enter Try.func148, Try.ntmps148
    go_wp2_with (at_builtin; refine Lib.wpList_append_run _ rfl (.tmp 20) (.tmp 21) _ _ rfl _ _ rfl rfl _ _ hrun.out ?_)
    go_ret
    refine ⟨_, rfl, World.ownsRow_made (base := w.heap.size) (e := 2) (size := 1) w.drew _ (grownCap w m 0 2) (by simp) (grownCap_le_maxLen w m 0 2 (by unfold maxLen; omega)) ?_, ((Below.refl w.heap.size w).drew).alloc (by simp) _⟩
    have hg := grownCap_ge w m 0 2
    rw [Array.size_append, size_zeroCells, size_zeroCells]
    show m * 1 + (grownCap w m 0 2 - m) * 1 = grownCap w m 0 2 * 1
    omega

set_option maxRecDepth 100000 in
set_option maxHeartbeats 4000000 in
theorem concat64_any (g cap : Nat) (A1 A2 : Option Addr) (n1 c1 n2 c2 : Nat) (t1 t2 : List Value) (w : World) (hn : n1 + n2 ≤ 65536) (ho1 : ∀ u ∈ t1, u.oneCell' = true) (ho2 : ∀ u ∈ t2, u.oneCell' = true)
    (hB : Blk w g 44 #[.slice A1 n1 c1, .slice A2 n2 c2]) (hr1 : Reads w w.heap.size 1 A1 n1 t1) (hr2 : Reads w w.heap.size 1 A2 n2 t2) :
    Calls Try.prog 110 #[.slice (some ⟨g, 0, none⟩) 2 cap] w fun e w' => ∃ v', e = .returned v' ∧ Below w.heap.size w w' ∧ w'.ownsRow w.heap.size 2 1 v' (n1 + n2) (t1 ++ t2) := by
  obtain ⟨i0, hi, hz0, hz1, hz2⟩ := info_parts info_int
  have HI := Lib.hid (And.intro hi (And.intro hz0 (And.intro hz1 hz2)))
  clear hi hz0 hz1 hz2
  have HO := Lib.hid (And.intro ho1 ho2)
  clear ho1 ho2
  have HB := Lib.hid hB
  have H1 := Lib.hid hr1
  have H2 := Lib.hid hr2
  clear hr1 hr2 hB
  have k1 : IntKind.i64.wrap (n1 : Int) = n1 := IntWalk.i64_in _ (by omega)
  have k2 : IntKind.i64.wrap ((n1 : Int) + (n2 : Int)) = (n1 : Int) + (n2 : Int) := IntWalk.i64_in _ (by omega)
  have k3 : ¬ ((n1 : Int) < 0) := by omega
  have k4 : ¬ ((n1 : Int) + (n2 : Int) < 0) := by omega
  have hg := grow64_any (n1 + n2) w hn
  have e0 : ((n1 + n2 : Nat) : Int) = (n1 : Int) + (n2 : Int) := by omega
  rw [e0] at hg
  have HG := Lib.hid hg
  clear hg e0
  go_enter Try.func110, Try.ntmps110
  go_wp2_with fail
  go_loopw [3, 11] (fun v i wr => wr = w ∧ ((i = .int .i64 0 ∧ v = .int .i64 0) ∨ (i = .int .i64 1 ∧ v = .int .i64 (n1 : Int)) ∨ (i = .int .i64 2 ∧ v = .int .i64 ((n1 : Int) + (n2 : Int))))) (fun _ i _ => 2 - (intOf i).toNat)
  case atStart => exact ⟨rfl, .inl ⟨rfl, rfl⟩⟩
  case round =>
    obtain ⟨hw0, hcs⟩ := hrel
    subst wr
    obtain ⟨rfl, rfl⟩ | ⟨rfl, rfl⟩ | ⟨rfl, rfl⟩ := hcs
    · have b0 := HB.out.rd 0 rfl
      go_wp2_with fail
      go_roundw
      case rel => exact ⟨trivial, .inr (.inl ⟨rfl, by simp [k1]⟩)⟩
      case measure => simp [intOf]
    · have b1 := HB.out.rd 1 rfl
      go_wp2_with fail
      go_roundw
      case rel => exact ⟨trivial, .inr (.inr ⟨rfl, by simp [k2]⟩)⟩
      case measure => simp [intOf]
    · go_wp2_with fail
      refine HG.out.mono ?_
      rintro e w1 ⟨v1, rfl, ho, hb⟩
      have O1 := Lib.hid ho
      have B1 := Lib.hid hb
      clear ho hb
      go_wp2_with fail
      go_loopw [6, 27] (fun v i wr => Below w.heap.size w wr ∧ ((i = .int .i64 0 ∧ wr.ownsRow w.heap.size 2 1 v 0 []) ∨ (i = .int .i64 1 ∧ wr.ownsRow w.heap.size 2 1 v (0 + n1) ([] ++ t1)) ∨ (i = .int .i64 2 ∧ wr.ownsRow w.heap.size 2 1 v (0 + n1 + n2) ([] ++ t1 ++ t2)))) (fun _ i _ => 2 - (intOf i).toNat)
      case atStart => exact ⟨B1.out, .inl ⟨rfl, O1.out⟩⟩
      case round =>
        obtain ⟨hb2, hr2⟩ := hrel
        have B2 := Lib.hid hb2
        clear hb2
        obtain ⟨rfl, ho⟩ | ⟨rfl, ho⟩ | ⟨rfl, ho⟩ := hr2
        · have b0 := (HB.out.below B2.out HB.out.lt).rd 0 rfl
          have O2 := Lib.hid ho
          clear ho
          go_wp2_with (at_builtin; refine wpList_append_any _ rfl (.tmp 31) (.tmp 32) _ rfl w.heap.size 2 i0 _ 1 8 Try.underlying44 HI.out.1 HI.out.2.1 HI.out.2.2.1 HI.out.2.2.2 rfl (by decide) _ 0 [] rfl O2.out w.heap.size _ n1 _ t1 rfl (H1.out.below B2.out) HO.out.1 (by unfold maxLen; omega) (by omega) B2.out.size ?_; intro v3 w3 hown3 hgrow3 hat3)
          have B3 := Lib.hid (B2.out.grown hgrow3 B2.out.size (fun j hj => (O2.out.lt j hj).1))
          have O3 := Lib.hid hown3
          clear hown3 hgrow3 hat3
          go_wp2_with fail
          go_roundw
          case rel => exact ⟨B3.out, .inr (.inl ⟨rfl, O3.out⟩)⟩
          case measure => simp [intOf]
        · have b1 := (HB.out.below B2.out HB.out.lt).rd 1 rfl
          have O2 := Lib.hid ho
          clear ho
          go_wp2_with (at_builtin; refine wpList_append_any _ rfl (.tmp 31) (.tmp 32) _ rfl w.heap.size 2 i0 _ 1 8 Try.underlying44 HI.out.1 HI.out.2.1 HI.out.2.2.1 HI.out.2.2.2 rfl (by decide) _ (0 + n1) ([] ++ t1) rfl O2.out w.heap.size _ n2 _ t2 rfl (H2.out.below B2.out) HO.out.2 (by unfold maxLen; omega) (by omega) B2.out.size ?_; intro v3 w3 hown3 hgrow3 hat3)
          have B3 := Lib.hid (B2.out.grown hgrow3 B2.out.size (fun j hj => (O2.out.lt j hj).1))
          have O3 := Lib.hid hown3
          clear hown3 hgrow3 hat3
          go_wp2_with fail
          go_roundw
          case rel => exact ⟨B3.out, .inr (.inr ⟨rfl, O3.out⟩)⟩
          case measure => simp [intOf]
        · rw [Nat.zero_add, List.nil_append] at ho
          have O3 := Lib.hid ho
          clear ho
          go_wp2_with fail
          go_ret
          exact ⟨_, rfl, B2.out, O3.out⟩
end Go.Proofs.Ytnmgkchkbchfaaa
