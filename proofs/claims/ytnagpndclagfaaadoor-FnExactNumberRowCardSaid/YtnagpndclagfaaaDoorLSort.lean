/- The model's sort: walked. -/
import Derived.Test.YtnagpndclagfaaaDoorReads
import Derived.Test.YtnagpndclagfaaaDoorSort
import Derived.Test.YtnagpndclagfaaaDoorEq
namespace Go.Proofs.YtnagpndclagfaaaDoor
set_option linter.unusedVariables false
set_option linter.unusedSimpArgs false
open Go.RowKit Go.Sort

theorem own_form {w : World} {base n : Nat} {v : Value} {xs : List Value} {g : Nat} (h : w.ownsRow base 56 4 v n xs) (hg : v.ownBlock = some g) : ∃ cap, v = .slice (some ⟨g, 0, none⟩) n cap ∧ n ≤ cap ∧ base ≤ g ∧ g < w.heap.size := by
  have hlt := h.lt g hg
  rcases h.2 with ⟨rfl, h0⟩ | ⟨g', cap, cur, rfl, hb, hh, hn, _⟩
  · simp [Value.ownBlock] at hg
  · have : g' = g := by simpa [Value.ownBlock] using hg
    subst this
    exact ⟨cap, rfl, hn, hlt⟩
theorem enc_flat_one (x : Tl) (ts : List Tl) : ∀ u ∈ enc x ++ flat ts, u.oneCell' = true := by
  intro u hu
  rcases List.mem_append.1 hu with h | h
  · exact enc_one x u h
  · exact flat_one ts u h
theorem grown_again {w : World} {a : Addr} {v : Value} (h : ∀ q os, (grow (w.drewN q) os).cell? a = some v) (nq : Nat) (osq : Array Obj) : ∀ q os, (grow ((grow (w.drewN nq) osq).drewN q) os).cell? a = some v := fun q os => by
  rw [← h (nq + q) (osq ++ os)]
  show (grow (grow ((w.drewN nq).drewN q) osq) os).cell? _ = _
  rw [grow_grow, World.drewN_drewN]
theorem grown_now {w : World} {a : Addr} {v : Value} (h : ∀ q os, (grow (w.drewN q) os).cell? a = some v) : w.cell? a = some v := by
  have := h 0 #[]
  simpa [World.drewN] using this
set_option maxRecDepth 100000 in
set_option maxHeartbeats 2000000 in
theorem l01Sort_any (A : Option Addr) (n c : Nat) (ts : List Tl) (w : World) (hn : n ≤ 65536) (hl : ts.length = n) (hA : TR w w.heap.size A ts) :
    Calls Tryd.prog 51 #[.slice A n c] w fun e w' => ∃ v, e = .returned v ∧ w'.ownsRow w.heap.size 56 4 v (sortT ts).length (flat (sortT ts)) ∧ Below w.heap.size w w' := by
  obtain ⟨i0, hi, hz0, hz1, hz2⟩ := info_parts info_tile
  have HI := Lib.hid (And.intro hi (And.intro hz0 (And.intro hz1 hz2)))
  clear hi hz0 hz1 hz2
  go_enter Tryd.func51, Tryd.ntmps51
  go_wp2_with fail
  go_loopw [3, 4] (fun v i wr => ∃ k : Nat, k ≤ n ∧ i = .int .i64 k ∧ wr.ownsRow w.heap.size 56 4 v (sortT (ts.take k)).length (flat (sortT (ts.take k))) ∧ Below w.heap.size w wr ∧ ∃ g, v.ownBlock = some g) (fun _ i _ => n - (intOf i).toNat)
  case atStart => exact ⟨0, Nat.zero_le _, rfl, by have := World.ownsRow_made (base := w.heap.size) (e := 56) (size := 4) w #[] 0 (Nat.le_refl _) (by unfold maxLen; omega) rfl; simpa [sortT, flat] using this, (Below.refl _ _).alloc (Nat.le_refl _) _, _, rfl⟩
  case round =>
    obtain ⟨k, hk, rfl, hown, hb, g, hgb⟩ := hrel
    obtain ⟨wo, rfl⟩ : ∃ wo : World, wo = wr := ⟨_, rfl⟩
    by_cases hlt : k < n
    · obtain ⟨os, hos⟩ : ∃ os, os = sortT (ts.take k) := ⟨_, rfl⟩
      have hnx : sortT (ts.take (k + 1)) = insT (ts.getD k T0) os := by rw [take_snoc ts (by omega), sortT_snoc, hos]
      have hasc : Asc os := by rw [hos]; exact sortT_asc _
      have hml : os.length ≤ k := by rw [hos]; have := sortT_len (ts.take k); simp at this; omega
      rw [← hos] at hown
      obtain ⟨cap, rfl, hcap, hbg, hgl⟩ := own_form hown hgb
      obtain ⟨A', cap', hv, htw⟩ := own_tw hown rfl
      cases hv
      generalize hm : os.length = m at hown hml hcap ⊢
      obtain ⟨b, off, rfl, hbl, hc⟩ := (hA.below hb (Nat.le_refl _)) (by omega)
      replace hc := hc k (by omega)
      have hX : ∀ q os, Cell4 (grow (wo.drewN q) os) b (off + k * 4) (ts.getD k T0) := fun q os => hc.keep fun i => cell?_grow _ _ _ (by have := hb.size; show b < wo.heap.size; omega)
      have hX0 := hc
      have htr := htw.tr
      generalize hxe : ts.getD k T0 = x at hX hX0 hnx
      have H := Lib.hid (And.intro hnx (And.intro hasc (And.intro hown (And.intro hb (And.intro htr hm)))))
      clear hc hxe hnx hasc hown hb htw htr hA hm hos
      obtain ⟨x0, x1, x2, x3⟩ := x
      simp only [Cell4, forall_and] at hX
      obtain ⟨e0, e1, e2, e3⟩ := hX
      obtain ⟨d0, d1, d2, d3⟩ := hX0
      simp only at d0 d1 d2 d3
      have hm2 : (m : Int) ≤ 65536 := by omega
      go_wp2_with fail
      go_loopw [5] (fun a wr => ∃ p : Nat, p ≤ m ∧ a = .int .i64 p ∧ (∀ j, p ≤ j → j < os.length → before (x0, x1, x2, x3) (os.getD j T0) = true) ∧ Ext wo wr) (fun a _ => (intOf a).toNat)
      case atStart => exact ⟨m, Nat.le_refl _, rfl, fun j h1 h2 => by have := H.out.2.2.2.2.2; omega, Ext.refl _⟩
      case round =>
        obtain ⟨p, hp, rfl, haf, hx⟩ := hrel
        have HX := Lib.hid hx
        have HA := Lib.hid haf
        have f0 : ∀ q os, (grow (wr.drewN q) os).cell? ⟨b, off + k * 4, none⟩ = some (.int .i64 x0) := by obtain ⟨q', os', rfl⟩ := hx; exact grown_again e0 q' os'
        have f1 : ∀ q os, (grow (wr.drewN q) os).cell? ⟨b, off + k * 4 + 1, none⟩ = some (.int .i64 x1) := by obtain ⟨q', os', rfl⟩ := hx; exact grown_again e1 q' os'
        have f2 : ∀ q os, (grow (wr.drewN q) os).cell? ⟨b, off + k * 4 + 2, none⟩ = some (.int .i64 x2) := by obtain ⟨q', os', rfl⟩ := hx; exact grown_again e2 q' os'
        have f3 : ∀ q os, (grow (wr.drewN q) os).cell? ⟨b, off + k * 4 + 3, none⟩ = some (.int .i64 x3) := by obtain ⟨q', os', rfl⟩ := hx; exact grown_again e3 q' os'
        clear haf
        rcases p with _ | p
        · clear hx
          go_wp2_with fail
          refine wp_region_quiet_grown mixed (by kernel_rfl) ?_
          repeat (go_big_quiet_step ((fail)))
          refine wpQuiet_nil ?_
          intro _ hw'
          obtain ⟨⟨nq, osq⟩, hw''⟩ := hw'
          subst hw''
          go_wp2_with fail
          replace f0 := grown_again f0 nq osq
          replace f1 := grown_again f1 nq osq
          replace f2 := grown_again f2 nq osq
          replace f3 := grown_again f3 nq osq
          have HW := Lib.hid (HX.out.trans ⟨nq, osq, rfl⟩)
          clear HX e0 e1 e2 e3 d0 d1 d2 d3
          generalize grow (wr.drewN nq) osq = w1 at *
          refine wp_region_quiet_grown mixed (by kernel_rfl) ?_
          repeat (go_big_quiet_step ((fail)))
          refine wpQuiet_nil ?_
          intro _ hw'
          obtain ⟨⟨nq, osq⟩, hw''⟩ := hw'
          subst hw''
          go_wp2_with fail
          replace f0 := grown_now (grown_again f0 nq osq)
          replace f1 := grown_now (grown_again f1 nq osq)
          replace f2 := grown_now (grown_again f2 nq osq)
          replace f3 := grown_now (grown_again f3 nq osq)
          replace HW := Lib.hid (HW.out.trans ⟨nq, osq, rfl⟩)
          generalize grow (w1.drewN nq) osq = w2 at *
          have hO : (w2.alloc (.cells #[.int .i64 x0, .int .i64 x1, .int .i64 x2, .int .i64 x3] 56)).ownsRow w2.heap.size 56 4 (.slice (some ⟨w2.heap.size, 0, none⟩) 1 1) 1 (enc (x0, x1, x2, x3)) := World.ownsRow_lit w2 _ 1 (Nat.le_refl _) (by unfold maxLen; omega) rfl
          have hR : Reads w2 w2.heap.size 4 (some ⟨g, 0, none⟩) m (flat os) := (reads_of_tr (H.out.2.2.2.2.1.ext HW.out (Nat.le_refl _)) H.out.2.2.2.2.2).more (HW.out.below (Nat.le_refl _)).size
          have HO := Lib.hid (And.intro hO hR)
          clear hO hR
          go_region_law ((refine step_append_any _ (by rfl) _ _ _ (by rfl) w2.heap.size 56 i0 _ 4 32 Tryd.underlying30 HI.out.1 HI.out.2.1 HI.out.2.2.1 HI.out.2.2.2 rfl (by decide) _ 1 (enc (x0, x1, x2, x3)) (by rfl) HO.out.1.drew w2.heap.size _ _ _ (flat os) (by rfl) ((HO.out.2.alloc (Nat.le_refl _) _).drew) (flat_one _) (by unfold maxLen; omega) (by omega) (by simp) ?_; intro v6 w6 hown6 hgrow6 hat6))
          obtain ⟨g6, hg6⟩ : ∃ g6, v6.ownBlock = some g6 := by rcases hat6 with h | h <;> exact ⟨_, h.trans rfl⟩
          obtain ⟨cap6, rfl, hc6, hb6, hl6⟩ := own_form hown6 hg6
          have B6 := Lib.hid (((HW.out.below (Nat.le_refl _)).trans (((((Below.refl w2.heap.size w2).alloc (Nat.le_refl _) _).drew).grown hgrow6 (by simp) (by intro q hq; simp [Value.ownBlock] at hq; omega)).mono (HW.out.below (Nat.le_refl _)).size)))
          have R6 := Lib.hid ((reads_of_tr (H.out.2.2.2.2.1) H.out.2.2.2.2.2).below B6.out)
          have S6 := Lib.hid (Reads.of_own hown6)
          have L6 := Lib.hid (H.out.2.2.2.1.trans (B6.out.mono H.out.2.2.2.1.size))
          clear hown6 hgrow6 hat6 hg6 hc6 hb6 f0 f1 f2 f3
          go_wp2_with (first | (at_builtin; refine wpList_append_any _ rfl (.tmp 55) (.tmp 58) _ rfl w.heap.size 56 i0 _ 4 32 Tryd.underlying30 HI.out.1 HI.out.2.1 HI.out.2.2.1 HI.out.2.2.2 rfl (by decide) _ 0 [] rfl (World.ownsRow_made (base := w.heap.size) (e := 56) (size := 4) w6 #[] 0 L6.out.size (by unfold maxLen; omega) rfl) wo.heap.size (some ⟨g, 0, none⟩) 0 cap (flat (os.take 0)) rfl ((Reads.cut_lo R6.out (by omega) H.out.2.2.2.2.2).alloc B6.out.size _) (flat_one _) (by unfold maxLen; omega) (by omega) (by have := L6.out.size; simp; omega) ?_; intro v7 w7 hown7 hgrow7 hat7) | (at_builtin; refine wpList_append_any _ rfl (.tmp 59) (.tmp 60) _ rfl w.heap.size 56 i0 _ 4 32 Tryd.underlying30 HI.out.1 HI.out.2.1 HI.out.2.2.1 HI.out.2.2.2 rfl (by decide) v7 (0 + 0) ([] ++ flat (os.take 0)) rfl hown7 w6.heap.size (some ⟨g6, 0, none⟩) (1 + (m - 0)) cap6 (enc (x0, x1, x2, x3) ++ flat (os.drop 0)) rfl ((S6.out.alloc (Nat.le_refl _) _).grown hgrow7 (by simp) (by intro q hq; cases hq; exact Nat.le_refl _)) (enc_flat_one _ _) (by unfold maxLen; omega) (by omega) (Nat.le_trans L6.out.size (Nat.le_trans (by simp) hgrow7.size)) ?_; intro v8 w8 hown8 hgrow8 hat8))
          have hmm := H.out.2.2.2.2.2
          have hins : insT (x0, x1, x2, x3) os = os.take 0 ++ [(x0, x1, x2, x3)] ++ os.drop 0 := by
            rw [insT_at H.out.2.1 (p := 0) (by omega) (fun j h1 h2 => HA.out j h1 h2) (fun h => absurd h (Nat.lt_irrefl _)), if_neg (fun h => absurd h.1 (Nat.lt_irrefl _))]
          have e1 : ([] ++ flat (os.take 0)) ++ (enc (x0, x1, x2, x3) ++ flat (os.drop 0)) = flat (sortT (ts.take (k + 1))) := by
            rw [H.out.1, hins]; simp only [flat_append, List.nil_append, List.append_assoc]; simp [flat]
          have e2 : 0 + 0 + (1 + (m - 0)) = (sortT (ts.take (k + 1))).length := by
            rw [H.out.1, hins]; simp; omega
          rw [e1, e2] at hown8
          have b7 := (L6.out.alloc L6.out.size (Obj.cells #[] 56)).grown hgrow7 (by have := L6.out.size; simp; omega) (by intro q hq; cases hq; exact L6.out.size)
          refine ⟨⟨k + 1, by omega, by go_num, hown8, b7.grown hgrow8 b7.size (fun q hq => (hown7.lt q hq).1), ?_⟩, by simp [intOf]; omega⟩
          rcases hat8 with h | h
          · rcases hat7 with h' | h'
            · exact ⟨_, h.trans h'⟩
            · exact ⟨_, h.trans h'⟩
          · exact ⟨_, h⟩
        · obtain ⟨b', off', hA', hcc⟩ := H.out.2.2.2.2.1.at2 hx (k := p) (by have := H.out.2.2.2.2.2; omega)
          cases hA'
          have hcc := hcc p (by have := H.out.2.2.2.2.2; omega)
          clear hx
          obtain ⟨⟨y0, y1, y2, y3⟩, hY⟩ : ∃ y, y = os.getD p T0 := ⟨_, rfl⟩
          rw [← hY] at hcc
          simp only [Cell4, forall_and] at hcc
          obtain ⟨g0, g1, g2, g3⟩ := hcc
          simp only [Nat.zero_add] at g0 g1 g2 g3
          have HY := Lib.hid hY
          clear hY
          have hcon : ∀ W, Calls Tryd.prog 57 _ W _ := fun W => before_any (x0, x1, x2, x3) (y0, y1, y2, y3) W
          unfold Ext tv at hcon
          generalize hr : before (x0, x1, x2, x3) (y0, y1, y2, y3) = r at hcon
          have HR := Lib.hid hr
          clear hr
          cases r with
          | true =>
            go_wp2_with fail
            refine wp_region_quiet_grown mixed (by kernel_rfl) ?_
            repeat (go_big_quiet_step ((go_at_call 57; refine Calls.grown_of (hcon _))))
            refine wpQuiet_nil ?_
            intro _ hw'
            obtain ⟨⟨nq, osq⟩, hw''⟩ := hw'
            subst hw''
            clear hcon f0 f1 f2 f3 g0 g1 g2 g3
            go_wp2_with fail
            go_roundw
            case rel =>
              refine ⟨p, by omega, by go_num, fun j h1 h2 => ?_, HX.out.trans ⟨nq, osq, rfl⟩⟩
              by_cases hj : j = p
              · subst hj
                have := HR.out
                rw [HY.out] at this
                exact this
              · exact HA.out j (by omega) h2
            case measure => simp [intOf]
          | false =>
            have heq : ∀ w, (binOp .eql 56 (.agg #[.int .i64 y0, .int .i64 y1, .int .i64 y2, .int .i64 y3]) (.agg #[.int .i64 x0, .int .i64 x1, .int .i64 x2, .int .i64 x3])).run Tryd.prog w = .ok (.bool (eqT (y0, y1, y2, y3) (x0, x1, x2, x3))) w := fun w => eql_tile (y0, y1, y2, y3) (x0, x1, x2, x3) w
            generalize hz : eqT (y0, y1, y2, y3) (x0, x1, x2, x3) = z at heq
            have HZ := Lib.hid hz
            clear hz
            go_wp2_with fail
            refine wp_region_quiet_grown mixed (by kernel_rfl) ?_
            repeat (go_big_quiet_step ((go_at_call 57; refine Calls.grown_of (hcon _))))
            refine wpQuiet_nil ?_
            intro _ hw'
            obtain ⟨⟨nq, osq⟩, hw''⟩ := hw'
            subst hw''
            go_wp2_with fail
            clear hcon e0 e1 e2 e3 d0 d1 d2 d3
            replace f0 := grown_again f0 nq osq
            replace f1 := grown_again f1 nq osq
            replace f2 := grown_again f2 nq osq
            replace f3 := grown_again f3 nq osq
            replace g0 := grown_again g0 nq osq
            replace g1 := grown_again g1 nq osq
            replace g2 := grown_again g2 nq osq
            replace g3 := grown_again g3 nq osq
            have HW := Lib.hid (HX.out.trans ⟨nq, osq, rfl⟩)
            clear HX
            generalize grow (wr.drewN nq) osq = w1 at *
            cases z with
            | true =>
              refine wp_region_quiet_grown mixed (by kernel_rfl) ?_
              repeat (go_big_quiet_step ((fail)))
              refine wpQuiet_nil ?_
              intro _ hw'
              obtain ⟨⟨nq, osq⟩, hw''⟩ := hw'
              subst hw''
              clear f0 f1 f2 f3 g0 g1 g2 g3 heq
              go_wp2_with fail
              have hins : insT (x0, x1, x2, x3) os = os := by
                rw [insT_at H.out.2.1 (p := p + 1) (by have := H.out.2.2.2.2.2; omega) (fun j h1 h2 => HA.out j h1 h2) (fun _ => by have := HR.out; rw [HY.out] at this; exact this), if_pos ⟨by omega, by have := HZ.out; rw [HY.out] at this; simpa [eqT] using this⟩]
              refine ⟨⟨k + 1, by omega, by go_num, ?_, H.out.2.2.2.1.trans (((HW.out.trans ⟨nq, osq, rfl⟩).below (Nat.le_refl _)).mono H.out.2.2.2.1.size), g, rfl⟩, by simp [intOf]; omega⟩
              rw [H.out.1, hins, H.out.2.2.2.2.2]
              exact own_ext (own_ext H.out.2.2.1 HW.out) ⟨nq, osq, rfl⟩
            | false =>
              refine wp_region_quiet_grown mixed (by kernel_rfl) ?_
              repeat (go_big_quiet_step ((fail)))
              refine wpQuiet_nil ?_
              intro _ hw'
              obtain ⟨⟨nq, osq⟩, hw''⟩ := hw'
              subst hw''
              clear g0 g1 g2 g3 heq
              go_wp2_with fail
              replace f0 := grown_now (grown_again f0 nq osq)
              replace f1 := grown_now (grown_again f1 nq osq)
              replace f2 := grown_now (grown_again f2 nq osq)
              replace f3 := grown_now (grown_again f3 nq osq)
              replace HW := Lib.hid (HW.out.trans ⟨nq, osq, rfl⟩)
              generalize grow (w1.drewN nq) osq = w2 at *
              have hO : (w2.alloc (.cells #[.int .i64 x0, .int .i64 x1, .int .i64 x2, .int .i64 x3] 56)).ownsRow w2.heap.size 56 4 (.slice (some ⟨w2.heap.size, 0, none⟩) 1 1) 1 (enc (x0, x1, x2, x3)) := World.ownsRow_lit w2 _ 1 (Nat.le_refl _) (by unfold maxLen; omega) rfl
              have hR0 : Reads w2 w2.heap.size 4 (some ⟨g, 0, none⟩) m (flat os) := (reads_of_tr (H.out.2.2.2.2.1.ext HW.out (Nat.le_refl _)) H.out.2.2.2.2.2).more (HW.out.below (Nat.le_refl _)).size
              have hR : Reads w2 w2.heap.size 4 (if cap = p + 1 then some ⟨g, 0, none⟩ else some ⟨g, (p + 1) * 4, none⟩) (m - (p + 1)) (flat (os.drop (p + 1))) := by
                have := Reads.cut (k := p + 1) (cap := cap) hR0 (by omega) (by omega)
                rw [flat_drop] at this
                simpa [Addr.add] using this
              have HO := Lib.hid (And.intro hO hR)
              have hq1 : (0 : Int) ≤ (p : Int) + 1 := by omega
              have hq2 : (p : Int) + 1 ≤ (m : Int) := by omega
              clear hO hR hR0
              go_region_law ((refine step_append_any _ (by rfl) _ _ _ (by rfl) w2.heap.size 56 i0 _ 4 32 Tryd.underlying30 HI.out.1 HI.out.2.1 HI.out.2.2.1 HI.out.2.2.2 rfl (by decide) _ 1 (enc (x0, x1, x2, x3)) (by rfl) HO.out.1.drew w2.heap.size _ _ _ (flat (os.drop (p + 1))) (by rfl) ((HO.out.2.alloc (Nat.le_refl _) _).drew) (flat_one _) (by unfold maxLen; omega) (by omega) (by simp) ?_; intro v6 w6 hown6 hgrow6 hat6))
              obtain ⟨g6, hg6⟩ : ∃ g6, v6.ownBlock = some g6 := by rcases hat6 with h | h <;> exact ⟨_, h.trans rfl⟩
              obtain ⟨cap6, rfl, hc6, hb6, hl6⟩ := own_form hown6 hg6
              have B6 := Lib.hid (((HW.out.below (Nat.le_refl _)).trans (((((Below.refl w2.heap.size w2).alloc (Nat.le_refl _) _).drew).grown hgrow6 (by simp) (by intro q hq; simp [Value.ownBlock] at hq; omega)).mono (HW.out.below (Nat.le_refl _)).size)))
              have R6 := Lib.hid ((reads_of_tr (H.out.2.2.2.2.1) H.out.2.2.2.2.2).below B6.out)
              have S6 := Lib.hid (Reads.of_own hown6)
              have L6 := Lib.hid (H.out.2.2.2.1.trans (B6.out.mono H.out.2.2.2.1.size))
              clear hown6 hgrow6 hat6 hg6 hc6 hb6 f0 f1 f2 f3
              go_wp2_with (first | (at_builtin; refine wpList_append_any _ rfl (.tmp 55) (.tmp 58) _ rfl w.heap.size 56 i0 _ 4 32 Tryd.underlying30 HI.out.1 HI.out.2.1 HI.out.2.2.1 HI.out.2.2.2 rfl (by decide) _ 0 [] rfl (World.ownsRow_made (base := w.heap.size) (e := 56) (size := 4) w6 #[] 0 L6.out.size (by unfold maxLen; omega) rfl) wo.heap.size (some ⟨g, 0, none⟩) (p + 1) cap (flat (os.take (p + 1))) rfl ((Reads.cut_lo R6.out (by omega) H.out.2.2.2.2.2).alloc B6.out.size _) (flat_one _) (by unfold maxLen; omega) (by omega) (by have := L6.out.size; simp; omega) ?_; intro v7 w7 hown7 hgrow7 hat7) | (at_builtin; refine wpList_append_any _ rfl (.tmp 59) (.tmp 60) _ rfl w.heap.size 56 i0 _ 4 32 Tryd.underlying30 HI.out.1 HI.out.2.1 HI.out.2.2.1 HI.out.2.2.2 rfl (by decide) v7 (0 + (p + 1)) ([] ++ flat (os.take (p + 1))) rfl hown7 w6.heap.size (some ⟨g6, 0, none⟩) (1 + (m - (p + 1))) cap6 (enc (x0, x1, x2, x3) ++ flat (os.drop (p + 1))) rfl ((S6.out.alloc (Nat.le_refl _) _).grown hgrow7 (by simp) (by intro q hq; cases hq; exact Nat.le_refl _)) (enc_flat_one _ _) (by unfold maxLen; omega) (by omega) (Nat.le_trans L6.out.size (Nat.le_trans (by simp) hgrow7.size)) ?_; intro v8 w8 hown8 hgrow8 hat8))
              have hmm := H.out.2.2.2.2.2
              have hins : insT (x0, x1, x2, x3) os = os.take (p + 1) ++ [(x0, x1, x2, x3)] ++ os.drop (p + 1) := by
                rw [insT_at H.out.2.1 (p := (p + 1)) (by omega) (fun j h1 h2 => HA.out j h1 h2) (fun _ => by have := HR.out; rw [HY.out] at this; exact this), if_neg (fun h => by have := HZ.out; rw [HY.out] at this; have h2 := h.2; simp only [Nat.add_sub_cancel] at h2; rw [h2] at this; simp [eqT] at this)]
              have e1 : ([] ++ flat (os.take (p + 1))) ++ (enc (x0, x1, x2, x3) ++ flat (os.drop (p + 1))) = flat (sortT (ts.take (k + 1))) := by
                rw [H.out.1, hins]; simp only [flat_append, List.nil_append, List.append_assoc]; simp [flat]
              have e2 : 0 + (p + 1) + (1 + (m - (p + 1))) = (sortT (ts.take (k + 1))).length := by
                rw [H.out.1, hins]; simp; omega
              rw [e1, e2] at hown8
              have b7 := (L6.out.alloc L6.out.size (Obj.cells #[] 56)).grown hgrow7 (by have := L6.out.size; simp; omega) (by intro q hq; cases hq; exact L6.out.size)
              refine ⟨⟨k + 1, by omega, by go_num, hown8, b7.grown hgrow8 b7.size (fun q hq => (hown7.lt q hq).1), ?_⟩, by simp [intOf]; omega⟩
              rcases hat8 with h | h
              · rcases hat7 with h' | h'
                · exact ⟨_, h.trans h'⟩
                · exact ⟨_, h.trans h'⟩
              · exact ⟨_, h⟩
    · go_wp2_with fail
      go_ret
      obtain rfl : k = n := by omega
      rw [List.take_of_length_le (by omega)] at hown
      exact ⟨_, rfl, hown, hb⟩
end Go.Proofs.YtnagpndclagfaaaDoor
