/- Rows grown by steps: the program's machine. -/
import Derived.Test.YtnmgkchkbchfaaaBk8
import Derived.Test.YtnmgkchkbchfaaaOe1
import Derived.Test.YtnmgkchkbchfaaaCut2
import Derived.ScopeJumps
import Derived.WalkMore
import Derived.Deep.RegionHeld3
namespace Go.Proofs.Ytnmgkchkbchfaaa
set_option linter.unusedVariables false
set_option linter.unusedSimpArgs false
open Go.RowKit Go.Sort

/-- As Q; by a goto: J, with a lesser number. -/
def jumpB (J : Nat → Nat → Act → World → Prop) (m : Nat) (Q : Exit → Act → World → Prop) : Exit → Act → World → Prop
  | .goto l, a, w => ∃ m', m' < m ∧ J l m' a w
  | e, a, w => Q e a w
theorem jumpB_mono {J : Nat → Nat → Act → World → Prop} {m m' : Nat} {Q : Exit → Act → World → Prop} (h : m ≤ m') : ∀ e a w, jumpB J m Q e a w → jumpB J m' Q e a w := by
  intro e a w hq
  cases e with
  | goto l => obtain ⟨k, h1, h2⟩ := hq; exact ⟨k, by omega, h2⟩
  | _ => exact hq
/-- A scope with two labels that the run jumps back to. -/
theorem wp_scope_two {P : Program} {a : Act} {w : World} {Q : Exit → Act → World → Prop} {c x0 x1 : Code} (J : Nat → Nat → Act → World → Prop) (hJ : ∀ l m a w, J l m a w → l = 0 ∨ l = 1) (h0 : findLabel c 0 = some (Code.skip.seq x0)) (h1 : findLabel c 1 = some (Code.skip.seq x1))
    (pass1 : ∀ m a w, J 1 m a w → x1.wp P (jumpB J m Q) a w)
    (pass0 : (∀ m a w, J 1 m a w → x1.wp P (jumpB J m Q) a w) → ∀ m a w, J 0 m a w → x0.wp P (jumpB J m Q) a w)
    (first : (∀ m a w, J 0 m a w → x0.wp P (jumpB J m Q) a w) → ∃ m, c.wp P (jumpB J m Q) a w) : (Code.scope c).wp P Q a w := by
  intro b k cs
  have hg : ∀ l rest, findLabel c l = some rest → gotoIn l (.inScope c :: k) = some (.code rest :: .inScope c :: k) := fun l rest h => by simp [gotoIn, h]
  have hf : ∀ l m a w, J l m a w → ∃ rest, findLabel c l = some rest ∧ rest.wp P (jumpB J m Q) a w := fun l m a w h => by
    rcases hJ l m a w h with rfl | rfl
    · exact ⟨_, h0, wp_seq (wp_skip (pass0 pass1 m a w h))⟩
    · exact ⟨_, h1, wp_seq (wp_skip (pass1 m a w h))⟩
  have key : ∀ n l a w, J l n a w → ∀ rest, findLabel c l = some rest → ∃ e a' w', Q e a' w' ∧ Arrives P (lone (b.at a (.code rest :: .inScope c :: k)) cs w) b k cs e a' w' := by
    intro n
    induction n using Nat.strongRecOn with
    | _ n ih =>
      intro l a w hJ' rest hrest
      obtain ⟨rest', hr', hwp⟩ := hf l n a w hJ'
      rw [hrest] at hr'
      cases hr'
      obtain ⟨e, a₁, w₁, hq, harr⟩ := hwp b (.inScope c :: k) cs
      cases e with
      | normal => exact ⟨.normal, a₁, w₁, hq, Steps.trans harr (.one step_inScope)⟩
      | exit id => exact ⟨.exit id, a₁, w₁, hq, fun k' hk => harr k' (by simp [exitTo, hk])⟩
      | goto l' =>
        obtain ⟨m', hlt, hJ'⟩ := hq
        obtain ⟨rest2, hr2, _⟩ := hf l' m' a₁ w₁ hJ'
        obtain ⟨e₂, a₂, w₂, hq₂, harr₂⟩ := ih m' hlt l' a₁ w₁ hJ' rest2 hr2
        exact ⟨e₂, a₂, w₂, hq₂, .of_steps (harr _ (hg l' rest2 hr2)) harr₂⟩
      | ret => exact ⟨_, a₁, w₁, hq, harr⟩
      | panic ch => exact ⟨_, a₁, w₁, hq, harr⟩
      | outgrown => exact ⟨_, a₁, w₁, hq, harr⟩
  obtain ⟨mm, hfirst⟩ := first (pass0 pass1)
  obtain ⟨e, a₁, w₁, hq, harr⟩ := hfirst b (.inScope c :: k) cs
  cases e with
  | normal => exact ⟨.normal, a₁, w₁, hq, .head step_scope (Steps.trans harr (.one step_inScope))⟩
  | exit id => exact ⟨.exit id, a₁, w₁, hq, fun k' hk => .head step_scope (harr k' (by simp [exitTo, hk]))⟩
  | goto l' =>
    obtain ⟨m', _, hJ'⟩ := hq
    obtain ⟨rest2, hr2, _⟩ := hf l' m' a₁ w₁ hJ'
    obtain ⟨e₂, a₂, w₂, hq₂, harr₂⟩ := key m' l' a₁ w₁ hJ' rest2 hr2
    exact ⟨e₂, a₂, w₂, hq₂, .of_steps (.head step_scope (harr _ (hg l' rest2 hr2))) harr₂⟩
  | ret => exact ⟨_, a₁, w₁, hq, .of_steps (.one step_scope) harr⟩
  | panic ch => exact ⟨_, a₁, w₁, hq, .of_steps (.one step_scope) harr⟩
  | outgrown => exact ⟨_, a₁, w₁, hq, .of_steps (.one step_scope) harr⟩

theorem apart_lo {w5 w6 : World} {lo hi lo' hi' n m : Nat} {A B : Option Addr} {xs ys : List Int} (h : IWr w5 lo hi A xs) (h' : IWr w6 lo' hi' B ys) (hle : hi ≤ lo') (h1 : xs.length = n) (h2 : ys.length = m) : Apart A n B m := fun b o c u e1 e2 p1 p2 => by
  obtain ⟨b', o', _, _, q1, q2, q3, _⟩ := h (by omega)
  obtain ⟨c', u', _, _, q4, q5, q6, _⟩ := h' (by omega)
  rw [e1] at q1
  rw [e2] at q4
  cases q1
  cases q4
  exact .inl (by omega)
theorem OwnF.done2 {w : World} {base : Nat} {v : Value} {es : List RowE} (h : OwnF w base v es) : ∃ A cap, v = .slice A es.length cap ∧ es.length ≤ cap ∧ IWW w base w.heap.size A (es.map RowE.xs) := by
  obtain ⟨A, cap, e, hw⟩ := h.done
  refine ⟨A, cap, e, ?_, hw⟩
  rcases h.1.2 with ⟨hv, h0⟩ | ⟨g, cap', cur, hv, _, _, hn, _⟩
  · omega
  · rw [e] at hv
    cases hv
    exact hn
theorem IWW.lowF {w : World} {lo lo' hi : Nat} {A : Option Addr} {rs : List (List Int)} (h : IWW w lo hi A rs) (hl : lo' ≤ lo) : IWW w lo' hi A rs := fun h0 => by
  obtain ⟨b, off, t, cs, Q, q, e, h1, h2, hb, hc, ha⟩ := h h0
  exact ⟨b, off, t, cs, Q, q, e, by omega, h2, hb, fun k hk => ⟨(hc k hk).1, (hc k hk).2.1, (hc k hk).2.2.1.low hl, (hc k hk).2.2.2⟩, ha⟩
theorem IWW.upF {w : World} {lo hi hi' : Nat} {A : Option Addr} {rs : List (List Int)} (h : IWW w lo hi A rs) (hl : hi ≤ hi') : IWW w lo hi' A rs := fun h0 => by
  obtain ⟨b, off, t, cs, Q, q, e, h1, h2, hb, hc, ha⟩ := h h0
  exact ⟨b, off, t, cs, Q, q, e, h1, by omega, hb, fun k hk => ⟨(hc k hk).1, (hc k hk).2.1, (hc k hk).2.2.1.up hl, (hc k hk).2.2.2⟩, ha⟩
/-- What rows grow to by so many steps. -/
def gN (bs rs : List (List Int)) : Nat → List (List Int)
  | 0 => rs
  | k + 1 => growR bs (gN bs rs k)
/-- These rows and what they grow to are small, and numbers of tiles. -/
def GB (bs rs : List (List Int)) (m s : Nat) : Prop := ∀ j, j ≤ s → (gN bs rs j).length ≤ 4096 ∧ ∀ k, k < (gN bs rs j).length → ((gN bs rs j).getD k []).length ≤ 4096 ∧ inN m ((gN bs rs j).getD k [])
/-- At the label l, with the number q. -/
def GrJ (w : World) (c0 : Int) (A : Option Addr) (n c : Nat) (G : Option Addr) (m g : Nat) (bs : List (List Int)) (B : Option Addr) (d : Nat) (rs : List (List Int)) (s lo : Nat) (l q : Nat) (a : Act) (W : World) : Prop :=
  ∃ (j : Nat) (B' : Option Addr) (d' : Nat) (v1 v2 v7 v8 u9 u10 u11 u12 u13 u14 u15 u16 u17 u18 u19 u20 u21 u22 u23 u24 u25 u26 u27 u28 u29 u30 u31 u32 u33 u34 u35 : Value), j ≤ s ∧ v1 = .slice B' (gN bs rs j).length d' ∧ v2 = .int .i64 ((s : Int) - (j : Int)) ∧
    a = { tmps := #[.agg #[.int .i64 c0, .slice A n c, .slice G m g], v1, v2, .pointer (some ⟨w.heap.size, 0, none⟩), undef, undef, .slice none 0 0, v7, v8, u9, u10, u11, u12, u13, u14, u15, u16, u17, u18, u19, u20, u21, u22, u23, u24, u25, u26, u27, u28, u29, u30, u31, u32, u33, u34, u35], defers := [] } ∧
    (gN bs rs j).length ≤ d' ∧ w.heap.size + 1 ≤ W.heap.size ∧
    Blk W w.heap.size 61 #[.int .i64 c0, .slice A n c, .slice G m g] ∧ TR W w.heap.size G (blkL bs) ∧ Below w.heap.size w W ∧
    ((l = 0 ∧ q = (s - j) * 5000 ∧ IRR W W.heap.size B' (gN bs rs j) ∧ (0 < j ∨ IWW w lo w.heap.size B rs → IWW W lo W.heap.size B' (gN bs rs j))) ∨
     (l = 1 ∧ j < s ∧ ∃ (base y : Nat) (es : List RowE), y ≤ (gN bs rs j).length ∧ v8 = .int .i64 (y : Int) ∧ q = (s - j - 1) * 5000 + (4097 - y) ∧ w.heap.size + 1 ≤ base ∧ base ≤ W.heap.size ∧ IRR W base B' (gN bs rs j) ∧ OwnF W base v7 es ∧ es.map RowE.xs = growR bs ((gN bs rs j).take y)))
set_option maxRecDepth 100000 in
set_option maxHeartbeats 8000000 in
theorem grown_any (ts : List Tl) (c0 : Int) (A : Option Addr) (n c : Nat) (G : Option Addr) (m g : Nat) (bs : List (List Int)) (B : Option Addr) (r d : Nat) (rs : List (List Int)) (s lo : Nat) (w : World) (hm : m ≤ 1048576) (hl : bs.length = m) (hG : TR w w.heap.size G (blkL bs)) (hr : rs.length = r) (hrd : r ≤ d) (hB : IRR w w.heap.size B rs) (hbd : GB bs rs m s) (hs : s ≤ 1000) (hlo : lo ≤ w.heap.size) (hI : 0 < s ∨ IWW w lo w.heap.size B rs) :
    Calls Try.prog 62 #[.agg #[.int .i64 c0, .slice A n c, .slice G m g], .slice B r d, .int .i64 (s : Int)] w fun e w' => ∃ R q, e = .returned (.slice R (gN bs rs s).length q) ∧ (gN bs rs s).length ≤ q ∧ Below w.heap.size w w' ∧ IRR w' w'.heap.size R (gN bs rs s) ∧ IWW w' lo w'.heap.size R (gN bs rs s) := by
  have HBD := Lib.hid hbd
  have HBB := Lib.hid hB
  have HGG := Lib.hid hG
  have HII := Lib.hid hI
  clear hbd hB hG hI
  subst hr
  go_enter Try.func62, Try.ntmps62
  go_wp2_with fail
  refine wp_scope_two (GrJ w c0 A n c G m g bs B d rs s lo) (fun l q a W h => by obtain ⟨_, _, _, _, _, _, _, _, _, _, _, _, _, _, _, _, _, _, _, _, _, _, _, _, _, _, _, _, _, _, _, _, _, _, h⟩ := h; rcases h with ⟨-, -, -, -, -, -, -, -, -, h | h⟩; exact .inl h.1; exact .inr h.1) rfl rfl ?_ ?_ ?_
  · rintro q a W ⟨j, B', d', v1, v2, v7, v8, u9, u10, u11, u12, u13, u14, u15, u16, u17, u18, u19, u20, u21, u22, u23, u24, u25, u26, u27, u28, u29, u30, u31, u32, u33, u34, u35, hj, rfl, rfl, rfl, hd', hsz, hbk, htr, hbl, h | ⟨-, hjs, base, y, es, hy, rfl, rfl, hb1, hb2, hirr, hown, hes⟩⟩
    · exact absurd h.1 (by decide)
    have hbnd := HBD.out j hj
    have HES := Lib.hid hes
    have HESL := Lib.hid (show es.length = 2 * y by
      have h := congrArg List.length hes
      rw [List.length_map, growR_len, List.length_take] at h
      omega)
    have HGS := Lib.hid (fun (h : y < (gN bs rs j).length) => growR_succ bs (gN bs rs j) h)
    have HGE := Lib.hid (show gN bs rs (j + 1) = growR bs (gN bs rs j) from rfl)
    have HOWN := Lib.hid hown
    have HTR := Lib.hid htr
    have HBK := Lib.hid hbk
    have HBLW := Lib.hid hbl
    have HIRR := Lib.hid hirr
    have HD := Lib.hid hd'
    obtain ⟨L, hL⟩ : ∃ L, L = (gN bs rs j).length := ⟨_, rfl⟩
    rw [← hL] at hbnd hy HGS HD ⊢
    have HLL := Lib.hid hL
    have hL4 : L ≤ 4096 := hbnd.1
    clear hown htr hes hbl hd' hL
    by_cases hyl : y < L
    · obtain ⟨bB, oB, rfl, hbB, hcB⟩ := hirr (by rw [← HLL.out]; omega)
      obtain ⟨Q, qc, e1, hq1, hQ⟩ := hcB y (by rw [← HLL.out]; exact hyl)
      obtain ⟨hrl, hrin⟩ := hbnd.2 y hyl
      have HG2 := Lib.hid (HGS.out hyl)
      generalize (gN bs rs j).getD y [] = row at *
      obtain ⟨rl, hrl2⟩ : ∃ rl, rl = row.length := ⟨_, rfl⟩
      rw [← hrl2] at e1 hq1 hrl
      have HH0 := Lib.hid (fun W' (hW : Below W.heap.size W W') => grownHalf0_any c0 A n c G m g bs Q rl qc row W' hm hl ((HTR.out.below hW (by omega)).more (by have := hW.size; omega)) (by omega) hrl2.symm ((hQ.below hW hb2).more (Nat.le_trans hb2 hW.size)) hrin)
      have HH2 := Lib.hid (fun W' (hW : Below W.heap.size W W') => grownHalf2_any c0 A n c G m g bs Q rl qc row W' hm hl ((HTR.out.below hW (by omega)).more (by have := hW.size; omega)) (by omega) hrl2.symm ((hQ.below hW hb2).more (Nat.le_trans hb2 hW.size)) hrin)
      have HL0 := Lib.hid (show (halfR bs 0 row).length = 2 * rl by rw [halfR_len, hrl2])
      have HL2 := Lib.hid (show (halfR bs 2 row).length = 2 * rl by rw [halfR_len, hrl2])
      have r0 := hbk.rd 0 rfl
      have r1 := hbk.rd 1 rfl
      have r2 := hbk.rd 2 rfl
      have hbBW : bB < W.heap.size := by omega
      have hyL : (y : Int) < (L : Int) := by omega
      have hwlt : w.heap.size < W.heap.size := by omega
      have HSS := Lib.hid (And.intro hb1 hb2)
      clear hcB hQ hbk hrl2 hirr hbnd hrin
      go_wp2_with fail
      go_region_held3 (fun w' => w'.cell? ⟨w.heap.size, 0, none⟩ = some (.int .i64 c0) ∧ w'.cell? ⟨w.heap.size, 1, none⟩ = some (.slice A n c) ∧ w'.cell? ⟨w.heap.size, 2, none⟩ = some (.slice G m g) ∧ w'.cell? ⟨bB, oB + y, none⟩ = some (.slice Q rl qc))
        (first | exact ⟨r0, r1, r2, e1⟩ | exact ⟨f5_0, f5_1, f5_2, f5_3⟩ | exact ⟨f6_0, f6_1, f6_2, f6_3⟩ | exact ⟨f9_0, f9_1, f9_2, f9_3⟩ | go_keep)
        (first
        | (go_at_call 99; (with_reducible refine (HH0.out _ (by with_reducible first | exact Below.refl _ _ | exact (Below.refl _ _).drew)).mono ?_); rintro e w5 ⟨R1, p1, rfl, hc1, hb5, hw5⟩; have k5 := Lib.hid (below_next (Below.refl W.heap.size W) (by with_reducible first | exact Ext.refl _ | exact (Ext.refl _).drew | exact (Ext.refl _).alloc _ | exact ((Ext.refl _).alloc _).drew | exact ((Ext.refl _).drew).alloc _ | exact (((Ext.refl _).drew).alloc _).drew) hb5 (Nat.le_refl _)); have c5 := Lib.hid (blk_next HBK.out (by with_reducible first | exact Ext.refl _ | exact (Ext.refl _).drew | exact (Ext.refl _).alloc _ | exact ((Ext.refl _).alloc _).drew | exact ((Ext.refl _).drew).alloc _ | exact (((Ext.refl _).drew).alloc _).drew) hb5); have f5_0 := c5.out.rd 0 rfl; have f5_1 := c5.out.rd 1 rfl; have f5_2 := c5.out.rd 2 rfl; have f5_3 := (k5.out.cell (p := ⟨bB, oB + y, none⟩) hbBW).trans e1; have HW5 := Lib.hid (hw5.low (show W.heap.size ≤ _ by first | exact Nat.le_refl _ | simp)); have HC1 := Lib.hid hc1; clear hb5 hw5 hc1)
        | (go_at_call 99; (with_reducible refine (HH2.out _ (below_next0 k5.out (by with_reducible first | exact Ext.refl _ | exact (Ext.refl _).drew | exact (Ext.refl _).alloc _ | exact ((Ext.refl _).alloc _).drew | exact ((Ext.refl _).drew).alloc _ | exact (((Ext.refl _).drew).alloc _).drew) (Nat.le_refl _))).mono ?_); rintro e w6 ⟨R2, p2, rfl, hc2, hb6, hw6⟩; have k6 := Lib.hid (below_next k5.out (by with_reducible first | exact Ext.refl _ | exact (Ext.refl _).drew | exact (Ext.refl _).alloc _ | exact ((Ext.refl _).alloc _).drew | exact ((Ext.refl _).drew).alloc _ | exact (((Ext.refl _).drew).alloc _).drew) hb6 (Nat.le_refl _)); have c6 := Lib.hid (blk_next c5.out (by with_reducible first | exact Ext.refl _ | exact (Ext.refl _).drew | exact (Ext.refl _).alloc _ | exact ((Ext.refl _).alloc _).drew | exact ((Ext.refl _).drew).alloc _ | exact (((Ext.refl _).drew).alloc _).drew) hb6); have f6_0 := c6.out.rd 0 rfl; have f6_1 := c6.out.rd 1 rfl; have f6_2 := c6.out.rd 2 rfl; have f6_3 := (k6.out.cell (p := ⟨bB, oB + y, none⟩) hbBW).trans e1; have s6 := below_pair (Below.refl w5.heap.size w5) (by with_reducible first | exact Ext.refl _ | exact (Ext.refl _).drew | exact (Ext.refl _).alloc _ | exact ((Ext.refl _).alloc _).drew | exact ((Ext.refl _).drew).alloc _ | exact (((Ext.refl _).drew).alloc _).drew) hb6 (Nat.le_refl _); have z6 := s6.size; have HAP := Lib.hid (apart_lo HW5.out hw6 z6 HL0.out HL2.out); have HR1 := Lib.hid ((HW5.out.below (s6.trans (hb6.mono z6))).up (show w5.heap.size ≤ w6.heap.size by have := hb6.size; omega)); have HR2 := Lib.hid (hw6.low (show W.heap.size ≤ _ by have := k5.out.size; omega)); have HC2 := Lib.hid hc2; clear hb6 hw6 hc2 s6 z6)
        | (refine step_pushRows2 rfl (.tmp 16) (.tmp 29) rfl base v7 es (by go_simp) W HOWN.out (below_next0 k6.out (by with_reducible first | exact Ext.refl _ | exact (Ext.refl _).drew | exact (Ext.refl _).alloc _ | exact ((Ext.refl _).alloc _).drew | exact ((Ext.refl _).drew).alloc _ | exact (((Ext.refl _).drew).alloc _).drew) (Nat.le_refl _)) w6.heap.size (2 * rl) p1 (2 * rl) p2 R1 R2 (halfR bs 0 row) (halfR bs 2 row) (by go_simp) ((Blk.new w6 44 #[.slice R1 (2 * rl) p1, .slice R2 (2 * rl) p2]).ext (by with_reducible first | exact Ext.refl _ | exact (Ext.refl _).drew | exact (Ext.refl _).alloc _ | exact ((Ext.refl _).alloc _).drew | exact ((Ext.refl _).drew).alloc _ | exact (((Ext.refl _).drew).alloc _).drew)) ((HR1.out.ext (by with_reducible first | exact Ext.refl _ | exact (Ext.refl _).drew | exact (Ext.refl _).alloc _ | exact ((Ext.refl _).alloc _).drew | exact ((Ext.refl _).drew).alloc _ | exact (((Ext.refl _).drew).alloc _).drew)).up (by simp)) ((HR2.out.ext (by with_reducible first | exact Ext.refl _ | exact (Ext.refl _).drew | exact (Ext.refl _).alloc _ | exact ((Ext.refl _).alloc _).drew | exact ((Ext.refl _).drew).alloc _ | exact (((Ext.refl _).drew).alloc _).drew)).up (by simp)) HL0.out HL2.out HC1.out HC2.out HAP.out (by have := HESL.out; omega) HSS.out.2 ?_; intro v9 w9 hown9 hbel9 hgrow9; have k9 := Lib.hid (((below_next0 k6.out (by with_reducible first | exact Ext.refl _ | exact (Ext.refl _).drew | exact (Ext.refl _).alloc _ | exact ((Ext.refl _).alloc _).drew | exact ((Ext.refl _).drew).alloc _ | exact (((Ext.refl _).drew).alloc _).drew) (Nat.le_refl _)).mono HSS.out.2).trans hbel9); have c9 := Lib.hid ((c6.out.ext (by with_reducible first | exact Ext.refl _ | exact (Ext.refl _).drew | exact (Ext.refl _).alloc _ | exact ((Ext.refl _).alloc _).drew | exact ((Ext.refl _).drew).alloc _ | exact (((Ext.refl _).drew).alloc _).drew)).below hbel9 (show w.heap.size < base by have := HSS.out.1; omega)); have f9_0 := c9.out.rd 0 rfl; have f9_1 := c9.out.rd 1 rfl; have f9_2 := c9.out.rd 2 rfl; have f9_3 := (k9.out.cell (p := ⟨bB, oB + y, none⟩) hbB).trans e1))
      all_goals
        have HO9 := Lib.hid hown9
        have HM9 := Lib.hid (show (es ++ [RowE.mk R1 p1 (halfR bs 0 row), RowE.mk R2 p2 (halfR bs 2 row)]).map RowE.xs = growR bs ((gN bs rs j).take (y + 1)) by rw [List.map_append, HES.out, HG2.out]; rfl)
        clear hown9 hbel9 hgrow9 r0 r1 r2 e1 f5_0 f5_1 f5_2 f5_3 f6_0 f6_1 f6_2 f6_3 f9_0 f9_1 f9_2 f9_3
        go_wp2_with fail
        go_step3
        have h1 := HSS.out.1
        have h2 := HSS.out.2
        have h3 := k9.out.size
        refine ⟨(s - j - 1) * 5000 + (4097 - (y + 1)), by omega, j, some ⟨bB, oB, none⟩, d', _, _, _, _, _, _, _, _, _, _, _, _, _, _, _, _, _, _, _, _, _, _, _, _, _, _, _, _, _, _, _, hj, ?_, rfl, rfl, by rw [← HLL.out]; exact HD.out, by omega, HBK.out.below k9.out (by omega), HTR.out.below k9.out (by omega), HBLW.out.trans (k9.out.mono (by omega)), .inr ⟨rfl, hjs, base, y + 1, _, by rw [← HLL.out]; omega, by go_num, rfl, h1, by omega, HIRR.out.below k9.out (Nat.le_refl _), HO9.out, HM9.out⟩⟩
        rw [HLL.out]
    · obtain rfl : y = L := by omega
      obtain ⟨A2, cap2, hv, hcap, hww⟩ := OwnF.done2 HOWN.out
      subst hv
      have HWW := Lib.hid hww
      have hLs : ¬ (y : Int) < (y : Int) := by omega
      have HSS := Lib.hid (And.intro hb1 hb2)
      have hw9 : IntKind.i64.wrap ((s : Int) - (j : Int) - 1) = (s : Int) - (j : Int) - 1 := IntWalk.i64_in _ (by omega)
      have HM9 := Lib.hid (show es.map RowE.xs = gN bs rs (j + 1) by rw [HES.out, HLL.out, List.take_length]; exact HGE.out.symm)
      have HML := Lib.hid (show es.length = (gN bs rs (j + 1)).length by rw [← HM9.out, List.length_map])
      clear hww hbk hirr hbnd
      go_wp2_with fail
      go_step3
      have h1 := HSS.out.1
      have h2 := HSS.out.2
      have hir := HWW.out.irr
      have hiw := HWW.out
      rw [HM9.out] at hir hiw
      refine ⟨(s - (j + 1)) * 5000, by omega, j + 1, A2, cap2, _, _, _, _, _, _, _, _, _, _, _, _, _, _, _, _, _, _, _, _, _, _, _, _, _, _, _, _, _, _, _, by omega, by rw [← HML.out], ?_, rfl, by rw [← HML.out]; exact hcap, by omega, HBK.out, HTR.out, HBLW.out, .inl ⟨rfl, rfl, hir, fun _ => hiw.lowF (by omega)⟩⟩
      show Value.int .i64 _ = Value.int .i64 _
      congr 1
      omega
  · rintro hrow q a W ⟨j, B', d', v1, v2, v7, v8, u9, u10, u11, u12, u13, u14, u15, u16, u17, u18, u19, u20, u21, u22, u23, u24, u25, u26, u27, u28, u29, u30, u31, u32, u33, u34, u35, hj, rfl, rfl, rfl, hd', hsz, hbk, htr, hbl, ⟨-, rfl, hirr, hiw⟩ | h⟩
    · have HIRR := Lib.hid hirr
      have HIW := Lib.hid hiw
      have HBK := Lib.hid hbk
      have HTR := Lib.hid htr
      have HBLW := Lib.hid hbl
      have HD := Lib.hid hd'
      clear hirr hiw hbk htr hbl hd'
      by_cases hjs : j = s
      · subst hjs
        have hz : (j : Int) - (j : Int) = 0 := by omega
        go_wp2_with fail
        simp only [jumpB]
        go_ret
        first | exact ⟨B', d', rfl, HD.out, HBLW.out, HIRR.out, HIW.out HII.out⟩ | exact ⟨B', ⟨d', rfl, HD.out⟩, HBLW.out, HIRR.out, HIW.out HII.out⟩
      · have hz : ¬ (s : Int) - (j : Int) = 0 := by omega
        go_wp2_with fail
        go_step3
        rename_i hK
        refine hK _ _ ?_
        have hjlt : j < s := by omega
        refine wp_mono ?_ (jumpB_mono (m := (s - j - 1) * 5000 + 4097) (by omega))
        refine hrow ((s - j - 1) * 5000 + 4097) _ _ ?_
        exact ⟨j, B', d', _, _, _, _, _, _, _, _, _, _, _, _, _, _, _, _, _, _, _, _, _, _, _, _, _, _, _, _, _, _, _, hj, rfl, rfl, rfl, HD.out, hsz, HBK.out, HTR.out, HBLW.out, .inr ⟨rfl, hjlt, W.heap.size, 0, [], Nat.zero_le _, rfl, rfl, hsz, Nat.le_refl _, HIRR.out, OwnF.nil _ _, rfl⟩⟩
    · exact absurd h.1 (by decide)
  · intro hstep
    refine ⟨s * 5000 + 1, ?_⟩
    have hx := (Ext.refl w).alloc (Obj.cells #[.int .i64 c0, .slice A n c, .slice G m g] 61)
    have HX := Lib.hid hx
    clear hx
    go_wp2_with fail
    go_step3
    rename_i hK
    refine hK _ _ ?_
    refine wp_mono ?_ (jumpB_mono (m := s * 5000) (by omega))
    refine hstep (s * 5000) _ _ ?_
    exact ⟨0, B, d, _, (.int .i64 (s : Int)), _, _, _, _, _, _, _, _, _, _, _, _, _, _, _, _, _, _, _, _, _, _, _, _, _, _, _, _, _, Nat.zero_le _, rfl, by simp, rfl, hrd, by simp, Blk.new w _ _, HGG.out.ext HX.out (Nat.le_refl _), HX.out.below (Nat.le_refl _), .inl ⟨rfl, by simp, (HBB.out.ext HX.out (Nat.le_refl _)).more (HX.out.below (Nat.le_refl _)).size, fun h => ((h.resolve_left (Nat.lt_irrefl _)).ext HX.out).upF (HX.out.below (Nat.le_refl _)).size⟩⟩
end Go.Proofs.Ytnmgkchkbchfaaa
