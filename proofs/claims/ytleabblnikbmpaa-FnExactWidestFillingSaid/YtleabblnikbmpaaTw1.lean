/- Ways counted up to a limit; the widest filling; the program's side. -/
import Derived.Test.YtleabblnikbmpaaTm2
import Derived.Test.YtleabblnikbmpaaTx1
import Derived.Test.YtleabblnikbmpaaCnt2
import Derived.Test.YtleabblnikbmpaaDi1
import Derived.Deep.RegionHeld3
import Derived.Lib.Hide
namespace Go.Proofs.Ytleabblnikbmpaa
set_option linter.unusedVariables false
set_option linter.unusedSimpArgs false
open Go.RowKit Go.Sort

theorem addLimited_any (a b : Int) (w : World) (ha : 0 ≤ a ∧ a ≤ 1000000000000001) (hb : 0 ≤ b ∧ b ≤ 1000000000000001) :
    Calls Try.prog 92 #[.int .i64 a, .int .i64 b] w fun e w' => e = .returned (.int .i64 (min (a + b) 1000000000000001)) ∧ w = w' := by
  have hw1 : IntKind.i64.wrap (a + b) = a + b := IntWalk.i64_in _ (by omega)
  go_enter Try.func92, Try.ntmps92
  go_wp2_with fail
  all_goals go_ret
  · exact ⟨congrArg (fun z : Int => Ending.returned (Value.int .i64 z)) (show (1000000000000001 : Int) = min (a + b) 1000000000000001 by omega), rfl⟩
  · exact ⟨congrArg (fun z : Int => Ending.returned (Value.int .i64 z)) (show a + b = min (a + b) 1000000000000001 by omega), rfl⟩
/-- The sum up to a limit. -/
def capS (f : Nat → Int) : Nat → Int
  | 0 => 0
  | k + 1 => min (capS f k + f k) 1000000000000001
set_option maxRecDepth 100000 in
set_option maxHeartbeats 1000000 in
theorem sumOf_any (A : Option Addr) (n c : Nat) (xs : List Int) (w : World) (hn : n ≤ 1048576) (hl : xs.length = n) (hA : IR w w.heap.size A xs) (hc : ∀ k, k < n → 0 ≤ xs.getD k 0 ∧ xs.getD k 0 ≤ 1000000000000001) :
    Calls Try.prog 93 #[.slice A n c, .func (.func 92) #[] #[]] w fun e w' => e = .returned (.int .i64 (capS (fun k => xs.getD k 0) n)) ∧ w = w' := by
  have HA := Lib.hid hA
  have HC := Lib.hid hc
  clear hA hc
  go_enter Try.func93, Try.ntmps93
  go_wp2_with fail
  go_loopw [5, 10] (fun v ii wr => ∃ k : Nat, k ≤ n ∧ ii = .int .i64 k ∧ (∃ s : Int, v = .int .i64 s ∧ s = capS (fun k => xs.getD k 0) k ∧ 0 ≤ s ∧ s ≤ 1000000000000001) ∧ w = wr) (fun _ ii _ => n - (intOf ii).toNat)
  case atStart => exact ⟨0, Nat.zero_le _, rfl, ⟨0, rfl, rfl, by omega, by omega⟩, rfl⟩
  case round =>
    obtain ⟨k, hk, rfl, ⟨s, rfl, hs, hs0, hs1⟩, rfl⟩ := hrel
    have HS := Lib.hid hs
    clear hs
    by_cases hlt : k < n
    · have hlt3 : (k : Int) < (n : Int) := by omega
      obtain ⟨b, off, rfl, -, hcc⟩ := HA.out (by omega)
      have q1 := hcc k (by omega)
      clear hcc
      have hx := HC.out k hlt
      have HX := Lib.hid (show capS (fun k => xs.getD k 0) (k + 1) = min (capS (fun k => xs.getD k 0) k + xs.getD k 0) 1000000000000001 from rfl)
      generalize xs.getD k 0 = x at *
      go_wp2_with fail
      refine (addLimited_any s x _ ⟨hs0, hs1⟩ hx).mono ?_
      rintro e w1 ⟨rfl, rfl⟩
      obtain ⟨t, ht⟩ : ∃ t, t = min (s + x) 1000000000000001 := ⟨_, rfl⟩
      rw [← ht]
      have HT := Lib.hid (show t = capS (fun k => xs.getD k 0) (k + 1) by rw [HX.out, ← HS.out, ht])
      have ht0 : 0 ≤ t ∧ t ≤ 1000000000000001 := by omega
      clear ht
      go_wp2_with fail
      go_roundw
      case rel => exact ⟨k + 1, by omega, by go_num, ⟨t, rfl, HT.out, ht0.1, ht0.2⟩, trivial⟩
      case measure => simp [intOf]; omega
    · obtain rfl : k = n := by omega
      go_wp2_with fail
      go_ret
      exact ⟨by rw [← HS.out]; rfl, rfl⟩

theorem stepE (E : List Tl) (f : Nat → Int) {k : Nat} (hk : k < E.length) {a b : Nat} {x y : Int} (he : E.getD k T0 = ((a : Int), x, (b : Int), y)) : wstep (E.take (k + 1)) f = fun e => if e = b then min (wstep (E.take k) f e + f a) 1000000000000001 else wstep (E.take k) f e := by
  rw [wstep_snoc E f hk, he]
  funext e
  simp [addT]
theorem di_step {W5 : World} {g S y x k : Nat} {E : List Tl} {f : Nat → Int} {p fx : Int} (hp : p = wstep (E.take k) f y) (hfx : fx = f x) (h6 : ∀ v, DI (W5.setCell ⟨g, y, none⟩ (.int .i64 v)) g S (fun z => if z = y then v else wstep (E.take k) f z))
    (hst : wstep (E.take (k + 1)) f = fun e => if e = y then min (wstep (E.take k) f e + f x) 1000000000000001 else wstep (E.take k) f e) :
    DI (W5.setCell ⟨g, y, none⟩ (.int .i64 (min (p + fx) 1000000000000001))) g S (wstep (E.take (k + 1)) f) := by
  rw [hst]
  refine (h6 _).congr fun e _ => ?_
  by_cases h : e = y
  · simp [h, hp, hfx]
  · simp [h]
set_option maxRecDepth 100000 in
set_option maxHeartbeats 60000000 in
theorem withColumnMore_any (C : Nat) (A : Option Addr) (n c : Nat) (R : Option Addr) (N q : Nat) (S : Nat) (EA : Option Addr) (qe : Nat) (E : List Tl) (FA : Option Addr) (qf : Nat) (f : Nat → Int) (w : World) (hN : N ≤ 1048576) (hS : S ≤ 1048576) (hl : E.length = N) (hE : TR w w.heap.size EA E) (hc : colOk S E) (hf : Cap f) (hF : IR w w.heap.size FA (listD S f)) :
    Calls Try.prog 90 #[.agg #[.int .i64 (C : Int), .slice A n c, .slice R N q, .int .i64 (S : Int), .slice EA N qe], .slice FA S qf, .func (.func 92) #[] #[]] w fun e w' => ∃ g, e = .returned (.slice (some ⟨g, 0, none⟩) S S) ∧ Below w.heap.size w w' ∧ w.heap.size ≤ g ∧ DI w' g S (wstep E f) := by
  obtain ⟨i0, hi, hz0, hz1, hz2⟩ := info_parts info_int
  have hmk := fun W => run_make_rowN (P := Try.prog) 42 2 i0 _ (by kernel_rfl) hi hz0 .i64 .i64 S S (Nat.le_refl _) (by rw [hz2]; omega) (by omega) W
  rw [hz1] at hmk
  have hmi := made_ints S
  generalize hcs : madeCells (Value.cells (.int .i64 0)) (S * 1) = cs0 at hmk hmi
  have hcz : cs0.size = S := by rw [← hcs]; simp [size_madeCells]
  have HF0 := Lib.hid (And.intro hcz hmi)
  clear hcs hi hz0 hz1 hz2 hcz hmi
  have HE := Lib.hid hE
  have HC := Lib.hid hc
  have HF := Lib.hid hF
  have HCP := Lib.hid (fun k => wstep_cap hf (E.take k))
  have HCF := Lib.hid hf
  have HW := Lib.hid (fun k (hk : k < E.length) (a b : Nat) (x y : Int) (he : E.getD k T0 = ((a : Int), x, (b : Int), y)) => stepE E f hk he)
  clear hE hc hF hf
  go_enter Try.func90, Try.ntmps90
  go_wp2_with fail
  obtain ⟨W0, hW0⟩ : ∃ W0, (w.alloc (Obj.cells #[.int .i64 (C : Int), .slice A n c, .slice R N q, .int .i64 (S : Int), .slice EA N qe] 55)).alloc (Obj.cells cs0 2) = W0 := ⟨_, rfl⟩
  have hx0 : Ext w W0 := by rw [← hW0]; exact ((Ext.refl w).alloc _).alloc _
  have hB0 : Blk W0 w.heap.size 55 #[.int .i64 (C : Int), .slice A n c, .slice R N q, .int .i64 (S : Int), .slice EA N qe] := by
    rw [← hW0]
    exact (Blk.new w _ _).ext ((Ext.refl _).alloc _)
  have hd0 : DI W0 (w.heap.size + 1) S (fun _ => 0) := by
    rw [← hW0]
    have := Blk.new (w.alloc (Obj.cells #[.int .i64 (C : Int), .slice A n c, .slice R N q, .int .i64 (S : Int), .slice EA N qe] 55)) 2 cs0
    rw [World.size_alloc] at this
    exact ⟨cs0, this, HF0.out.1, HF0.out.2⟩
  have hsz0 : W0.heap.size = w.heap.size + 2 := by rw [← hW0]; simp
  have H0 := Lib.hid (hx0.below (Nat.le_refl w.heap.size))
  have HD0 := Lib.hid hd0
  have HSZ := Lib.hid hsz0
  have r4 := hB0.rd 4 (v := .slice EA N qe) rfl
  rw [hW0]
  clear hx0 hd0 hB0 hW0 hmk hsz0
  go_wp2_with fail
  go_loopw [17] (fun ii wr => ∃ k : Nat, k ≤ N ∧ ii = .int .i64 k ∧ DI wr (w.heap.size + 1) S (wstep (E.take k) f) ∧ Below (w.heap.size + 1) W0 wr) (fun ii _ => N - (intOf ii).toNat)
  case atStart => exact ⟨0, Nat.zero_le _, rfl, by rw [List.take_zero]; exact HD0.out, Below.refl _ _⟩
  case round =>
    obtain ⟨k, hk, rfl, hd, hb⟩ := hrel
    have HD := Lib.hid hd
    have HB := Lib.hid hb
    have hszr : w.heap.size + 2 ≤ wr.heap.size := by have := hb.size; have := HSZ.out; omega
    have HBW := Lib.hid (H0.out.trans (hb.mono (Nat.le_succ _)))
    clear hd hb
    by_cases hlt : k < N
    · as_aux_lemma =>
        have hlt3 : (k : Int) < (N : Int) := by omega
        obtain ⟨b, o, rfl, hbb, ht⟩ := (HE.out.below HBW.out (Nat.le_refl _)) (by omega)
        replace ht := ht k (by omega)
        obtain ⟨x, y, ex, hx, ey, hy⟩ := HC.out k (by omega)
        have HTK := Lib.hid (HW.out k (by omega))
        generalize E.getD k T0 = ed at *
        obtain ⟨d0, d1, d2, d3⟩ := ed
        simp only at ex ey
        subst ex ey
        have HST := Lib.hid (HTK.out x y d1 d3 rfl)
        obtain ⟨c0', c1', c2', c3'⟩ := ht
        simp only at c0' c1' c2' c3'
        have hcx := HCP.out k y
        have hfx := HCF.out x
        go_wp2_with fail
        have hbT : Blk (wr.alloc (Obj.cells #[.int .i64 (x : Int), .int .i64 d1, .int .i64 (y : Int), .int .i64 d3] 69)) wr.heap.size 69 #[.int .i64 (x : Int), .int .i64 d1, .int .i64 (y : Int), .int .i64 d3] := Blk.new wr _ _
        have hx5 := (Ext.refl wr).alloc (Obj.cells #[.int .i64 (x : Int), .int .i64 d1, .int .i64 (y : Int), .int .i64 d3] 69)
        generalize wr.alloc (Obj.cells #[.int .i64 (x : Int), .int .i64 d1, .int .i64 (y : Int), .int .i64 d3] 69) = W5 at *
        have y0 := hbT.rd 0 rfl
        have y2 := hbT.rd 2 rfl
        have hb5 := hx5.below (Nat.le_refl wr.heap.size)
        have D5 := Lib.hid (HD.out.ext hx5)
        have B5 := Lib.hid (HB.out.trans (hb5.mono (by omega)))
        obtain ⟨bf, of, rfl, hbf, hcf⟩ := (HF.out.below (HBW.out.trans (hb5.mono (by omega))) (Nat.le_refl _)) (by rw [listD_len]; omega)
        have q1 := hcf x (by rw [listD_len]; exact hx)
        rw [listD_get S f hx] at q1
        clear hcf
        obtain ⟨q3, z3⟩ := D5.out.at_ hy
        have hx3 : (x : Int) < (S : Int) := by omega
        have hy3 : (y : Int) < (S : Int) := by omega
        have HAD := Lib.hid (fun W => addLimited_any (wstep (E.take k) f y) (f x) W hcx hfx)
        have HD6 := Lib.hid (fun v => (D5.out.ext ((Ext.refl W5).drew)).set_ hy v)
        obtain ⟨p, hp⟩ : ∃ p, p = wstep (E.take k) f y := ⟨_, rfl⟩
        obtain ⟨fx, hfx'⟩ : ∃ fx, fx = f x := ⟨_, rfl⟩
        rw [← hp] at q3 HAD hcx
        rw [← hfx'] at q1 HAD hfx
        have HP := Lib.hid hp
        have HFX := Lib.hid hfx'
        clear hp hfx'
        clear hbT hx5 hb5 c0' c1' c2' c3'
        go_region_law (go_simp; go_at_call 92; (with_reducible refine (HAD.out _).mono ?_); rintro e w6 ⟨rfl, rfl⟩)
        all_goals
          have H6 := Lib.hid (And.intro (di_step HP.out HFX.out HD6.out HST.out) (B5.out.drew.setCell (p := ⟨w.heap.size + 1, y, none⟩) (Nat.le_refl _) (.int .i64 (min (p + fx) 1000000000000001))))
          go_wp2_with fail
          go_roundw
          case rel => first | exact ⟨k + 1, by omega, by go_num, H6.out.1, H6.out.2⟩ | exact ⟨k + 1, by omega, by go_num, by simpa using H6.out.1, by simpa using H6.out.2⟩ | ((repeat apply Exists.intro); exact ⟨⟨k + 1, by omega, by go_num, H6.out.1, H6.out.2⟩, rfl⟩)
          case measure => simp [intOf]; omega
    · obtain rfl : k = N := by omega
      have HDF := Lib.hid (show DI wr (w.heap.size + 1) S (wstep E f) by have := HD.out; rwa [List.take_of_length_le (by omega)] at this)
      go_wp2_with fail
      go_ret
      exact ⟨_, rfl, HBW.out, Nat.le_succ _, HDF.out⟩
end Go.Proofs.Ytleabblnikbmpaa
