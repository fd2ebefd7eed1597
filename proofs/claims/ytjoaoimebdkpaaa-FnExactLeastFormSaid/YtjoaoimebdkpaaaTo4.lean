/- A range over a function whose rounds all go on and are handed memory; the iterator over the shifts. -/
import Derived.RangeFuncNested
import Derived.RangeFuncCalls
import Derived.RangeFuncLeaves
import Derived.RangeFuncWrites
import Derived.RangeFuncBox
import Derived.Shelf.Abstract
import Derived.Shelf.RegionOpen
import Derived.WalkKit
import Derived.OwnWalkIn
import Derived.TacticsInMore
import Derived.LoopNIn
import Derived.LoopIn
import Derived.Test.YtjoaoimebdkpaaaSh1
namespace Go.Proofs.Ytjoaoimebdkpaaa
set_option linter.unusedVariables false
set_option linter.unusedSimpArgs false
open Go.RowKit Go.Shelf

attribute [local go_sem] Oper.semAt_some

/-- An iterator that asks for N rounds, each of which goes on; what it hands to round k is as Px says, and it wants the blocks of p kept by each round. -/
def SeqAll {α : Type} (m : Nat) (P : Program) (g : Nat) (lb : Array Value) (encs : α → Array Value) (Px : Nat → α → World → Prop) (p : Nat → Prop) (N : Nat) (w : World) : Prop :=
  ∀ (l : Nat) (J : Nat → World → Prop) (W : World), Below w.heap.size w W → (∀ k X Y, J k X → X.grownBy Y none → J k Y) →
    (∀ k x X, k < N → J k X → Px k x X → YieldAt Fence.wide (m - 1) P l (encs x) X fun e Y => e = .returned (.bool true) ∧ J (k + 1) Y ∧ X.heap.size ≤ Y.heap.size ∧ ∀ b, p b → Y.heap[b]? = X.heap[b]?) →
    J 0 W → CallsIn Fence.wide m P g (#[.func (.yield l) #[] #[]] ++ lb) W fun e Y => (∃ v, e = .returned v) ∧ J N Y

/-- How a round must be left that goes on. -/
def goesOn (B : Nat) (p : Nat → Prop) (I : World → Prop) (W : World) : Exit → Act → World → Prop
  | .normal, _, W' => KeepsFrom B W W' ∧ (∀ b, p b → W'.heap[b]? = W.heap[b]?) ∧ I W'
  | _, _, _ => False

theorem rangeAll {P : Program} {α : Type} {g : Operand} {ps : Array Tmp} {assign body : Code} {Q : Exit → Act → World → Prop} {a : Act} {w : World} {n : Nat} (h1 : 1 ≤ n) {gf : Nat} {lb : Array Value}
    (hg : a.eval g = .func (.func gf) #[] lb) (eg : ∀ args w, (callFunc gf args).run P w = .ok (.enter gf args) w)
    {encs : α → Array Value} {Px : Nat → α → World → Prop} {p : Nat → Prop} {N : Nat} (hseq : SeqAll (n - 1) P gf lb encs Px p N w) (hp : ∀ b, p b → b < w.heap.size) (hps : ∀ x, (encs x).size = ps.size)
    (I : Nat → World → Prop) (hI : OwnFrom w.heap.size I) (Mid : Nat → α → Act → World → Prop) (hM : ∀ k x a', OwnFrom w.heap.size fun (_ : Unit) W => Mid k x a' W) (h0 : I 0 w)
    (hassign : ∀ (l k : Nat) (x : α) (W : World) (K : Act → World → Prop), k < N → I k W → Px k x W → (∀ a' W', Mid k x a' W' → KeepsFrom w.heap.size W W' → (∀ b, p b → W'.heap[b]? = W.heap[b]?) → K a' W') →
      assign.wpIn (Fence.wide.inRound l) (n - 1 - 1) P (Exit.then K (fun _ _ _ => False)) { tmps := (ps.zip (encs x)).foldl (fun t (q, v) => t.setIfInBounds q v) a.tmps, defers := [] } W)
    (hbody : ∀ (l k : Nat) (x : α) (a' : Act) (W : World), k < N → Mid k x a' W → body.wpIn (Fence.wide.inRound l) (n - 1 - 1) P (goesOn w.heap.size p (I (k + 1)) W) a' W)
    (hdone : ∀ (D : Nat) (W : World), w.heap.size ≤ D → I N W → W.heap[D]? = some (.deferred (some [])) → Q .normal { a with defers := { target := .collected D, args := #[] } :: a.defers } W) :
    (Code.rangeFunc g ps assign body).wpIn Fence.wide n P Q a w := by
  refine wpIn_rangeFunc fun fn hfn => ?_
  obtain ⟨R, hR⟩ : ∃ R : LoopState → Loop, R = fun st => { state := st, pending := none, fn := fn, tmps := a.tmps, params := ps, assign := assign, body := body, defers := w.heap.size } := ⟨_, rfl⟩
  let d := w.heap.size
  let V := (w.alloc (.deferred (some []))).alloc (.loop (R .ready))
  have hVl : V.heap[d + 1]? = some (.loop (R .ready)) := by
    have := World.alloc_heap_new (w.alloc (.deferred (some []))) (.loop (R .ready))
    rwa [World.size_alloc] at this
  have hVd : V.heap[d]? = some (.deferred (some [])) := (Below.heap_alloc _ _ _ (by simp [d])).trans (World.alloc_heap_new w _)
  have hVb : Below w.heap.size w V := ((Below.refl _ w).alloc (Nat.le_refl _) _).alloc (by simp) _
  have hV0 : I 0 V := hI.alloc _ (hI.alloc _ h0)
  refine ⟨d + 1, [{ target := .collected d, args := #[] }], V, { target := .fn (.func gf) lb, args := #[.func (.yield (d + 1)) #[] #[]] }, V, gf, #[.func (.yield (d + 1)) #[] #[]] ++ lb, V, ?_, ?_, fun _ _ => trivial, ?_, fun _ => h1, ?_⟩
  · simp only [V, d, hR]
    exact run_enterLoop_outer _ _ _ _ _
  · simp only [resolve, hg]
    simp [go_sem]
  · simp [invoke, go_sem, eg]
  · let J : Nat → World → Prop := fun k W => I k W ∧ W.heap[d + 1]? = some (.loop (R .ready)) ∧ W.heap[d]? = some (.deferred (some []))
    refine (hseq (d + 1) J V hVb (fun k X Y hJ hgr => ⟨hI k X Y none hJ.1 hgr (fun r e => by cases e), ?_, ?_⟩) (fun k x X hk hJ hx => ?_) ⟨hV0, hVl, hVd⟩).mono ?_
    · exact (hgr.block _ (Array.getElem?_eq_some_iff.1 hJ.2.1).1 (fun e => by cases e)).trans hJ.2.1
    · exact (hgr.block _ (Array.getElem?_eq_some_iff.1 hJ.2.2).1 (fun e => by cases e)).trans hJ.2.2
    · obtain ⟨hi, hl, hd⟩ := hJ
      have hlt : d + 1 < X.heap.size := (Array.getElem?_eq_some_iff.1 hl).1
      have hy := run_yield (P := P) (args := encs x) hl (by rw [hR]; exact hps x)
      rw [hR] at hy
      refine ⟨fn, _, assign, body, hy, roundIn_of_wpIn hfn (hassign _ k x X _ hk hi hx fun a' Y hm hky hpy => ?_)⟩
      have hly := hky.same _ _ (by omega) hl rfl
      have hdy := hky.same _ _ (Nat.le_refl _) hd rfl
      have hlty : d + 1 < Y.heap.size := (Array.getElem?_eq_some_iff.1 hly).1
      refine ⟨_, run_beginRound (P := P) hly (by rw [hR]), ?_⟩
      have hbz : ({ R .ready with state := LoopState.busy } : Loop) = R .busy := by rw [hR]
      rw [hbz]
      have hl2 : (Y.putObj (d + 1) (.loop (R .busy))).heap[d + 1]? = some (.loop (R .busy)) := World.putObj_heap_same hlty
      have hd2 : (Y.putObj (d + 1) (.loop (R .busy))).heap[d]? = some (.deferred (some [])) := (World.putObj_heap_other (by omega)).trans hdy
      refine wpIn_mono (hbody _ k x a' _ hk ((hM k x a').putObj (s := ()) _ hm (by omega) hly rfl)) ?_
      rintro e a3 W3 hpost
      cases e with
      | normal =>
        obtain ⟨hk3, hkp, hi3⟩ := hpost
        have hl3 := hk3.same _ _ (by omega) hl2 rfl
        have hd3 := hk3.same _ _ (Nat.le_refl _) hd2 rfl
        have hend := run_endRound (P := P) none hl3
        have hrz : ({ R .busy with state := if (none : Option Code).isNone then LoopState.ready else LoopState.done, pending := none } : Loop) = R .ready := by rw [hR]; rfl
        rw [hrz] at hend
        refine ⟨_, _, hend, rfl, ⟨hI.putObj _ hi3 (by omega) hl3 rfl, World.putObj_heap_same (Array.getElem?_eq_some_iff.1 hl3).1, (World.putObj_heap_other (by omega)).trans hd3⟩, ?_, fun b hb => ?_⟩
        · have h1 := hk3.size
          have h2 := hky.size
          simp at h1 ⊢
          omega
        · have hlb := hp b hb
          exact (World.putObj_heap_other (by omega)).trans ((hkp b hb).trans ((World.putObj_heap_other (by omega)).trans (hpy b hb)))
      | _ => exact hpost.elim
    · rintro e Y ⟨⟨v, rfl⟩, hi, hl, hd⟩
      have hend := run_endLoop (P := P) hl (by rw [hR]; simp)
      have hpn : (R .ready).pending = none := by rw [hR]
      rw [hpn] at hend
      exact ⟨none, _, hend, hdone d _ (Nat.le_refl _) (hI.putObj _ hi (by omega) hl rfl) ((World.putObj_heap_other (by omega)).trans hd)⟩

theorem grown_of_below {w w' : World} (h : Below w.heap.size w w') : w.grownBy w' none := ⟨h.os, h.tape, h.output, h.size, fun k hk _ => h.block k hk⟩
/-- What the shifts' iterator hands to a round: the numbers and the shifted rows. -/
structure Sh where
  a : Nat
  b : Nat
  A : Option Addr
  cap : Nat
def Sh.enc (m : Nat) (x : Sh) : Array Value := #[.agg #[.int .i64 (x.a : Int), .int .i64 (x.b : Int)], .slice x.A m x.cap]
def ShIs (lo m wd : Nat) (rs : List (List Int)) (k : Nat) (x : Sh) (W : World) : Prop := x.a * wd + x.b = k ∧ x.a < m ∧ x.b < wd ∧ IWW W lo W.heap.size x.A (shR x.a x.b rs)
/-- Below block n, or block b. -/
def LowOr (n b k : Nat) : Prop := k < n ∨ k = b
theorem irr_low {W X : World} {n b : Nat} {B : Option Addr} {rs : List (List Int)} (h : IRR W n B rs) (hk : ∀ k, LowOr n b k → X.heap[k]? = W.heap[k]?) : IRR X n B rs := h.keep fun c hc i => World.cell?_of_block (hk c (.inl hc))

set_option maxRecDepth 100000 in
set_option maxHeartbeats 4000000 in
theorem shifts_in (mm n₀ Bt : Nat) (B : Option Addr) (m d wd : Nat) (rs : List (List Int)) (w : World) (h1 : 1 ≤ mm) (hm : 1 ≤ m ∧ m ≤ 8) (hmd : m ≤ d) (hw : 1 ≤ wd ∧ wd ≤ 8) (hlr : rs.length = m) (hwd : ∀ k, k < m → (rs.getD k []).length = wd)
    (hn : n₀ ≤ w.heap.size) (hbt : Blk w Bt 25 #[.slice B m d]) (hB : IRR w n₀ B rs) :
    SeqAll mm Try.prog 162 #[.pointer (some ⟨Bt, 0, none⟩)] (Sh.enc m) (ShIs w.heap.size m wd rs) (LowOr n₀ Bt) (m * wd) w := fun l J W hWb hJ hY h0 => by
  obtain ⟨hm1, hm8⟩ := hm
  obtain ⟨hw1, hw8⟩ := hw
  have hsW := hWb.size
  have HBT := Lib.hid (hbt.below hWb hbt.lt)
  have HIR := Lib.hid (hB.below hWb hn)
  have hltb := hbt.lt
  have HYY := Lib.hid hY
  have HJJ := Lib.hid hJ
  have mixed : Try.prog.follows .mixedOrders = true := by kernel_rfl
  obtain ⟨b0, o, hBe, hb0, hcr⟩ := (hB.below hWb hn) (by omega)
  subst hBe
  obtain ⟨Q0, q0, hcQ0, -, -⟩ := hcr 0 (by omega)
  rw [hwd 0 (by omega), Nat.add_zero] at hcQ0
  have hmi : (0 : Int) < (m : Int) := by omega
  have hmn : 0 < m := by omega
  have HWD := Lib.hid hwd
  clear hY hJ hcr hB hwd
  refine callsIn_of_wp Try.func162 rfl trivial ?_ rfl
  simp only [Try.ntmps162, List.size_toArray, List.length_cons, List.length_nil, Nat.reduceAdd, Nat.reduceSub, Array.replicate_succ, Array.replicate_zero, List.push_toArray, List.append_toArray, List.nil_append, List.cons_append]
  have q0 := HBT.out.rd 0 rfl
  gi_wp2
  gi_loopw [7] (fun i' wr => ∃ a : Nat, a ≤ m ∧ i' = .int .i64 a ∧ J (a * wd) wr ∧ W.heap.size ≤ wr.heap.size ∧ ∀ k, LowOr n₀ Bt k → wr.heap[k]? = W.heap[k]?) (fun i' _ => m - (intOf i').toNat)
  case atStart => exact ⟨0, Nat.zero_le _, rfl, by rw [Nat.zero_mul]; exact h0, Nat.le_refl _, fun _ _ => rfl⟩
  case round =>
    obtain ⟨a, ha, rfl, hJs, hsz, hkp⟩ := hrel
    by_cases hlt : a < m
    · have q1 := (show Blk wr Bt 25 #[.slice (some ⟨b0, o, none⟩) m d] from (hkp Bt (.inr rfl)).trans HBT.out).rd 0 rfl
      have q2 := (World.cell?_of_block (a := ⟨b0, o, none⟩) (hkp b0 (.inl hb0))).trans hcQ0
      have HK := Lib.hid hkp
      obtain ⟨wo, rfl⟩ : ∃ wo : World, wo = wr := ⟨_, rfl⟩
      clear hkp
      gi_wp2
      clear q1 q2
      gi_loopw [14] (fun i' wr => ∃ b : Nat, b ≤ wd ∧ i' = .int .i64 b ∧ J (a * wd + b) wr ∧ W.heap.size ≤ wr.heap.size ∧ ∀ k, LowOr n₀ Bt k → wr.heap[k]? = W.heap[k]?) (fun i' _ => wd - (intOf i').toNat)
      case atStart => exact ⟨0, Nat.zero_le _, rfl, hJs, hsz, HK.out⟩
      case round =>
        clear hJs hsz
        obtain ⟨b, hb, rfl, hJs, hsz, hkp⟩ := hrel
        by_cases hltb2 : b < wd
        · have hbk : Blk wr Bt 25 #[.slice (some ⟨b0, o, none⟩) m d] := (hkp Bt (.inr rfl)).trans HBT.out
          have hir : IRR wr n₀ (some ⟨b0, o, none⟩) rs := irr_low HIR.out hkp
          have q1 := hbk.rd 0 rfl
          have HBK := Lib.hid hbk
          have HIW := Lib.hid hir
          have HK2 := Lib.hid hkp
          clear hbk hir hkp
          have hab : a * wd + b < m * wd := by
            have := Nat.mul_le_mul_right wd (show a + 1 ≤ m from hlt)
            rw [Nat.succ_mul] at this
            omega
          gi_wp2
          gi_region_with_o (first
            | (refine ⟨trivial, ?_⟩
               gi_at_call 68
               refine (callsIn_wide.2 (shiftBy_any (a : Int) (b : Int) _)).mono ?_
               rintro e w2 ⟨rfl, hw2⟩
               have hx2 : Ext wr w2 := by rw [hw2]; exact ((Ext.refl wr).drew.alloc _).alloc _
               have hga : Blk w2 wr.heap.size 2 #[.int .i64 (a : Int)] := by rw [hw2]; exact (Blk.new wr.drew 2 #[.int .i64 (a : Int)]).ext ((Ext.refl _).alloc _)
               have hgb : Blk w2 (wr.heap.size + 1) 2 #[.int .i64 (b : Int)] := by rw [hw2]; have := Blk.new (wr.drew.alloc (.cells #[.int .i64 (a : Int)] 2)) 2 #[.int .i64 (b : Int)]; simpa using this
               have q3 := (HBK.out.ext hx2).rd 0 rfl
               clear hw2)
            | (refine ⟨trivial, ?_⟩
               gi_at_call 119
               refine (callsIn_wide.2 (shiftBy1_any _ m d rs wd a b wr.heap.size (wr.heap.size + 1) w2 ⟨hm1, hm8⟩ hmd ⟨hw1, hw8⟩ hlr HWD.out ((HIW.out.ext hx2 (by omega)).more (by have := (hx2.below (Nat.le_refl _)).size; omega)) hlt hltb2 hga hgb)).mono ?_
               rintro e w4 ⟨A4, cap4, rfl, hiw, hb4⟩
               have hx4 := (hx2.below (Nat.le_refl _)).trans (hb4.mono (hx2.below (Nat.le_refl _)).size)
               obtain ⟨fn, tmps, assign, body, hy, hR⟩ := HYY.out (a * wd + b) ⟨a, b, A4, cap4⟩ w4 hab (HJJ.out _ _ _ hJs (grown_of_below hx4)) ⟨rfl, hlt, hltb2, hiw.lo_ (by have := (hx2.below (Nat.le_refl _)).size; omega)⟩
               dsimp only [Sh.enc] at hy)
            | (refine hR.mono ?_
               rintro e w5 ⟨rfl, hJ5, hs5, hk5⟩))
          all_goals
            have hs4 := hx4.size
            have HK5 := Lib.hid (show ∀ k, LowOr n₀ Bt k → w5.heap[k]? = W.heap[k]? from fun k hk => (hk5 k hk).trans ((hx4.block k (by rcases hk with h | h <;> omega)).trans (HK2.out k hk)))
            have HJ5 := Lib.hid hJ5
            clear hJ5 hk5 hx4 hb4 hiw hy hR hx2 hga hgb
            gi_wp2
            go_roundw
            case rel => first | exact ⟨b + 1, by omega, by go_num, HJ5.out, by omega, HK5.out⟩ | ((repeat apply Exists.intro); exact ⟨⟨b + 1, by omega, by go_num, HJ5.out, by omega, HK5.out⟩, rfl⟩)
            case measure => simp [intOf]; omega
        · obtain rfl : b = wd := by omega
          have HKP := Lib.hid hkp
          have HJS := Lib.hid (show J ((a + 1) * b) wr by rw [Nat.succ_mul]; exact hJs)
          clear hkp hJs
          gi_wp2
          go_roundw
          case rel => first | exact ⟨a + 1, by omega, by go_num, HJS.out, by omega, HKP.out⟩ | ((repeat apply Exists.intro); exact ⟨⟨a + 1, by omega, by go_num, HJS.out, by omega, HKP.out⟩, rfl⟩)
          case measure => simp [intOf]; omega
    · obtain rfl : a = m := by omega
      gi_wp2
      go_end0
      exact ⟨⟨_, rfl⟩, hJs⟩
end Go.Proofs.Ytjoaoimebdkpaaa
