/- A range over a function whose rounds all go on, write memory that the iterator reads, and are handed what Px says. -/
import Derived.RangeFuncNested
import Derived.RangeFuncCalls
import Derived.RangeFuncLeaves
import Derived.RangeFuncWrites
import Derived.RangeFuncBox
import Derived.Shelf.Abstract
import Derived.Shelf.RegionOpen
import Derived.WalkKit
import Derived.OwnWalkIn
import Derived.TacticsInMore
import Derived.LoopNIn
import Derived.LoopIn
namespace Go.Proofs.Ytleabblnikbmpaa
set_option linter.unusedVariables false
set_option linter.unusedSimpArgs false
open Go.RowKit Go.Shelf

/-- An iterator that asks for N rounds, each of which goes on; what it hands to round k is as Px says, it wants the blocks of p kept by each round, and whatever it reads besides is there as Rd says. -/
def SeqAllR {α : Type} (m : Nat) (P : Program) (g : Nat) (lb : Array Value) (encs : α → Array Value) (Px : Nat → α → World → Prop) (p : Nat → Prop) (N : Nat) (Rd : World → Prop) (w : World) : Prop :=
  ∀ (l : Nat) (J : Nat → World → Prop) (W : World), Below w.heap.size w W → (∀ k X Y, J k X → X.grownBy Y none → J k Y) → (∀ k X, J k X → Rd X) →
    (∀ k x X, k < N → J k X → Px k x X → YieldAt Fence.wide (m - 1) P l (encs x) X fun e Y => e = .returned (.bool true) ∧ J (k + 1) Y ∧ X.heap.size ≤ Y.heap.size ∧ ∀ b, p b → Y.heap[b]? = X.heap[b]?) →
    J 0 W → CallsIn Fence.wide m P g (#[.func (.yield l) #[] #[]] ++ lb) W fun e Y => (∃ v, e = .returned v) ∧ J N Y

/-- How a round must be left that goes on. -/
def goesOnR (B : Nat) (p : Nat → Prop) (I : World → Prop) (W : World) : Exit → Act → World → Prop
  | .normal, _, W' => KeepsFrom B W W' ∧ (∀ b, p b → W'.heap[b]? = W.heap[b]?) ∧ I W'
  | _, _, _ => False

theorem rangeAllR {P : Program} {α : Type} {g : Operand} {ps : Array Tmp} {assign body : Code} {Q : Exit → Act → World → Prop} {a : Act} {w : World} {n : Nat} (h1 : 1 ≤ n) {gf : Nat} {lb : Array Value}
    (hg : a.eval g = .func (.func gf) #[] lb) (eg : ∀ args w, (callFunc gf args).run P w = .ok (.enter gf args) w)
    {encs : α → Array Value} {Px : Nat → α → World → Prop} {p : Nat → Prop} {N : Nat} {Rd : World → Prop} (hseq : SeqAllR (n - 1) P gf lb encs Px p N Rd w) (hp : ∀ b, p b → b < w.heap.size) (hps : ∀ x, (encs x).size = ps.size)
    (I : Nat → World → Prop) (hI : OwnFrom w.heap.size I) (hRd : ∀ k W, I k W → Rd W) (Mid : Nat → α → Act → World → Prop) (hM : ∀ k x a', OwnFrom w.heap.size fun (_ : Unit) W => Mid k x a' W) (h0 : I 0 w)
    (hassign : ∀ (l k : Nat) (x : α) (W : World) (K : Act → World → Prop), k < N → I k W → Px k x W → (∀ a' W', Mid k x a' W' → KeepsFrom w.heap.size W W' → (∀ b, p b → W'.heap[b]? = W.heap[b]?) → K a' W') →
      assign.wpIn (Fence.wide.inRound l) (n - 1 - 1) P (Exit.then K (fun _ _ _ => False)) { tmps := (ps.zip (encs x)).foldl (fun t (q, v) => t.setIfInBounds q v) a.tmps, defers := [] } W)
    (hbody : ∀ (l k : Nat) (x : α) (a' : Act) (W : World), k < N → Mid k x a' W → body.wpIn (Fence.wide.inRound l) (n - 1 - 1) P (goesOnR w.heap.size p (I (k + 1)) W) a' W)
    (hdone : ∀ (D : Nat) (W : World), w.heap.size ≤ D → I N W → W.heap[D]? = some (.deferred (some [])) → Q .normal { a with defers := { target := .collected D, args := #[] } :: a.defers } W) :
    (Code.rangeFunc g ps assign body).wpIn Fence.wide n P Q a w := by
  refine wpIn_rangeFunc fun fn hfn => ?_
  obtain ⟨R, hR⟩ : ∃ R : LoopState → Loop, R = fun st => { state := st, pending := none, fn := fn, tmps := a.tmps, params := ps, assign := assign, body := body, defers := w.heap.size } := ⟨_, rfl⟩
  let d := w.heap.size
  let V := (w.alloc (.deferred (some []))).alloc (.loop (R .ready))
  have hVl : V.heap[d + 1]? = some (.loop (R .ready)) := by
    have := World.alloc_heap_new (w.alloc (.deferred (some []))) (.loop (R .ready))
    rwa [World.size_alloc] at this
  have hVd : V.heap[d]? = some (.deferred (some [])) := (Below.heap_alloc _ _ _ (by simp [d])).trans (World.alloc_heap_new w _)
  have hVb : Below w.heap.size w V := ((Below.refl _ w).alloc (Nat.le_refl _) _).alloc (by simp) _
  have hV0 : I 0 V := hI.alloc _ (hI.alloc _ h0)
  refine ⟨d + 1, [{ target := .collected d, args := #[] }], V, { target := .fn (.func gf) lb, args := #[.func (.yield (d + 1)) #[] #[]] }, V, gf, #[.func (.yield (d + 1)) #[] #[]] ++ lb, V, ?_, ?_, fun _ _ => trivial, ?_, fun _ => h1, ?_⟩
  · simp only [V, d, hR]
    exact run_enterLoop_outer _ _ _ _ _
  · simp only [resolve, hg]
    simp [go_sem]
  · simp [invoke, go_sem, eg]
  · let J : Nat → World → Prop := fun k W => I k W ∧ W.heap[d + 1]? = some (.loop (R .ready)) ∧ W.heap[d]? = some (.deferred (some []))
    refine (hseq (d + 1) J V hVb (fun k X Y hJ hgr => ⟨hI k X Y none hJ.1 hgr (fun r e => by cases e), ?_, ?_⟩) (fun k X hJ => hRd k X hJ.1) (fun k x X hk hJ hx => ?_) ⟨hV0, hVl, hVd⟩).mono ?_
    · exact (hgr.block _ (Array.getElem?_eq_some_iff.1 hJ.2.1).1 (fun e => by cases e)).trans hJ.2.1
    · exact (hgr.block _ (Array.getElem?_eq_some_iff.1 hJ.2.2).1 (fun e => by cases e)).trans hJ.2.2
    · obtain ⟨hi, hl, hd⟩ := hJ
      have hlt : d + 1 < X.heap.size := (Array.getElem?_eq_some_iff.1 hl).1
      have hy := run_yield (P := P) (args := encs x) hl (by rw [hR]; exact hps x)
      rw [hR] at hy
      refine ⟨fn, _, assign, body, hy, roundIn_of_wpIn hfn (hassign _ k x X _ hk hi hx fun a' Y hm hky hpy => ?_)⟩
      have hly := hky.same _ _ (by omega) hl rfl
      have hdy := hky.same _ _ (Nat.le_refl _) hd rfl
      have hlty : d + 1 < Y.heap.size := (Array.getElem?_eq_some_iff.1 hly).1
      refine ⟨_, run_beginRound (P := P) hly (by rw [hR]), ?_⟩
      have hbz : ({ R .ready with state := LoopState.busy } : Loop) = R .busy := by rw [hR]
      rw [hbz]
      have hl2 : (Y.putObj (d + 1) (.loop (R .busy))).heap[d + 1]? = some (.loop (R .busy)) := World.putObj_heap_same hlty
      have hd2 : (Y.putObj (d + 1) (.loop (R .busy))).heap[d]? = some (.deferred (some [])) := (World.putObj_heap_other (by omega)).trans hdy
      refine wpIn_mono (hbody _ k x a' _ hk ((hM k x a').putObj (s := ()) _ hm (by omega) hly rfl)) ?_
      rintro e a3 W3 hpost
      cases e with
      | normal =>
        obtain ⟨hk3, hkp, hi3⟩ := hpost
        have hl3 := hk3.same _ _ (by omega) hl2 rfl
        have hd3 := hk3.same _ _ (Nat.le_refl _) hd2 rfl
        have hend := run_endRound (P := P) none hl3
        have hrz : ({ R .busy with state := if (none : Option Code).isNone then LoopState.ready else LoopState.done, pending := none } : Loop) = R .ready := by rw [hR]; rfl
        rw [hrz] at hend
        refine ⟨_, _, hend, rfl, ⟨hI.putObj _ hi3 (by omega) hl3 rfl, World.putObj_heap_same (Array.getElem?_eq_some_iff.1 hl3).1, (World.putObj_heap_other (by omega)).trans hd3⟩, ?_, fun b hb => ?_⟩
        · have h1 := hk3.size
          have h2 := hky.size
          simp at h1 ⊢
          omega
        · have hlb := hp b hb
          exact (World.putObj_heap_other (by omega)).trans ((hkp b hb).trans ((World.putObj_heap_other (by omega)).trans (hpy b hb)))
      | _ => exact hpost.elim
    · rintro e Y ⟨⟨v, rfl⟩, hi, hl, hd⟩
      have hend := run_endLoop (P := P) hl (by rw [hR]; simp)
      have hpn : (R .ready).pending = none := by rw [hR]
      rw [hpn] at hend
      exact ⟨none, _, hend, hdone d _ (Nat.le_refl _) (hI.putObj _ hi (by omega) hl rfl) ((World.putObj_heap_other (by omega)).trans hd)⟩

end Go.Proofs.Ytleabblnikbmpaa
