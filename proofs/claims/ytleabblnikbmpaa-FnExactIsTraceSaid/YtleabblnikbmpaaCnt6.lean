/- The model's CountRows, and the law's theorem. -/
import Derived.Test.YtleabblnikbmpaaCnt5
import Derived.Test.YtleabblnikbmpaaCnt3
import Derived.Deep.RegionHeld3
namespace Go.Proofs.Ytleabblnikbmpaa
set_option linter.unusedVariables false
set_option linter.unusedSimpArgs false
open Go.RowKit Go.Sort

theorem pfold_far {p : Tl → Bool} {now : Nat → Int} {C e : Nat} (he : C ≤ e) : ∀ (ts : List Tl) {nx : Nat → Int}, (∀ t ∈ ts, tileOk C t = true) → nx e = 0 → ts.foldl (addP p now) nx e = 0
  | [], _, _, h => h
  | t :: r, nx, ht, h => by
    refine pfold_far he r (fun t' h' => ht t' (List.mem_cons_of_mem _ h')) ?_
    have ho := ht t (List.mem_cons_self ..)
    simp only [tileOk, decide_eq_true_eq] at ho
    unfold addP addT
    split
    · show (if e = t.2.2.1.toNat then min (nx e + now t.1.toNat) 1000000000000001 else nx e) = 0
      rw [if_neg (by omega)]
      exact h
    · exact h
theorem npow_far {ts : List Tl} {ns : List Int} {f : Nat → Int} {C e k : Nat} (he : C ≤ e) (ht : ∀ t ∈ ts, tileOk C t = true) (hk : 1 ≤ k) : npow ts ns f k e = 0 := by
  obtain ⟨j, rfl⟩ : ∃ j, k = j + 1 := ⟨k - 1, by omega⟩
  exact pfold_far he ts ht rfl
theorem capSum_far {f : Nat → Int} (hf : Cap f) {C : Nat} : ∀ d, (∀ e, C ≤ e → e < C + d → f e = 0) → capSum f (C + d) = capSum f C
  | 0, _ => rfl
  | d + 1, h => by
    have h1 := capSum_far hf d (fun e h1 h2 => h e h1 (by omega))
    have h2 := h (C + d) (by omega) (by omega)
    have h3 := capSum_cap hf (C + d)
    show min (capSum f (C + d) + f (C + d)) 1000000000000001 = capSum f C
    rw [← h1, h2]
    omega
theorem capSum_six {f : Nat → Int} (hf : Cap f) : capSum f 6 = min (tot6 f) 1000000000000001 := by
  have h0 := hf 0
  have h1 := hf 1
  have h2 := hf 2
  have h3 := hf 3
  have h4 := hf 4
  have h5 := hf 5
  simp only [capSum, tot6]
  omega
theorem cnt_cap (s : Int) : cnt (min s 1000000000000001) = cnt s ∧ cntCode (min s 1000000000000001) = cntCode s := by
  unfold cnt cntCode
  by_cases h : 1000000000000000 < s
  · rw [if_pos h, if_pos h, if_pos (by omega), if_pos (by omega)]; exact ⟨rfl, rfl⟩
  · rw [if_neg h, if_neg h, if_neg (by omega), if_neg (by omega)]; exact ⟨by omega, rfl⟩
theorem cnt_ways {ts : List Tl} {ns : List Int} {f : Nat → Int} (hf : Cap f) {C k : Nat} (hC : C ≤ 6) (ht : ∀ t ∈ ts, tileOk C t = true) (hk : 1 ≤ k) :
    cnt (capSum (npow ts ns f k) C) = cnt (tot6 (npow ts ns f k)) ∧ cntCode (capSum (npow ts ns f k) C) = cntCode (tot6 (npow ts ns f k)) := by
  have h := capSum_far (npow_cap ts ns hf k) (C := C) (6 - C) (fun e h1 h2 => npow_far h1 ht hk)
  rw [show C + (6 - C) = 6 by omega] at h
  rw [← h, capSum_six (npow_cap ts ns hf k)]
  exact cnt_cap _

end Go.Proofs.Ytleabblnikbmpaa
