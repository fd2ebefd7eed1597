/- Slices of tiles that grow by append. -/
import Derived.Test.YtleabblnikbmpaaMark
import Derived.Test.YtleabblnikbmpaaIsA
import Derived.Deep.AppendLies
namespace Go.Proofs.Ytleabblnikbmpaa
set_option linter.unusedVariables false
set_option linter.unusedSimpArgs false
open Go.RowKit Go.Sort

theorem Blk.rd {w : World} {g : Nat} {t : TypeId} {cs : Array Value} (h : Blk w g t cs) (i : Nat) {v : Value} (hv : cs[i]? = some v) : w.cell? ⟨g, i, none⟩ = some v := (h.cell i).trans hv
/-- The cells of tiles in a row. -/
def flat (ts : List Tl) : List Value := ts.flatMap enc
theorem flat_len (ts : List Tl) : (flat ts).length = ts.length * 4 := by
  induction ts with
  | nil => rfl
  | cons x r ih => simp only [flat, List.flatMap_cons, List.length_append] at *; rw [ih]; simp [enc]; omega
theorem flat_snoc (ts : List Tl) (x : Tl) : flat (ts ++ [x]) = flat ts ++ enc x := by simp [flat]
theorem flat_append (ts us : List Tl) : flat (ts ++ us) = flat ts ++ flat us := by simp [flat]
theorem flat_get (ts : List Tl) {k j : Nat} (hk : k < ts.length) (hj : j < 4) : (flat ts)[k * 4 + j]? = (enc (ts.getD k T0))[j]? := by
  induction ts generalizing k with
  | nil => simp at hk
  | cons x r ih =>
    have he : (enc x).length = 4 := rfl
    cases k with
    | zero => simp only [flat, List.flatMap_cons, Nat.zero_mul, Nat.zero_add]; rw [List.getElem?_append_left (by omega)]; rfl
    | succ k =>
      have h := ih (k := k) (by simpa using hk)
      have e1 : (k + 1) * 4 + j - (enc x).length = k * 4 + j := by rw [he]; omega
      simp only [flat, List.flatMap_cons]
      rw [List.getElem?_append_right (by rw [he]; omega), e1]
      simpa [flat, List.getD] using h
theorem enc_one (t : Tl) : ∀ u ∈ enc t, u.oneCell' = true := by
  intro u hu
  simp [enc] at hu
  rcases hu with rfl | rfl | rfl | rfl <;> rfl

/-- What a slice that the call owns reads as. -/
theorem own_tw {w : World} {base n : Nat} {v : Value} {ts : List Tl} (h : w.ownsRow base 69 4 v n (flat ts)) (hl : ts.length = n) :
    ∃ A cap, v = .slice A n cap ∧ TW w base A ts := by
  rcases h.2 with ⟨rfl, h0⟩ | ⟨g, cap, cur, rfl, hb, hg, hn, hm, hs, ht⟩
  · subst h0
    exact ⟨none, 0, rfl, fun h1 => by omega⟩
  · refine ⟨_, cap, rfl, fun _ => ⟨g, 0, _, cur, rfl, hb, hg, fun k hk => ?_⟩⟩
    have key : ∀ j, j < 4 → cur[k * 4 + j]? = (enc (ts.getD k T0))[j]? := by
      intro j hj
      rw [← flat_get ts hk hj, ← ht, List.getElem?_take, if_pos (by omega)]
      simp
    simp only [Nat.zero_add]
    exact ⟨key 0 (by omega), key 1 (by omega), key 2 (by omega), key 3 (by omega)⟩
theorem own_ext {w w' : World} {base n : Nat} {v : Value} {xs : List Value} (h : w.ownsRow base 69 4 v n xs) (hx : Ext w w') : w'.ownsRow base 69 4 v n xs := by
  refine ⟨h.1, ?_⟩
  rcases h.2 with h0 | ⟨g, cap, cur, hv, hb, hg, r⟩
  · exact .inl h0
  · have hlt : g < w.heap.size := by
      rcases Nat.lt_or_ge g w.heap.size with hlt | hge
      · exact hlt
      · rw [Array.getElem?_eq_none hge] at hg; cases hg
    exact .inr ⟨g, cap, cur, hv, hb, ((hx.below (Nat.le_refl _)).block g hlt).trans hg, r⟩
theorem take_snoc (ts : List Tl) {k : Nat} (hk : k < ts.length) : ts.take (k + 1) = ts.take k ++ [ts.getD k T0] := by
  rw [List.take_succ_eq_append_getElem hk]
  simp [List.getD, hk]
/-- A round that appends the next tile. -/
theorem own_step {w' : World} {base k : Nat} {v' : Value} {us : List Tl} {y : Tl} (hk : k < us.length) (hy : y = us.getD k T0)
    (h : w'.ownsRow base 69 4 v' (k + 1) (flat (us.take k) ++ enc y)) : w'.ownsRow base 69 4 v' (k + 1) (flat (us.take (k + 1))) := by
  rw [take_snoc us hk, ← hy, flat_snoc]
  exact h
theorem map_getD (ts : List Tl) (f : Tl → Tl) {k : Nat} (hk : k < ts.length) : (ts.map f).getD k T0 = f (ts.getD k T0) := by simp [List.getD, hk]

end Go.Proofs.Ytleabblnikbmpaa
