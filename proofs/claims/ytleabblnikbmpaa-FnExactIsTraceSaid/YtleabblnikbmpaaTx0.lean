/- Plain words on columns as triples: the ways along them, the words that are read on the way. -/
import Derived.Test.YtleabblnikbmpaaBase
namespace Go.Proofs.Ytleabblnikbmpaa
set_option linter.unusedVariables false
set_option linter.unusedSimpArgs false

/-- A column: the colour at its north, its west word and its east word. -/
abbrev Cq := Nat × Nat × Nat
/-- The words at which ways end that began at p and went on by a column with the colour c to words in q. -/
def ndW (K : List Cq) (c : Nat) (p q : Nat → Bool) (e : Nat) : Bool := K.any fun k => (decide (k.1 = c) && p k.2.1) && (q k.2.2 && decide (k.2.2 = e))
def ndAny (K : List Cq) (c : Nat) (p q : Nat → Bool) : Bool := K.any fun k => (decide (k.1 = c) && p k.2.1) && q k.2.2
/-- From which words there are ways of n columns. -/
def farW (K : List Cq) : Nat → Nat → Bool
  | 0 => fun _ => true
  | n + 1 => fun w => K.any fun k => farW K n k.2.2 && decide (k.2.1 = w)
/-- All traces of some colours from the words p on, in order. -/
def trG (K : List Cq) (C : Nat) : Nat → (Nat → Bool) → List (List Int)
  | 0, _ => [[]]
  | l + 1, p => (List.range C).flatMap fun c : Nat => if ndAny K c p (farW K l) = true then (trG K C l (ndW K c p (farW K l))).map (fun w => (c : Int) :: w) else []
abbrev Bg := List Int × (Nat → Bool)
/-- What is longer by a colour than a beginning. -/
def lngW (K : List Cq) (C : Nat) (q : Nat → Bool) (b : Bg) : List Bg := ((List.range C).filter fun c => ndAny K c b.2 q).map fun c : Nat => (b.1 ++ [(c : Int)], ndW K c b.2 q)
/-- The beginnings of j colours of the traces of n colours. -/
def lvW (K : List Cq) (C n : Nat) : Nat → List Bg
  | 0 => [([], fun _ => true)]
  | j + 1 => (lvW K C n j).flatMap (lngW K C (farW K (n - 1 - j)))
def lvN (K : List Cq) (C n j : Nat) : List (List Int) := (lvW K C n j).map Prod.fst

theorem flatMap_congr' {α β : Type} {l : List α} {f g : α → List β} (h : ∀ a ∈ l, f a = g a) : l.flatMap f = l.flatMap g := by
  induction l with
  | nil => rfl
  | cons a l ih => rw [List.flatMap_cons, List.flatMap_cons, h a (by simp), ih fun b hb => h b (by simp [hb])]
theorem filter_flat {α β : Type} (p : α → Bool) (f : α → List β) (l : List α) : (l.filter p).flatMap f = l.flatMap fun a => if p a = true then f a else [] := by
  induction l with
  | nil => rfl
  | cons a l ih =>
    rw [List.flatMap_cons, List.filter_cons]
    split
    · next h => rw [List.flatMap_cons, ih]
    · next h => rw [ih]; rfl
theorem lv_tr (K : List Cq) (C n : Nat) : ∀ j, j ≤ n → trG K C n (fun _ => true) = (lvW K C n j).flatMap fun b => (trG K C (n - j) b.2).map fun w => b.1 ++ w
  | 0, _ => by simp [lvW]
  | j + 1, h => by
    rw [lv_tr K C n j (by omega)]
    show _ = ((lvW K C n j).flatMap (lngW K C (farW K (n - 1 - j)))).flatMap _
    rw [List.flatMap_assoc]
    refine flatMap_congr' fun b _ => ?_
    obtain ⟨l, hl⟩ : ∃ l, n - j = l + 1 := ⟨n - j - 1, by omega⟩
    rw [hl, show n - 1 - j = l by omega, show n - (j + 1) = l by omega]
    show ((List.range C).flatMap _).map _ = _
    rw [List.map_flatMap, lngW, List.flatMap_map, filter_flat]
    refine flatMap_congr' fun c _ => ?_
    split
    · simp [List.map_map, Function.comp_def]
    · rfl
theorem lv_words (K : List Cq) (C n : Nat) : trG K C n (fun _ => true) = lvN K C n n := by
  rw [lv_tr K C n n (Nat.le_refl _), Nat.sub_self, lvN]
  show ((lvW K C n n).flatMap fun b => [b.1 ++ []]) = _
  induction lvW K C n n with
  | nil => rfl
  | cons b l ih => rw [List.flatMap_cons, ih]; simp

theorem lng_len (K : List Cq) (C : Nat) (q : Nat → Bool) (b : Bg) : (lngW K C q b).length ≤ C := by
  unfold lngW
  rw [List.length_map]
  exact Nat.le_trans (List.length_filter_le _ _) (by simp)
/-- A beginning with an end from which it goes on has something longer. -/
theorem lng_some {K : List Cq} {C l : Nat} {b : Bg} (hC : ∀ k ∈ K, k.1 < C) (hb : ∃ e, b.2 e = true ∧ farW K (l + 1) e = true) : 0 < (lngW K C (farW K l) b).length := by
  obtain ⟨e, h1, h2⟩ := hb
  obtain ⟨k, hk, h3⟩ := List.any_eq_true.1 (show (K.any fun k => farW K l k.2.2 && decide (k.2.1 = e)) = true from h2)
  rw [Bool.and_eq_true, decide_eq_true_eq] at h3
  unfold lngW
  rw [List.length_map]
  refine List.length_pos_of_mem (a := k.1) (List.mem_filter.2 ⟨List.mem_range.2 (hC k hk), List.any_eq_true.2 ⟨k, hk, ?_⟩⟩)
  simp [h3.1, h3.2, h1]
theorem lv_ends {K : List Cq} {C n j : Nat} (hj : j + 1 ≤ n) {b : Bg} (hb : b ∈ lvW K C n (j + 1)) : ∃ e, b.2 e = true ∧ farW K (n - (j + 1)) e = true := by
  obtain ⟨a, ha, h1⟩ := List.mem_flatMap.1 (show b ∈ (lvW K C n j).flatMap (lngW K C (farW K (n - 1 - j))) from hb)
  unfold lngW at h1
  obtain ⟨c, hc, rfl⟩ := List.mem_map.1 h1
  obtain ⟨k, hk, h2⟩ := List.any_eq_true.1 (List.mem_filter.1 hc).2
  simp only [Bool.and_eq_true, decide_eq_true_eq] at h2
  refine ⟨k.2.2, List.any_eq_true.2 ⟨k, hk, ?_⟩, ?_⟩
  · simp [h2.1.1, h2.1.2, h2.2]
  · rw [show n - (j + 1) = n - 1 - j by omega]; exact h2.2
theorem flat_len_le {α β : Type} {f : α → List β} {l : List α} (h : ∀ a ∈ l, 0 < (f a).length) : l.length ≤ (l.flatMap f).length := by
  induction l with
  | nil => exact Nat.le_refl _
  | cons a l ih =>
    rw [List.flatMap_cons, List.length_append, List.length_cons]
    have := h a (by simp)
    have := ih fun b hb => h b (by simp [hb])
    omega
/-- There are no fewer beginnings of more colours. -/
theorem lv_up {K : List Cq} {C n : Nat} (hC : ∀ k ∈ K, k.1 < C) {j : Nat} (h1 : 1 ≤ j) (hj : j + 1 ≤ n) : (lvW K C n j).length ≤ (lvW K C n (j + 1)).length := by
  obtain ⟨i, rfl⟩ : ∃ i, j = i + 1 := ⟨j - 1, by omega⟩
  refine flat_len_le fun b hb => lng_some hC ?_
  rw [show n - 1 - (i + 1) + 1 = n - (i + 1) by omega]
  exact lv_ends (by omega) hb
theorem lv_all {K : List Cq} {C n : Nat} (hC : ∀ k ∈ K, k.1 < C) {j : Nat} (h1 : 1 ≤ j) : ∀ d, j + d ≤ n → (lvW K C n j).length ≤ (lvW K C n (j + d)).length
  | 0, _ => Nat.le_refl _
  | d + 1, h => Nat.le_trans (lv_all hC h1 d (by omega)) (lv_up hC (by omega) (by omega))
theorem lv_last {K : List Cq} {C n : Nat} (hC : ∀ k ∈ K, k.1 < C) {j : Nat} (h1 : 1 ≤ j) (hj : j ≤ n) : (lvW K C n j).length ≤ (trG K C n fun _ => true).length := by
  rw [lv_words, lvN, List.length_map]
  have := lv_all (n := n) hC h1 (n - j) (by omega)
  rwa [show j + (n - j) = n by omega] at this
theorem lv_word_len {K : List Cq} {C n : Nat} : ∀ j, ∀ b ∈ lvW K C n j, b.1.length = j ∧ ∀ x ∈ b.1, 0 ≤ x ∧ x < (C : Int)
  | 0, b, hb => by
    simp only [lvW, List.mem_singleton] at hb
    subst hb
    exact ⟨rfl, fun x hx => by simp at hx⟩
  | j + 1, b, hb => by
    obtain ⟨a, ha, h1⟩ := List.mem_flatMap.1 (show b ∈ (lvW K C n j).flatMap (lngW K C (farW K (n - 1 - j))) from hb)
    unfold lngW at h1
    obtain ⟨c, hc, rfl⟩ := List.mem_map.1 h1
    obtain ⟨h2, h3⟩ := lv_word_len j a ha
    have hc' := List.mem_range.1 (List.mem_filter.1 hc).1
    refine ⟨by simp [h2], fun x hx => ?_⟩
    rcases List.mem_append.1 hx with hx | hx
    · exact h3 x hx
    · rw [List.mem_singleton] at hx; omega

/-- All words of n colours, in order. -/
def allW (C : Nat) : Nat → List (List Int)
  | 0 => [[]]
  | n + 1 => (allW C n).flatMap fun b => (List.range C).map fun c : Nat => b ++ [(c : Int)]
theorem sub_flat {α β : Type} {f g : α → List β} (h : ∀ a, (f a).Sublist (g a)) {l m : List α} (hl : l.Sublist m) : (l.flatMap f).Sublist (m.flatMap g) := by
  induction hl with
  | slnil => exact List.Sublist.refl _
  | cons a _ ih => rw [List.flatMap_cons]; exact ih.trans (List.sublist_append_right _ _)
  | cons_cons a _ ih => rw [List.flatMap_cons, List.flatMap_cons]; exact (h a).append ih
theorem lv_sub (K : List Cq) (C n : Nat) : ∀ j, (lvN K C n j).Sublist (allW C j)
  | 0 => List.Sublist.refl _
  | j + 1 => by
    have e : lvN K C n (j + 1) = (lvW K C n j).flatMap fun b => ((List.range C).filter fun c => ndAny K c b.2 (farW K (n - 1 - j))).map fun c : Nat => b.1 ++ [(c : Int)] := by
      show ((lvW K C n j).flatMap (lngW K C (farW K (n - 1 - j)))).map Prod.fst = _
      rw [List.map_flatMap]
      refine flatMap_congr' fun b _ => ?_
      unfold lngW
      rw [List.map_map]
      rfl
    rw [e]
    refine List.Sublist.trans (l₂ := (lvW K C n j).flatMap fun b => (List.range C).map fun c : Nat => b.1 ++ [(c : Int)]) (sub_flat (fun b => List.Sublist.map _ List.filter_sublist) (List.Sublist.refl _)) ?_
    have e2 : ((lvW K C n j).flatMap fun b => (List.range C).map fun c : Nat => b.1 ++ [(c : Int)]) = (lvN K C n j).flatMap fun b => (List.range C).map fun c : Nat => b ++ [(c : Int)] := by
      rw [lvN, List.flatMap_map]
    rw [e2]
    exact sub_flat (fun b => List.Sublist.refl _) (lv_sub K C n j)
theorem allW_len (C : Nat) : ∀ n, (allW C n).length = C ^ n
  | 0 => rfl
  | n + 1 => by
    have h : ∀ l : List (List Int), (l.flatMap fun b => (List.range C).map fun c : Nat => b ++ [(c : Int)]).length = l.length * C := by
      intro l
      induction l with
      | nil => simp
      | cons a l ih => rw [List.flatMap_cons, List.length_append, ih]; simp [Nat.add_mul, Nat.add_comm]
    show ((allW C n).flatMap _).length = _
    rw [h, allW_len C n, Nat.pow_succ]
theorem allW_wlen (C : Nat) : ∀ n, ∀ b ∈ allW C n, b.length = n
  | 0, b, hb => by simp [allW] at hb; simp [hb]
  | n + 1, b, hb => by
    obtain ⟨a, ha, h1⟩ := List.mem_flatMap.1 (show b ∈ (allW C n).flatMap _ from hb)
    obtain ⟨c, _, rfl⟩ := List.mem_map.1 h1
    simp [allW_wlen C n a ha]

/-- The columns that are between others, without an end: the words that are reached by n columns. -/
def fwdW (K : List Cq) : Nat → Nat → Bool
  | 0 => fun _ => true
  | n + 1 => fun e => K.any fun k => fwdW K n k.2.1 && decide (k.2.2 = e)
def fwdAny (K : List Cq) (n : Nat) : Bool := K.any fun k => fwdW K n k.2.1
def K0 : Cq := (0, 0, 0)
theorem fwd_path {K : List Cq} : ∀ n, ∀ x, x < K.length → fwdW K n (K.getD x K0).2.1 = true → ∃ f : Nat → Nat, f n = x ∧ (∀ i, i ≤ n → f i < K.length) ∧ ∀ i, i < n → (K.getD (f i) K0).2.2 = (K.getD (f (i + 1)) K0).2.1
  | 0, x, hx, _ => ⟨fun _ => x, rfl, fun _ _ => hx, fun i hi => absurd hi (Nat.not_lt_zero _)⟩
  | n + 1, x, hx, h => by
    obtain ⟨k, hk, h2⟩ := List.any_eq_true.1 (show (K.any fun k => fwdW K n k.2.1 && decide (k.2.2 = (K.getD x K0).2.1)) = true from h)
    rw [Bool.and_eq_true, decide_eq_true_eq] at h2
    obtain ⟨y, hy, e⟩ := List.mem_iff_getElem.1 hk
    have e' : K.getD y K0 = k := by simp [List.getD, hy, e]
    obtain ⟨f, h3, h4, h5⟩ := fwd_path n y hy (by rw [e']; exact h2.1)
    refine ⟨fun i => if i ≤ n then f i else x, if_neg (by omega), fun i hi => ?_, fun i hi => ?_⟩
    · show (if i ≤ n then f i else x) < K.length
      split
      · next h => exact h4 i h
      · exact hx
    · show (K.getD (if i ≤ n then f i else x) K0).2.2 = (K.getD (if i + 1 ≤ n then f (i + 1) else x) K0).2.1
      rw [if_pos (by omega)]
      by_cases hin : i + 1 ≤ n
      · rw [if_pos hin]; exact h5 i (by omega)
      · rw [if_neg hin]
        obtain rfl : i = n := by omega
        rw [h3, e', h2.2]
theorem pigeonW : ∀ (n : Nat) (f : Nat → Nat), (∀ k, k ≤ n → f k < n) → ∃ a b, a < b ∧ b ≤ n ∧ f a = f b
  | 0, f, h => absurd (h 0 (Nat.le_refl _)) (Nat.not_lt_zero _)
  | n + 1, f, h => by
    by_cases hx : ∃ k, k ≤ n ∧ f k = f (n + 1)
    · obtain ⟨k, hk, e⟩ := hx
      exact ⟨k, n + 1, by omega, Nat.le_refl _, e⟩
    · have hne : ∀ k, k ≤ n → f k ≠ f (n + 1) := fun k hk e => hx ⟨k, hk, e⟩
      obtain ⟨a, b, hab, hb, e⟩ := pigeonW n (fun k => if f k = n then f (n + 1) else f k) (fun k hk => by
        have h1 := h k (by omega)
        have h2 := h (n + 1) (Nat.le_refl _)
        have h3 := hne k hk
        show (if f k = n then f (n + 1) else f k) < n
        split <;> omega)
      refine ⟨a, b, hab, by omega, ?_⟩
      have h1 := hne a (by omega)
      have h2 := hne b hb
      split at e <;> split at e <;> omega
/-- A set of columns each of which has one of them at its west and one at its east side. -/
def ClosedK (K : List Cq) (S : Nat → Prop) : Prop := ∀ x, S x → x < K.length ∧ (∃ y, S y ∧ (K.getD y K0).2.2 = (K.getD x K0).2.1) ∧ (∃ y, S y ∧ (K.getD y K0).2.1 = (K.getD x K0).2.2)
theorem fwd_closed {K : List Cq} {S : Nat → Prop} (h : ClosedK K S) : ∀ n, ∀ x, S x → fwdW K n (K.getD x K0).2.1 = true
  | 0, _, _ => rfl
  | n + 1, x, hx => by
    obtain ⟨-, ⟨y, hy, e⟩, -⟩ := h x hx
    have hl := (h y hy).1
    refine List.any_eq_true.2 ⟨K.getD y K0, by simp [List.getD, hl], ?_⟩
    rw [fwd_closed h n y hy, e]
    simp
theorem fwd_any_of {K : List Cq} {n x : Nat} (hx : x < K.length) (h : fwdW K n (K.getD x K0).2.1 = true) : fwdAny K n = true := List.any_eq_true.2 ⟨K.getD x K0, by simp [List.getD, hx], h⟩
/-- A way of more columns than there are goes round. -/
theorem closed_of_fwd {K : List Cq} (h : fwdAny K K.length = true) : ∃ S, ClosedK K S ∧ ∃ x, S x := by
  obtain ⟨k, hk, h1⟩ := List.any_eq_true.1 h
  obtain ⟨x, hx, e⟩ := List.mem_iff_getElem.1 hk
  have e' : K.getD x K0 = k := by simp [List.getD, hx, e]
  obtain ⟨f, -, h4, h5⟩ := fwd_path K.length x hx (by rw [e']; exact h1)
  obtain ⟨a, b, hab, hb, e2⟩ := pigeonW K.length f h4
  refine ⟨fun y => ∃ i, a ≤ i ∧ i < b ∧ f i = y, ?_, f a, a, Nat.le_refl _, hab, rfl⟩
  rintro y ⟨i, h6, h7, rfl⟩
  refine ⟨h4 i (by omega), ?_, ?_⟩
  · rcases Nat.lt_or_ge a i with h8 | h8
    · refine ⟨f (i - 1), ⟨i - 1, by omega, by omega, rfl⟩, ?_⟩
      have := h5 (i - 1) (by omega)
      rwa [show i - 1 + 1 = i by omega] at this
    · obtain rfl : i = a := by omega
      refine ⟨f (b - 1), ⟨b - 1, by omega, by omega, rfl⟩, ?_⟩
      have := h5 (b - 1) (by omega)
      rw [show b - 1 + 1 = b by omega, ← e2] at this
      exact this
  · rcases Nat.lt_or_ge (i + 1) b with h8 | h8
    · exact ⟨f (i + 1), ⟨i + 1, by omega, by omega, rfl⟩, (h5 i (by omega)).symm⟩
    · refine ⟨f a, ⟨a, Nat.le_refl _, by omega, rfl⟩, ?_⟩
      have := h5 i (by omega)
      rw [show i + 1 = b by omega, ← e2] at this
      exact this.symm
theorem fwd_mono {K : List Cq} : ∀ n e, fwdW K (n + 1) e = true → fwdW K n e = true
  | 0, _, _ => rfl
  | n + 1, e, h => by
    obtain ⟨k, hk, h2⟩ := List.any_eq_true.1 (show (K.any fun k => fwdW K (n + 1) k.2.1 && decide (k.2.2 = e)) = true from h)
    rw [Bool.and_eq_true] at h2
    exact List.any_eq_true.2 ⟨k, hk, by rw [fwd_mono n _ h2.1, h2.2]; rfl⟩
theorem fwdAny_mono {K : List Cq} {n : Nat} (h : fwdAny K (n + 1) = true) : fwdAny K n = true := by
  obtain ⟨k, hk, h2⟩ := List.any_eq_true.1 h
  exact List.any_eq_true.2 ⟨k, hk, fwd_mono n _ h2⟩
/-- What is in a list that has nothing twice, and in a part of it, is that part. -/
theorem sub_filter {α : Type} {l m : List α} (h : l.Sublist m) (hm : m.Nodup) : ∀ (p : α → Bool), (∀ a, p a = true ↔ a ∈ l) → m.filter p = l := by
  induction h with
  | slnil => exact fun _ _ => rfl
  | cons a h ih =>
    rename_i l₁ l₂
    intro p hp
    obtain ⟨h1, h2⟩ := List.nodup_cons.1 hm
    have : p a = false := by
      cases e : p a with
      | false => rfl
      | true => exact absurd (h.subset ((hp a).1 e)) h1
    rw [List.filter_cons, this, if_neg (by simp)]
    exact ih h2 p hp
  | cons_cons a h ih =>
    rename_i l₁ l₂
    intro p hp
    obtain ⟨h1, h2⟩ := List.nodup_cons.1 hm
    rw [List.filter_cons, (hp a).2 (by simp), if_pos rfl]
    congr 1
    have h3 : a ∉ l₁ := fun h4 => h1 (h.subset h4)
    have e : l₂.filter p = l₂.filter fun b => p b && !(@decide (b = a) (Classical.propDecidable _)) := by
      refine List.filter_congr fun b hb => ?_
      have : b ≠ a := fun e => h1 (e ▸ hb)
      simp [this]
    rw [e]
    refine ih h2 _ fun b => ?_
    rw [Bool.and_eq_true, hp]
    constructor
    · rintro ⟨h5, h6⟩
      rcases List.mem_cons.1 h5 with h7 | h7
      · simp [h7] at h6
      · exact h7
    · intro h5
      refine ⟨List.mem_cons_of_mem _ h5, ?_⟩
      have : b ≠ a := fun e => h3 (e ▸ h5)
      simp [this]
end Go.Proofs.Ytleabblnikbmpaa
