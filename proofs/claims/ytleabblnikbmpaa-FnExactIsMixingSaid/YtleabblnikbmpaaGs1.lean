/- Ways between words in memory; the program's side. -/
import Derived.Test.YtleabblnikbmpaaGtA
import Derived.Test.YtleabblnikbmpaaGw1
import Derived.Test.YtleabblnikbmpaaRen1
import Derived.RangeFuncBox
import Derived.Lib.Hide
namespace Go.Proofs.Ytleabblnikbmpaa
set_option linter.unusedVariables false
set_option linter.unusedSimpArgs false
open Go.RowKit Go.Sort

/-- A list of n rows of n bits at block b: row i lies in the block G i, from O i on. -/
structure BMat (w : World) (lo b o n : Nat) (G O q : Nat → Nat) (R : Rel) : Prop where
  cell : ∀ i, i < n → w.cell? ⟨b, o + i, none⟩ = some (.slice (some ⟨G i, O i, none⟩) n (q i))
  cap : ∀ i, i < n → n ≤ q i
  lob : lo ≤ b
  out : ∃ cs, Blk w b 79 cs
  log : ∀ i, i < n → lo ≤ G i ∧ G i ≠ b
  row : ∀ i, i < n → ∃ cs, Blk w (G i) 4 cs ∧ ∀ j, j < n → cs[O i + j]? = some (.bool (R i j))
  inj : ∀ i j, i < j → j < n → G i ≠ G j
theorem BMat.ltb {w : World} {lo b o n : Nat} {G O q : Nat → Nat} {R : Rel} (h : BMat w lo b o n G O q R) : b < w.heap.size := by
  obtain ⟨cs, hb⟩ := h.out
  exact hb.lt
theorem BMat.at_ {w : World} {lo b o n : Nat} {G O q : Nat → Nat} {R : Rel} (h : BMat w lo b o n G O q R) {i j : Nat} (hi : i < n) (hj : j < n) : w.cell? ⟨G i, O i + j, none⟩ = some (.bool (R i j)) ∧ w.frozen? ⟨G i, O i + j, none⟩ = false ∧ G i < w.heap.size := by
  obtain ⟨cs, hb, hc⟩ := h.row i hi
  exact ⟨(hb.cell _).trans (hc j hj), hb.frozen _, hb.lt⟩
theorem BMat.congr {w : World} {lo b o n : Nat} {G O q : Nat → Nat} {R R' : Rel} (h : BMat w lo b o n G O q R) (he : ∀ i j, i < n → j < n → R i j = R' i j) : BMat w lo b o n G O q R' :=
  ⟨h.cell, h.cap, h.lob, h.out, h.log, fun i hi => by
    obtain ⟨cs, hb, hc⟩ := h.row i hi
    exact ⟨cs, hb, fun j hj => by rw [← he i j hi hj]; exact hc j hj⟩, h.inj⟩
theorem BMat.below {w w' : World} {lo b o n : Nat} {G O q : Nat → Nat} {R : Rel} (h : BMat w lo b o n G O q R) (hx : Below w.heap.size w w') : BMat w' lo b o n G O q R :=
  ⟨fun i hi => (hx.cell (p := ⟨b, o + i, none⟩) h.ltb).trans (h.cell i hi), h.cap, h.lob, (by obtain ⟨cs, hb⟩ := h.out; exact ⟨cs, hb.below hx hb.lt⟩), h.log, fun i hi => by
    obtain ⟨cs, hb, hc⟩ := h.row i hi
    exact ⟨cs, hb.below hx hb.lt, hc⟩, h.inj⟩
theorem BMat.low {w : World} {lo lo' b o n : Nat} {G O q : Nat → Nat} {R : Rel} (h : BMat w lo b o n G O q R) (hl : lo' ≤ lo) : BMat w lo' b o n G O q R :=
  ⟨h.cell, h.cap, Nat.le_trans hl h.lob, h.out, fun i hi => ⟨Nat.le_trans hl (h.log i hi).1, (h.log i hi).2⟩, h.row, h.inj⟩
theorem BMat.set_ {w : World} {lo b o n : Nat} {G O q : Nat → Nat} {R : Rel} (h : BMat w lo b o n G O q R) {i j : Nat} (hi : i < n) (hj : j < n) (v : Bool) : BMat (w.setCell ⟨G i, O i + j, none⟩ (.bool v)) lo b o n G O q (fun a c => if a = i ∧ c = j then v else R a c) := by
  refine ⟨fun k hk => (set_cell_ne _ (show b ≠ G i from (h.log i hi).2.symm)).trans (h.cell k hk), h.cap, h.lob, (by obtain ⟨cs, hb⟩ := h.out; exact ⟨cs, hb.far (p := ⟨G i, O i + j, none⟩) (h.log i hi).2.symm _⟩), h.log, fun k hk => ?_, h.inj⟩
  obtain ⟨cs, hb, hc⟩ := h.row k hk
  by_cases e : k = i
  · subst e
    have hsz : O k + j < cs.size := by
      rcases Nat.lt_or_ge (O k + j) cs.size with h | h
      · exact h
      · have := hc j hj; rw [Array.getElem?_eq_none h] at this; cases this
    refine ⟨_, hb.set_ (O k + j) _, fun l hl => ?_⟩
    by_cases e2 : l = j
    · subst e2
      rw [Array.getElem?_setIfInBounds_self_of_lt hsz, if_pos ⟨rfl, rfl⟩]
    · rw [Array.getElem?_setIfInBounds_ne (by omega), hc l hl, if_neg (by omega)]
  · have hne : G k ≠ G i := by
      rcases Nat.lt_or_gt_of_ne e with h1 | h1
      · exact h.inj k i h1 hi
      · exact (h.inj i k h1 hk).symm
    exact ⟨cs, hb.far (p := ⟨G i, O i + j, none⟩) hne _, fun l hl => by rw [hc l hl, if_neg (by omega)]⟩
def vbs (f : Nat → Bool) (k : Nat) : List Value := (List.range k).map fun j => .bool (f j)
theorem vbs_succ (f : Nat → Bool) (k : Nat) : vbs f (k + 1) = vbs f k ++ [.bool (f k)] := by simp [vbs, List.range_succ]
theorem vbs_len (f : Nat → Bool) (k : Nat) : (vbs f k).length = k := by simp [vbs]
theorem info_rowB : (Try.prog.info? 79).map (fun i => (i.zero, i.size, i.bytes)) = some (some (.slice none 0 0), 1, 24) := by kernel_rfl
/-- 'append(bits, y)'. -/
theorem wpList_pushB {w : World} {ops : Array Oper} {rest : List Oper} {o : Oper} {a : Act} {K : Exit → Act → World → Prop} (hgd : o.guard = none) (s x : Operand)
    (ho : o.op = .call { callee := .builtin .append, args := #[s, x], argTypes := #[79, 79] })
    (base : Nat) (v : Value) (n : Nat) (f : Nat → Bool) (hs : a.eval s = v) (hown : w.ownsRow base 4 1 v n (vbs f n))
    (g : Nat) (hx : a.eval x = .slice (some ⟨g, 0, none⟩) 1 1) (hb : Blk w g 4 #[.bool (f n)]) (h63 : n + 1 ≤ 1048577) (hbase : base ≤ w.heap.size)
    (hK : ∀ v' w', w'.ownsRow base 4 1 v' (n + 1) (vbs f (n + 1)) → w.grownBy w' v.ownBlock → (v'.ownBlock = v.ownBlock ∨ v'.ownBlock = some w.heap.size) → wpList Try.prog ops K rest (a.put o.dst v') w') :
    wpList Try.prog ops K (o :: rest) a w := by
  obtain ⟨i0, hi, hz0, hz1, hz2⟩ := info_parts info_bool
  refine wpList_append_any w hgd s x _ ho base 4 i0 _ 1 1 Try.underlying79 hi hz0 hz1 hz2 rfl (by decide) v n (vbs f n) hs hown w.heap.size _ 1 _ [.bool (f n)] hx ⟨rfl, fun _ => ⟨_, rfl, hb.lt, fun j u hu => ?_⟩⟩ (by simp [Value.oneCell']) (by unfold maxLen; omega) (by omega) hbase fun v' w' h1 h2 h3 => hK v' w' ?_ h2 h3
  · rcases j with _ | j
    · simp at hu
      subst hu
      rw [Go.WideShapes.add_plain]
      exact hb.cell 0
    · simp at hu
  · rw [vbs_succ]; exact h1
/-- The rows that are done when k of them are, and the one under way. -/
structure BPre (w : World) (lo b n k : Nat) (G q : Nat → Nat) (R : Rel) (cur : Value) : Prop where
  outer : ∃ cs, Blk w b 79 cs ∧ cs.size = n ∧ (∀ i, i < k → cs[i]? = some (.slice (some ⟨G i, 0, none⟩) n (q i))) ∧ (k < n → cs[k]? = some cur) ∧ (∀ i, k < i → i < n → cs[i]? = some (.slice none 0 0))
  cap : ∀ i, i < k → n ≤ q i
  lob : lo ≤ b
  log : ∀ i, i < k → lo ≤ G i ∧ G i ≠ b
  row : ∀ i, i < k → ∃ cs, Blk w (G i) 4 cs ∧ ∀ j, j < n → cs[j]? = some (.bool (R i j))
  inj : ∀ i j, i < j → j < k → G i ≠ G j
theorem BPre.keep {w w' : World} {lo b n k : Nat} {G q : Nat → Nat} {R : Rel} {cur : Value} (h : BPre w lo b n k G q R cur) {B : Nat} (hx : Below B w w') (hb : b < B) (hg : ∀ i, i < k → G i < B) : BPre w' lo b n k G q R cur := by
  obtain ⟨cs, h1, h2⟩ := h.outer
  exact ⟨⟨cs, h1.below hx hb, h2⟩, h.cap, h.lob, h.log, fun i hi => by
    obtain ⟨cs, hb, hc⟩ := h.row i hi
    exact ⟨cs, hb.below hx (hg i hi), hc⟩, h.inj⟩
theorem BPre.put {w : World} {lo b n k : Nat} {G q : Nat → Nat} {R : Rel} {cur : Value} (h : BPre w lo b n k G q R cur) (hk : k < n) (v : Value) : BPre (w.setCell ⟨b, k, none⟩ v) lo b n k G q R v := by
  obtain ⟨cs, h1, h2, h3, h4, h5⟩ := h.outer
  refine ⟨⟨_, h1.set_ k v, by simp [h2], fun i hi => ?_, fun _ => ?_, fun i hi hin => ?_⟩, h.cap, h.lob, h.log, fun i hi => ?_, h.inj⟩
  · rw [Array.getElem?_setIfInBounds_ne (by omega)]; exact h3 i hi
  · rw [Array.getElem?_setIfInBounds_self_of_lt (by omega)]
  · rw [Array.getElem?_setIfInBounds_ne (by omega)]; exact h5 i hi hin
  · obtain ⟨cs, hb, hc⟩ := h.row i hi
    exact ⟨cs, hb.far (p := ⟨b, k, none⟩) (h.log i hi).2 _, hc⟩
theorem BPre.next {w : World} {lo b n k : Nat} {G q : Nat → Nat} {R : Rel} {cur : Value} (h : BPre w lo b n k G q R cur) (hk : k < n) {base : Nat} (ho : w.ownsRow base 4 1 cur n (vbs (R k) n)) (hlo : lo ≤ base) (hbb : b < base) (hgb : ∀ i, i < k → G i < base) :
    ∃ G' q', BPre w lo b n (k + 1) G' q' R (.slice none 0 0) := by
  obtain ⟨cs, h1, h2, h3, h4, h5⟩ := h.outer
  rcases ho.2 with ⟨-, h0⟩ | ⟨g, cap, cr, hv, hb, hg, hn, hm, hs, ht⟩
  · omega
  · have hat : ∀ j, j < n → cr[j]? = some (.bool (R k j)) := by
      intro j hj
      have e := congrArg (fun l => l[j]?) ht
      simp only [List.getElem?_take, Nat.mul_one, if_pos hj] at e
      rw [Array.getElem?_toList] at e
      rw [e]
      simp [vbs, hj]
    refine ⟨fun i => if i = k then g else G i, fun i => if i = k then cap else q i, ⟨⟨cs, h1, h2, fun i hi => ?_, fun hk1 => ?_, fun i hi hin => h5 i (by omega) hin⟩, fun i hi => ?_, h.lob, fun i hi => ?_, fun i hi => ?_, fun i j hij hj => ?_⟩⟩
    · by_cases e : i = k
      · subst e; simp only [if_true]; rw [h4 hk, hv]
      · simp only [if_neg e]; exact h3 i (by omega)
    · exact h5 (k + 1) (by omega) hk1
    · by_cases e : i = k
      · subst e; simp only [if_true]; omega
      · simp only [if_neg e]; exact h.cap i (by omega)
    · by_cases e : i = k
      · subst e; simp only [if_true]; omega
      · simp only [if_neg e]; exact h.log i (by omega)
    · by_cases e : i = k
      · subst e; simp only [if_true]; exact ⟨cr, hg, hat⟩
      · simp only [if_neg e]; exact h.row i (by omega)
    · by_cases e : j = k
      · subst e; simp only [if_true, if_neg (show ¬ i = j by omega)]; have := hgb i hij; omega
      · simp only [if_neg e, if_neg (show ¬ i = k by omega)]; exact h.inj i j hij (by omega)
theorem BPre.done {w : World} {lo b n : Nat} {G q : Nat → Nat} {R : Rel} {cur : Value} (h : BPre w lo b n n G q R cur) : BMat w lo b 0 n G (fun _ => 0) q R := by
  obtain ⟨cs, h1, h2, h3, -, -⟩ := h.outer
  exact ⟨fun i hi => by rw [Nat.zero_add, h1.cell]; exact h3 i hi, h.cap, h.lob, ⟨cs, h1⟩, h.log, fun i hi => by
    obtain ⟨cs, hb, hc⟩ := h.row i hi
    exact ⟨cs, hb, fun j hj => by rw [Nat.zero_add]; exact hc j hj⟩, h.inj⟩
theorem BPre.lts {w : World} {lo b n k : Nat} {G q : Nat → Nat} {R : Rel} {cur : Value} (h : BPre w lo b n k G q R cur) : b < w.heap.size ∧ ∀ i, i < k → G i < w.heap.size := by
  obtain ⟨cs, h1, -⟩ := h.outer
  exact ⟨h1.lt, fun i hi => by obtain ⟨cs, hb, -⟩ := h.row i hi; exact hb.lt⟩
end Go.Proofs.Ytleabblnikbmpaa
