/- The period: numbers; greatest common divisors; the program's search. -/
import Derived.Test.YtleabblnikbmpaaGp1
import Derived.Test.YtleabblnikbmpaaDi1
import Derived.Test.YtleabblnikbmpaaGd1
import Derived.Test.YtleabblnikbmpaaGs6
import Derived.Lib.Hide
import Derived.RangeFuncBox
import Derived.Test.YtleabblnikbmpaaGuA
import Derived.Test.YtleabblnikbmpaaCnt2
namespace Go.Proofs.Ytleabblnikbmpaa
section
set_option linter.unusedVariables false
set_option linter.unusedSimpArgs false
open Go.RowKit Go.Sort

def perJ (E : Rel) (d : Nat → Nat) (i : Nat) (p : Nat) : Nat → Nat
  | 0 => p
  | j + 1 => if E i j = true then Nat.gcd (perJ E d i p j) (d i + 1 - d j) else perJ E d i p j
def perI (E : Rel) (d : Nat → Nat) (n : Nat) : Nat → Nat
  | 0 => 0
  | i + 1 => perJ E d i (perI E d n i) n
theorem gcd_small {a b M : Nat} (ha : a ≤ M) (hb : b ≤ M) : Nat.gcd a b ≤ M := by
  rcases Nat.eq_zero_or_pos a with h | h
  · subst h; rw [Nat.gcd_zero_left]; exact hb
  · exact Nat.le_trans (Nat.gcd_le_left b h) ha
theorem perJ_le {E : Rel} {d : Nat → Nat} {i p M : Nat} (hp : p ≤ M) (hd : d i + 1 ≤ M) : ∀ j, perJ E d i p j ≤ M
  | 0 => hp
  | j + 1 => by
    simp only [perJ]
    split
    · exact gcd_small (perJ_le hp hd j) (by omega)
    · exact perJ_le hp hd j
theorem perI_le {E : Rel} {d : Nat → Nat} {n M : Nat} (hd : ∀ i, d i + 1 ≤ M) : ∀ i, perI E d n i ≤ M
  | 0 => Nat.zero_le _
  | i + 1 => perJ_le (perI_le hd i) (hd i) n
theorem bPut_le {E : Rel} {a tt : Nat} {s : BSt} (h : ∀ x, s.d x ≤ s.q.length) : ∀ x, (bPut E a tt s).d x ≤ (bPut E a tt s).q.length := by
  intro x
  unfold bPut
  split
  · show (if x = tt then s.d a + 1 else s.d x) ≤ (s.q ++ [tt]).length
    rw [List.length_append, List.length_singleton]
    have h1 := h a
    have h2 := h x
    split <;> omega
  · exact h x
theorem bRow_le {E : Rel} {a : Nat} {s : BSt} (h : ∀ x, s.d x ≤ s.q.length) : ∀ j, ∀ x, (bRow E a j s).d x ≤ (bRow E a j s).q.length
  | 0 => h
  | j + 1 => bPut_le (bRow_le h j)
theorem bAll_le {E : Rel} {n : Nat} : ∀ k, ∀ x, (bAll E n k).d x ≤ (bAll E n k).q.length
  | 0 => fun x => by simp [bAll]
  | k + 1 => by
    simp only [bAll]
    split
    · exact bRow_le (bAll_le k) n
    · exact bAll_le k
theorem fw_into_lt {R : Rel} {n : Nat} {S : Nat → Prop} (h : ∀ i k, i < n → k < n → R i k = true → S i → S k) (m : Nat) (hm : m ≤ n) : ∀ i k, i < n → k < n → fwR R m i k = true → S i → S k := by
  induction m with
  | zero => exact h
  | succ m ih =>
    intro i k hi hk h1 hs
    simp only [fwR, stg, Bool.or_eq_true, Bool.and_eq_true] at h1
    rcases h1 with h1 | ⟨h1, h2⟩
    · exact ih (by omega) i k hi hk h1 hs
    · exact ih (by omega) m k (by omega) hk h2 (ih (by omega) i m hi (by omega) h1 hs)
/-- There is just one strong part, and it has all words. -/
def oneAll (Q : Rel) (n : Nat) : Bool := decide ((partsL Q n n).length = 1 ∧ ((partsL Q n n).getD 0 []).length = n)
theorem oneAll_ways {Q : Rel} {n : Nat} (h : oneAll Q n = true) (hc : ∀ b, b < n → ∀ i k, Q i b = true → Q b k = true → Q i k = true) : 0 < n ∧ ∀ x, x < n → Q 0 x = true := by
  unfold oneAll at h
  rw [decide_eq_true_eq] at h
  obtain ⟨h1, h2⟩ := h
  have hm : (partsL Q n n).getD 0 [] ∈ partsL Q n n := by simp [List.getD, h1]
  generalize (partsL Q n n).getD 0 [] = r at *
  simp only [partsL, List.mem_map, List.mem_filter, List.mem_range] at hm
  obtain ⟨i, ⟨hi, -⟩, rfl⟩ := hm
  rw [List.length_map] at h2
  have hall : ∀ k, k < n → (Q i k && Q k i) = true := by
    intro k hk
    refine filter_all (p := fun k => Q i k && Q k i) (l := List.range n) ?_ k (List.mem_range.2 hk)
    rw [List.length_range]; exact h2
  refine ⟨by omega, fun x hx => ?_⟩
  have h3 := hall 0 (by omega)
  have h4 := hall x hx
  rw [Bool.and_eq_true] at h3 h4
  exact hc i hi 0 x h3.2 h4.1
/-- All is reached, and edges go at most one further. -/
theorem period_facts {R : Rel} {n : Nat} (h : oneAll (fwR R n) n = true) : 0 < n ∧ (∀ x, x < n → x ∈ (bAll R n n).q) ∧ ∀ i j, i < n → j < n → R i j = true → (bAll R n n).d j ≤ (bAll R n n).d i + 1 := by
  obtain ⟨hn, hw⟩ := oneAll_ways h (fun b hb => fw_closed R n b hb)
  have hend : ∃ k, k = (bAll R n k).q.length := by
    -- the rounds come to an end
    have key : ∀ t, (∃ k, k ≤ t ∧ k = (bAll R n k).q.length) ∨ t < (bAll R n t).q.length := by
      intro t
      induction t with
      | zero => right; simp [bAll]
      | succ t ih =>
        rcases ih with ⟨k, h1, h2⟩ | h1
        · exact Or.inl ⟨k, by omega, h2⟩
        · have hb := bok_all (E := R) hn t (by omega)
          have h3 : bAll R n (t + 1) = bRow R ((bAll R n t).q.getD t 0) n (bAll R n t) := by simp only [bAll, if_pos h1]
          have h4 := (bok_row hb h1 rfl n (Nat.le_refl _)).2.2.1
          rw [← h3] at h4
          rcases Nat.lt_or_ge (t + 1) (bAll R n (t + 1)).q.length with h5 | h5
          · exact Or.inr h5
          · exact Or.inl ⟨t + 1, Nat.le_refl _, by omega⟩
    rcases key (n + 1) with ⟨k, -, h2⟩ | h1
    · exact ⟨k, h2⟩
    · have := (bok_all (E := R) hn (n + 1) (by omega)).len
      omega
  obtain ⟨k, hk⟩ := hend
  obtain ⟨he, -⟩ := bAll_end hn hk
  obtain ⟨h0, hcl⟩ := bAll_facts hn hk
  rw [he]
  have hq : ∀ x, x < n → x ∈ (bAll R n k).q := fun x hx =>
    fw_into_lt (S := fun y => y ∈ (bAll R n k).q) (fun i j _ hj hR hs => (hcl i hs j hj hR).1) n (Nat.le_refl _) 0 x hn hx (hw x hx) h0
  exact ⟨hn, hq, fun i j hi hj hR => (hcl i (hq i hi) j hj hR).2⟩

end

section
set_option linter.unusedVariables false
set_option linter.unusedSimpArgs false
open Go.RowKit Go.Sort

/-- Words as numbers. -/
def qI (l : List Nat) : List Int := l.map fun k : Nat => (k : Int)
theorem qI_len (l : List Nat) : (qI l).length = l.length := by simp [qI]
theorem qI_at {l : List Nat} {k : Nat} (hk : k < l.length) : (qI l).getD k 0 = (l.getD k 0 : Nat) := by simp [qI, List.getD, hk]
theorem qI_snoc (l : List Nat) (x : Nat) : qI (l ++ [x]) = qI l ++ [(x : Int)] := by simp [qI]
theorem mem_qI {l : List Nat} {x : Nat} : (x : Int) ∈ qI l ↔ x ∈ l := by
  unfold qI
  rw [List.mem_map]
  constructor
  · rintro ⟨y, hy, e⟩
    obtain rfl : y = x := by omega
    exact hy
  · intro h; exact ⟨x, h, rfl⟩

set_option maxRecDepth 100000 in
set_option maxHeartbeats 1000000 in
theorem index_any (A : Option Addr) (n c : Nat) (xs : List Int) (y : Int) (w : World) (hn : n ≤ 1048576) (hl : xs.length = n) (hA : IR w w.heap.size A xs) :
    Calls Try.prog 158 #[.slice A n c, .int .i64 y] w fun e w' => (∃ r : Int, e = .returned (.int .i64 r) ∧ (0 ≤ r ↔ y ∈ xs) ∧ r < 1048576 ∧ -1 ≤ r) ∧ Ext w w' := by
  have HA := Lib.hid hA
  clear hA
  go_enter Try.func158, Try.ntmps158
  go_wp2_with fail
  go_loopw [8] (fun ii wr => ∃ k : Nat, k ≤ n ∧ ii = .int .i64 k ∧ (∀ j, j < k → xs.getD j 0 ≠ y) ∧ wr = w) (fun ii _ => n - (intOf ii).toNat)
  case atStart => exact ⟨0, Nat.zero_le _, rfl, fun j hj => absurd hj (Nat.not_lt_zero _), rfl⟩
  case round =>
    obtain ⟨k, hk, rfl, hno, rfl⟩ := hrel
    have HNO := Lib.hid hno
    clear hno
    by_cases hlt : k < n
    · have hlt3 : (k : Int) < (n : Int) := by omega
      obtain ⟨b, off, rfl, -, hc⟩ := HA.out (by omega)
      have q1 := hc k (by omega)
      have HX := Lib.hid (show xs.getD k 0 ∈ xs by simp [List.getD, show k < xs.length by omega])
      obtain ⟨x, hx⟩ : ∃ x, x = xs.getD k 0 := ⟨_, rfl⟩
      rw [← hx] at q1 HX
      have HE := Lib.hid hx
      clear hc hx
      by_cases hxy : y = x
      · subst hxy
        go_wp2_with fail
        go_ret
        exact ⟨⟨(k : Int), rfl, ⟨fun _ => HX.out, fun _ => by omega⟩, by omega, by omega⟩, Ext.refl _⟩
      · have hb : (y == x) = false := by simpa using hxy
        have HN2 := Lib.hid (show ∀ j, j < k + 1 → xs.getD j 0 ≠ y from fun j hj => by
          by_cases e : j = k
          · subst e; rw [← HE.out]; exact fun e => hxy e.symm
          · exact HNO.out j (by omega))
        go_wp2_with fail
        go_roundw
        case rel => exact ⟨k + 1, by omega, by go_num, HN2.out, trivial⟩
        case measure => simp [intOf]; omega
    · obtain rfl : k = n := by omega
      go_wp2_with fail
      go_ret
      refine ⟨⟨-1, rfl, ⟨fun h => by omega, fun h => ?_⟩, by omega, by omega⟩, Ext.refl _⟩
      obtain ⟨j, hj, e⟩ := List.getElem_of_mem h
      exact absurd (by simp [List.getD, hj, e]) (HNO.out j (by omega))
set_option maxRecDepth 100000 in
set_option maxHeartbeats 1000000 in
theorem containsN_any (A : Option Addr) (n c : Nat) (xs : List Int) (y : Int) (w : World) (hn : n ≤ 1048576) (hl : xs.length = n) (hA : IR w w.heap.size A xs) :
    Calls Try.prog 147 #[.slice A n c, .int .i64 y] w fun e w' => e = .returned (.bool (decide (y ∈ xs))) ∧ Ext w w' := by
  have HI := Lib.hid (index_any A n c xs y w hn hl hA)
  clear hA
  go_enter Try.func147, Try.ntmps147
  go_wp2_with fail
  refine HI.out.mono ?_
  rintro e w1 ⟨⟨r, rfl, hr, hr1, hr2⟩, hx⟩
  have HR := Lib.hid hr
  have HX := Lib.hid hx
  clear hr hx
  by_cases h0 : 0 ≤ r
  · have hm := HR.out.1 h0
    have HM := Lib.hid hm
    clear hm
    go_wp2_with fail
    go_ret
    exact ⟨by rw [decide_eq_true HM.out]; rfl, HX.out⟩
  · have HM := Lib.hid (fun h => h0 (HR.out.2 h))
    go_wp2_with fail
    go_ret
    refine ⟨?_, HX.out⟩
    rw [decide_eq_false HM.out]
    exact congrArg (fun b => Ending.returned (.bool b)) (decide_eq_false (Int.not_le.2 h0))

theorem info_intN : (Try.prog.info? 3).map (fun i => (i.zero, i.size, i.bytes)) = some (some (.int .i64 0), 1, 8) := by kernel_rfl
/-- 'append(numbers, y)' at []int. -/
theorem wpList_pushN {w : World} {ops : Array Oper} {rest : List Oper} {o : Oper} {a : Act} {K : Exit → Act → World → Prop} (hgd : o.guard = none) (s x : Operand)
    (ho : o.op = .call { callee := .builtin .append, args := #[s, x], argTypes := #[122, 122] })
    (base : Nat) (v : Value) (xs : List Int) (hs : a.eval s = v) (hown : w.ownsRow base 3 1 v xs.length (vis xs))
    (g : Nat) (y : Int) (hx : a.eval x = .slice (some ⟨g, 0, none⟩) 1 1) (hb : Blk w g 3 #[.int .i64 y]) (h63 : xs.length + 1 ≤ 1048577) (hbase : base ≤ w.heap.size)
    (hK : ∀ v' w', w'.ownsRow base 3 1 v' (xs ++ [y]).length (vis (xs ++ [y])) → w.grownBy w' v.ownBlock → (v'.ownBlock = v.ownBlock ∨ v'.ownBlock = some w.heap.size) → wpList Try.prog ops K rest (a.put o.dst v') w') :
    wpList Try.prog ops K (o :: rest) a w := by
  obtain ⟨i0, hi, hz0, hz1, hz2⟩ := info_parts info_intN
  refine wpList_append_any w hgd s x _ ho base 3 i0 _ 1 8 Try.underlying122 hi hz0 hz1 hz2 rfl (by decide) v xs.length (vis xs) hs hown w.heap.size _ 1 _ [vi y] hx ⟨rfl, fun _ => ⟨_, rfl, hb.lt, fun j u hu => ?_⟩⟩ (by simp [vi, Value.oneCell']) (by unfold maxLen; omega) (by omega) hbase fun v' w' h1 h2 h3 => hK v' w' ?_ h2 h3
  · rcases j with _ | j
    · simp at hu
      subst hu
      rw [Go.WideShapes.add_plain]
      exact hb.cell 0
    · simp at hu
  · rw [vis_snoc, List.length_append]; exact h1
theorem own_irN {w : World} {base : Nat} {v : Value} {xs : List Int} (h : w.ownsRow base 3 1 v xs.length (vis xs)) (h0 : 0 < xs.length) : ∃ g cap, v = .slice (some ⟨g, 0, none⟩) xs.length cap ∧ g < w.heap.size ∧ IR w w.heap.size (some ⟨g, 0, none⟩) xs := by
  obtain ⟨g, cap, hv, hbg, hlt⟩ := h.form h0
  subst hv
  refine ⟨g, cap, rfl, hlt, fun _ => ⟨g, 0, rfl, hlt, fun k hk => ?_⟩⟩
  rw [Nat.zero_add, h.cellAt k (by omega)]
  simp [vis, vi, List.getD, hk]
theorem own_len {w : World} {base t k : Nat} {v : Value} {n m : Nat} {X : List Value} (h : w.ownsRow base t k v n X) (e : n = m) : w.ownsRow base t k v m X := e ▸ h
set_option maxRecDepth 100000 in
set_option maxHeartbeats 1000000 in
theorem distances_any (A : Option Addr) (n c : Nat) (f : Nat → Nat → Int) (w : World) (hn0 : 0 < n) (hn : n ≤ 40) (hA : IRR w w.heap.size A (matL n f)) :
    Calls Try.prog 112 #[.slice A n c] w fun e w' => ∃ g, e = .returned (.slice (some ⟨g, 0, none⟩) n n) ∧ Below w.heap.size w w' ∧ DI w' g n (fun x => (((bAll (relF f) n n).d x : Nat) : Int)) := by
  obtain ⟨i1, hi1, hy0, hy1, hy2⟩ := info_parts info_int
  have hmk1 := fun W => run_make_rowN (P := Try.prog) 42 2 i1 _ (by kernel_rfl) hi1 hy0 .i64 .i64 n n (Nat.le_refl _) (by rw [hy2]; omega) (by omega) W
  rw [hy1] at hmk1
  have hat := made_ints n
  have hsz := show (madeCells (Value.cells (.int .i64 0)) (n * 1)).size = n by rw [size_madeCells, Nat.mul_one]
  generalize madeCells (Value.cells (.int .i64 0)) (n * 1) = cs1 at hmk1 hat hsz
  have HA := Lib.hid hA
  clear hi1 hy0 hy1 hy2 hA
  have HD0 := Lib.hid (show DI ((w.alloc (Obj.cells cs1 2)).alloc (Obj.cells #[.int .i64 0] 3)) w.heap.size n (fun x => (((bAll (relF f) n 0).d x : Nat) : Int)) from ⟨cs1, (Blk.new w _ _).ext ((Ext.refl _).alloc _), hsz, fun j hj => hat j hj⟩)
  have HO0 := Lib.hid (show ((w.alloc (Obj.cells cs1 2)).alloc (Obj.cells #[.int .i64 0] 3)).ownsRow (w.heap.size + 1) 3 1 (.slice (some ⟨w.heap.size + 1, 0, none⟩) 1 1) (qI (bAll (relF f) n 0).q).length (vis (qI (bAll (relF f) n 0).q)) from
    ⟨rfl, .inr ⟨w.heap.size + 1, 1, #[.int .i64 0], rfl, Nat.le_refl _, by have := Blk.new (w.alloc (Obj.cells cs1 2)) 3 #[.int .i64 0]; simpa [Blk] using this, Nat.le_refl _, by unfold maxLen; omega, rfl, rfl⟩⟩)
  have HB0 := Lib.hid ((((Ext.refl w).alloc (Obj.cells cs1 2)).alloc (Obj.cells #[.int .i64 0] 3)).below (Nat.le_refl w.heap.size))
  have hs0 : w.heap.size + 2 ≤ ((w.alloc (Obj.cells cs1 2)).alloc (Obj.cells #[.int .i64 0] 3)).heap.size := by simp
  clear hat hsz
  go_enter Try.func112, Try.ntmps112
  go_wp2_with fail
  generalize ((w.alloc (Obj.cells cs1 2)).alloc (Obj.cells #[.int .i64 0] 3)) = W1 at *
  clear hmk1
  go_loopw [4, 5] (fun v ii wr => ∃ k : Nat, k ≤ (bAll (relF f) n k).q.length ∧ ii = .int .i64 k ∧ wr.ownsRow (w.heap.size + 1) 3 1 v (qI (bAll (relF f) n k).q).length (vis (qI (bAll (relF f) n k).q)) ∧ DI wr w.heap.size n (fun x => (((bAll (relF f) n k).d x : Nat) : Int)) ∧ Below w.heap.size w wr ∧ w.heap.size + 2 ≤ wr.heap.size) (fun _ ii _ => n - (intOf ii).toNat)
  case atStart => exact ⟨0, Nat.zero_le _, rfl, HO0.out, HD0.out, HB0.out, hs0⟩
  case round =>
    obtain ⟨k, hk, rfl, hown, hdi, hb, hsw⟩ := hrel
    have hbok := bok_all (E := relF f) hn0 k hk
    have hlen := hbok.len
    have HBO := Lib.hid hbok
    have HDL := Lib.hid (bAll_le (E := relF f) (n := n) k)
    have HNX := Lib.hid (show ∀ h : k < (bAll (relF f) n k).q.length, bAll (relF f) n (k + 1) = bRow (relF f) ((bAll (relF f) n k).q.getD k 0) n (bAll (relF f) n k) from fun h => by simp only [bAll, if_pos h])
    have HEN := Lib.hid (fun (h : k = (bAll (relF f) n k).q.length) => (bAll_end hn0 h).1)
    have hpos : 0 < (bAll (relF f) n k).q.length := by
      have := hbok.zero
      exact List.length_pos_of_mem this
    generalize bAll (relF f) n k = s at *
    obtain ⟨g, cap, hv, hgl, hir⟩ := own_irN hown (by rw [qI_len]; exact hpos)
    subst hv
    rw [qI_len] at hown ⊢
    have HO := Lib.hid hown
    have HD := Lib.hid hdi
    have HB := Lib.hid hb
    have HIR := Lib.hid hir
    clear hown hdi hb hir
    by_cases hlt : k < s.q.length
    · have hlt3 : (k : Int) < (s.q.length : Int) := by omega
      obtain ⟨bg, og, eg, -, hcg⟩ := HIR.out (by rw [qI_len]; exact hpos)
      cases eg
      have q1 := hcg k (by rw [qI_len]; exact hlt)
      rw [qI_at hlt, Nat.zero_add] at q1
      have ha := HBO.out.lt (s.q.getD k 0) (getD_in hlt)
      have HROW := Lib.hid (fun j (hj : j ≤ n) => bok_row HBO.out hlt rfl j hj)
      have HRL := Lib.hid (fun j => bRow_le (E := relF f) (a := s.q.getD k 0) HDL.out j)
      have HNX2 := Lib.hid (HNX.out hlt)
      obtain ⟨a, haa⟩ : ∃ a, a = s.q.getD k 0 := ⟨_, rfl⟩
      rw [← haa] at q1 ha HROW HRL HNX2
      have HAA := Lib.hid haa
      clear haa hcg
      obtain ⟨bA, oA, Q, x, qc, rfl, hbA, hQ, hnq, e1, hrow⟩ := irr_mat HA.out ha
      have HRW := Lib.hid hrow
      replace e1 := (HB.out.cell (p := ⟨bA, oA + a, none⟩) hbA).trans e1
      have ha3 : (a : Int) < (n : Int) := by omega
      clear hrow
      go_wp2_with fail
      go_loopw [4, 28] (fun v jj wr => ∃ j : Nat, j ≤ n ∧ jj = .int .i64 j ∧ wr.ownsRow (w.heap.size + 1) 3 1 v (bRow (relF f) a j s).q.length (vis (qI (bRow (relF f) a j s).q)) ∧ DI wr w.heap.size n (fun x => (((bRow (relF f) a j s).d x : Nat) : Int)) ∧ Below w.heap.size w wr ∧ w.heap.size + 2 ≤ wr.heap.size) (fun _ jj _ => n - (intOf jj).toNat)
      case atStart => exact ⟨0, Nat.zero_le _, rfl, HO.out, HD.out, HB.out, hsw⟩
      case round =>
        obtain ⟨j, hj, rfl, hown, hdi, hb, hsw2⟩ := hrel
        obtain ⟨hb2, -, hl2, -⟩ := HROW.out j hj
        have hl3 := hb2.len
        have hdl := HRL.out j a
        have HST := Lib.hid (show bRow (relF f) a (j + 1) s = bPut (relF f) a j (bRow (relF f) a j s) from rfl)
        generalize hs2 : bRow (relF f) a j s = s2 at *
        have HS2 := Lib.hid hs2
        clear hs2
        have hp2 : 0 < s2.q.length := by omega
        have hown2 := own_len hown (qI_len s2.q).symm
        obtain ⟨g2, cap2, hv2, hgl2, hir2⟩ := own_irN hown2 (by rw [qI_len]; exact hp2)
        subst hv2
        rw [qI_len] at hown2 ⊢
        have HO2 := Lib.hid hown2
        have HD2 := Lib.hid hdi
        have HB2 := Lib.hid hb
        have HIR2 := Lib.hid hir2
        have hgb := (hown2.lt g2 rfl).1
        by_cases hltj : j < n
        · have hltj3 : (j : Int) < (n : Int) := by omega
          have q2 := (hb.cell (p := ⟨Q, x + j, none⟩) hQ).trans (HRW.out j hltj)
          have HRF := Lib.hid (show relF f a j = decide (0 < f a j) from rfl)
          generalize f a j = y at q2 HRF
          have hct := containsN_any (some ⟨g2, 0, none⟩) s2.q.length cap2 (qI s2.q) (j : Int) wr (by omega) (qI_len _) hir2
          have HCT := Lib.hid hct
          have d1 := (hdi.at_ ha).1
          obtain ⟨d2, z2⟩ := hdi.at_ hltj
          clear hown hdi hb hir2 hown2 hct
          by_cases hy : 0 < y
          · by_cases hm : j ∈ s2.q
            · have HSS := Lib.hid (show bRow (relF f) a (j + 1) s = s2 by rw [HST.out]; unfold bPut; rw [if_neg (by simp [hm])])
              have HMD := Lib.hid (show decide ((j : Int) ∈ qI s2.q) = true from decide_eq_true (mem_qI.2 hm))
              clear d1 d2 z2
              go_wp2_with fail
              refine HCT.out.mono ?_
              rintro e w3 ⟨rfl, hx3⟩
              rw [HMD.out]
              have HO3 := Lib.hid (own_belowA HO2.out (hx3.below (Nat.le_refl _)))
              have HD3 := Lib.hid (HD2.out.below (hx3.below (Nat.le_refl _)) HD2.out.lt)
              have HB3 := Lib.hid (HB2.out.trans (hx3.below (by omega)))
              have hs3 := (hx3.below (Nat.le_refl _)).size
              clear hx3
              go_wp2_with fail
              go_roundw
              case rel => exact ⟨j + 1, by omega, by go_num, by rw [HSS.out]; exact HO3.out, by rw [HSS.out]; exact HD3.out, HB3.out, by omega⟩
              case measure => simp [intOf]; omega
            · have HSS := Lib.hid (show bRow (relF f) a (j + 1) s = ⟨s2.q ++ [j], fun x => if x = j then s2.d a + 1 else s2.d x⟩ by rw [HST.out]; unfold bPut; rw [if_pos (by rw [HRF.out]; simp [hm, hy])])
              have HMD := Lib.hid (show decide ((j : Int) ∈ qI s2.q) = false from decide_eq_false fun h => hm (mem_qI.1 h))
              go_wp2_with fail
              refine HCT.out.mono ?_
              rintro e w3 ⟨rfl, hx3⟩
              rw [HMD.out]
              have hbx := hx3.below (Nat.le_refl wr.heap.size)
              have ho3 := own_belowA HO2.out hbx
              have hd3 := HD2.out.below hbx HD2.out.lt
              have hb3 := HB2.out.trans (hx3.below (B := w.heap.size) (by omega))
              have hs3 := hbx.size
              replace d1 := (hd3.at_ ha).1
              obtain ⟨d2, z2⟩ := hd3.at_ hltj
              have hd4 := hd3.set_ hltj ((s2.d a : Int) + 1)
              have ho4 := own_set_far ho3 (p := ⟨w.heap.size, j, none⟩) (show w.heap.size < w.heap.size + 1 by omega) (.int .i64 ((s2.d a : Int) + 1))
              have hb4 := hb3.setCell (p := ⟨w.heap.size, j, none⟩) (Nat.le_refl _) (.int .i64 ((s2.d a : Int) + 1))
              have HD4 := Lib.hid (hd4.congr (d' := fun x => (((if x = j then s2.d a + 1 else s2.d x : Nat)) : Int)) fun x _ => by
                by_cases e : x = j
                · simp [e]
                · simp [e])
              have HO4 := Lib.hid (own_len ho4 (qI_len s2.q).symm)
              have HB4 := Lib.hid hb4
              have HBK := Lib.hid (show Blk ((w3.setCell ⟨w.heap.size, j, none⟩ (.int .i64 ((s2.d a : Int) + 1))).alloc (Obj.cells #[.int .i64 (j : Int)] 3)) w3.heap.size 3 #[.int .i64 (j : Int)] by have := Blk.new (w3.setCell ⟨w.heap.size, j, none⟩ (.int .i64 ((s2.d a : Int) + 1))) 3 #[.int .i64 (j : Int)]; simpa using this)
              have hsz4 : (w3.setCell ⟨w.heap.size, j, none⟩ (.int .i64 ((s2.d a : Int) + 1))).heap.size = w3.heap.size := by simp
              generalize s2.d a = da at *
              have hwd : IntKind.i64.wrap ((da : Int) + 1) = (da : Int) + 1 := IntWalk.i64_in _ (by omega)
              have HQL := Lib.hid (qI_len s2.q)
              have HQS := Lib.hid (qI_snoc s2.q j)
              have HLQ := Lib.hid (show (qI s2.q).length + 1 ≤ 1048577 by rw [qI_len]; omega)
              obtain ⟨xs, hxs⟩ : ∃ xs, xs = qI s2.q := ⟨_, rfl⟩
              rw [← hxs] at HO4 HQL HQS HLQ
              clear hx3 hbx ho3 hd3 hb3 hd4 ho4 hb4 hxs
              go_wp2_with (at_builtin; go_loud (refine wpList_pushN rfl _ _ rfl (w.heap.size + 1) _ xs rfl (own_belowA HO4.out (((Ext.refl _).alloc _).below (Nat.le_refl _))) w3.heap.size (j : Int) rfl HBK.out HLQ.out ?c2 ?_))
              case c2 => simp; omega
              intro v' w5 hown5 hgrow5 _
              have O5 := Lib.hid (show w5.ownsRow (w.heap.size + 1) 3 1 v' (bRow (relF f) a (j + 1) s).q.length (vis (qI (bRow (relF f) a (j + 1) s).q)) by rw [HSS.out]; show w5.ownsRow (w.heap.size + 1) 3 1 v' (s2.q ++ [j]).length (vis (qI (s2.q ++ [j]))); rw [HQS.out, List.length_append, ← HQL.out]; simpa using hown5)
              have hbg := ((Below.refl (w.heap.size + 1) (w3.setCell ⟨w.heap.size, j, none⟩ (.int .i64 ((da : Int) + 1)))).alloc (by simp; omega) (Obj.cells #[.int .i64 (j : Int)] 3)).grown hgrow5 (by simp; omega) (fun l hl => (HO4.out.lt l hl).1)
              have D5 := Lib.hid (show DI w5 w.heap.size n (fun x => (((bRow (relF f) a (j + 1) s).d x : Nat) : Int)) by rw [HSS.out]; exact HD4.out.below hbg (Nat.lt_succ_self _))
              have B5 := Lib.hid (HB4.out.trans (hbg.mono (by omega)))
              have S5 := Lib.hid (show w.heap.size + 2 ≤ w5.heap.size by have := hbg.size; simp at this; omega)
              clear hown5 hgrow5 hbg
              go_wp2_with fail
              go_roundw
              case rel => exact ⟨j + 1, by omega, by go_num, O5.out, D5.out, B5.out, S5.out⟩
              case measure => simp [intOf]; omega
          · have HSS := Lib.hid (show bRow (relF f) a (j + 1) s = s2 by rw [HST.out]; unfold bPut; rw [if_neg (by rw [HRF.out]; simp [hy])])
            clear d1 d2 z2
            go_wp2_with fail
            go_roundw
            case rel => exact ⟨j + 1, by omega, by go_num, by rw [HSS.out]; exact HO2.out, by rw [HSS.out]; exact HD2.out, HB2.out, by omega⟩
            case measure => simp [intOf]; omega
        · obtain rfl : j = n := by omega
          have HE2 := Lib.hid (HNX2.out.trans HS2.out)
          have HSK := Lib.hid (show k + 1 ≤ (bAll (relF f) j (k + 1)).q.length by rw [HE2.out]; exact Nat.le_trans hlt hl2)
          have HO3 := Lib.hid (show wr.ownsRow (w.heap.size + 1) 3 1 (.slice (some ⟨g2, 0, none⟩) s2.q.length cap2) (qI (bAll (relF f) j (k + 1)).q).length (vis (qI (bAll (relF f) j (k + 1)).q)) by rw [HE2.out]; exact own_len HO2.out (qI_len s2.q).symm)
          have HD3 := Lib.hid (show DI wr w.heap.size j (fun x => (((bAll (relF f) j (k + 1)).d x : Nat) : Int)) by rw [HE2.out]; exact hdi)
          clear hown hdi hb hir2 hown2
          go_wp2_with fail
          go_roundw
          case rel => exact ⟨k + 1, HSK.out, by go_num, HO3.out, HD3.out, HB2.out, hsw2⟩
          case measure => simp [intOf]; omega
    · have hke : k = s.q.length := by omega
      have HDE := Lib.hid (show DI _ w.heap.size n (fun x => (((bAll (relF f) n n).d x : Nat) : Int)) by rw [HEN.out hke]; exact HD.out)
      have hnl : ¬ (k : Int) < (s.q.length : Int) := by omega
      go_wp2_with fail
      go_ret
      exact ⟨w.heap.size, rfl, HB.out, HDE.out⟩
end

section
set_option linter.unusedVariables false
set_option linter.unusedSimpArgs false
open Go.RowKit Go.Sort

theorem bAll_len {R : Rel} {n : Nat} (hn : 0 < n) (k : Nat) : (bAll R n k).q.length ≤ n := by
  have h : ∃ t, t ≤ (bAll R n t).q.length ∧ bAll R n k = bAll R n t := by
    induction k with
    | zero => exact ⟨0, Nat.zero_le _, rfl⟩
    | succ k ih =>
      by_cases hk : k < (bAll R n k).q.length
      · have hb := bok_all (E := R) hn k (by omega)
        have h4 := (bok_row hb hk rfl n (Nat.le_refl _)).2.2.1
        refine ⟨k + 1, ?_, rfl⟩
        simp only [bAll, if_pos hk]
        omega
      · obtain ⟨t, h1, h2⟩ := ih
        refine ⟨t, h1, ?_⟩
        simp only [bAll, if_neg hk]
        exact h2
  obtain ⟨t, h1, h2⟩ := h
  rw [h2]
  exact (bok_all (E := R) hn t h1).len
theorem perJ_step (E : Rel) (d : Nat → Nat) (i p j : Nat) : perJ E d i p (j + 1) = if E i j = true then Nat.gcd (perJ E d i p j) (d i + 1 - d j) else perJ E d i p j := rfl
/-- The period of a table. -/
def perT (f : Nat → Nat → Int) (n : Nat) : Nat := perI (relF f) (bAll (relF f) n n).d n n
theorem perT_le {f : Nat → Nat → Int} {n : Nat} (hn : 0 < n) : perT f n ≤ n + 1 := by
  refine perI_le (fun i => ?_) n
  have h1 := bAll_le (E := relF f) (n := n) n i
  have h2 := bAll_len (R := relF f) hn n
  omega

set_option maxRecDepth 100000 in
set_option maxHeartbeats 1000000 in
theorem periodOf_any (A : Option Addr) (n c : Nat) (f : Nat → Nat → Int) (w : World) (hn0 : 0 < n) (hn : n ≤ 40) (hA : IRR w w.heap.size A (matL n f)) (hone : oneAll (fwR (relF f) n) n = true) :
    Calls Try.prog 68 #[.slice A n c] w fun e w' => e = .returned (.int .i64 ((perT f n : Nat) : Int)) ∧ Below w.heap.size w w' := by
  have hdc := distances_any A n c f w hn0 hn hA
  obtain ⟨-, -, hedge⟩ := period_facts hone
  have hdn : ∀ x, (bAll (relF f) n n).d x ≤ 40 := fun x => by
    have h1 := bAll_le (E := relF f) (n := n) n x
    have h2 := bAll_len (R := relF f) hn0 n
    omega
  unfold perT
  generalize (bAll (relF f) n n).d = d at *
  have hpi : ∀ i, perI (relF f) d n i ≤ 41 := perI_le (M := 41) fun i => by have := hdn i; omega
  have hpj : ∀ i j, perJ (relF f) d i (perI (relF f) d n i) j ≤ 41 := fun i j => perJ_le (hpi i) (by have := hdn i; omega) j
  have HD := Lib.hid hdc
  have HE := Lib.hid hedge
  have HDN := Lib.hid hdn
  have HPJ := Lib.hid hpj
  have HA := Lib.hid hA
  clear hdc hedge hdn hpi hpj hA hone
  go_enter Try.func68, Try.ntmps68
  go_wp2_with fail
  refine HD.out.mono ?_
  rintro e w1 ⟨g, rfl, hb1, hdi⟩
  have HB1 := Lib.hid hb1
  have HDI := Lib.hid hdi
  clear hb1 hdi
  go_wp2_with fail
  go_loopw [4, 13] (fun pp ii wr => ∃ i : Nat, i ≤ n ∧ ii = .int .i64 i ∧ pp = .int .i64 ((perI (relF f) d n i : Nat) : Int) ∧ Ext w1 wr) (fun _ ii _ => n - (intOf ii).toNat)
  case atStart => exact ⟨0, Nat.zero_le _, rfl, rfl, Ext.refl _⟩
  case round =>
    obtain ⟨i, hi, rfl, rfl, hx⟩ := hrel
    have HX := Lib.hid hx
    clear hx
    by_cases hlt : i < n
    · have hlt3 : (i : Int) < (n : Int) := by omega
      obtain ⟨bA, oA, Q, x, qc, rfl, hbA, hQ, hnq, e1, hrow⟩ := irr_mat HA.out hlt
      have HB2 := Lib.hid (HB1.out.trans (HX.out.below (B := w.heap.size) HB1.out.size))
      have HRW := Lib.hid hrow
      replace e1 := (HB2.out.cell (p := ⟨bA, oA + i, none⟩) hbA).trans e1
      have HPI := Lib.hid (show perI (relF f) d n (i + 1) = perJ (relF f) d i (perI (relF f) d n i) n from rfl)
      have HJ0 := Lib.hid (show perI (relF f) d n i = perJ (relF f) d i (perI (relF f) d n i) 0 from rfl)
      have HPS := Lib.hid (fun j => perJ_step (relF f) d i (perI (relF f) d n i) j)
      have HPJ2 := Lib.hid (HPJ.out i)
      generalize hpp : perI (relF f) d n i = p0 at *
      clear hrow hpp
      go_wp2_with fail
      go_loopw [4, 20] (fun pp jj wr => ∃ j : Nat, j ≤ n ∧ jj = .int .i64 j ∧ pp = .int .i64 ((perJ (relF f) d i p0 j : Nat) : Int) ∧ Ext w1 wr) (fun _ jj _ => n - (intOf jj).toNat)
      case atStart => exact ⟨0, Nat.zero_le _, rfl, rfl, HX.out⟩
      case round =>
        obtain ⟨j, hj, rfl, rfl, hx⟩ := hrel
        have HX := Lib.hid hx
        have HST := Lib.hid (HPS.out j)
        have hpl := HPJ2.out j
        clear hx
        generalize hpq : perJ (relF f) d i p0 j = p at *
        have HPQ := Lib.hid hpq
        clear hpq
        by_cases hltj : j < n
        · have hltj3 : (j : Int) < (n : Int) := by omega
          have HB3 := Lib.hid (HB1.out.trans (HX.out.below (B := w.heap.size) HB1.out.size))
          have q2 := (HB3.out.cell (p := ⟨Q, x + j, none⟩) hQ).trans (HRW.out j hltj)
          have HRF := Lib.hid (show relF f i j = decide (0 < f i j) from rfl)
          have hed := HE.out i j hlt hltj
          generalize f i j = y at q2 HRF
          by_cases hy : 0 < y
          · have hr1 : relF f i j = true := by rw [HRF.out]; exact decide_eq_true hy
            have hle := hed hr1
            have HS2 := Lib.hid (show perJ (relF f) d i p0 (j + 1) = Nat.gcd p (d i + 1 - d j) by rw [HST.out, if_pos hr1])
            have hdi3 := HDI.out.below (HX.out.below (Nat.le_refl _)) HDI.out.lt
            have c1 := (hdi3.at_ hlt).1
            have c2 := (hdi3.at_ hltj).1
            have hgl := hdi3.lt
            have hd1 := HDN.out i
            have hd2 := HDN.out j
            have hcd : ∀ W, Calls Try.prog 113 #[.int .i64 (p : Int), .int .i64 ((d i + 1 - d j : Nat) : Int)] W _ := fun W => commonDivisor_any p (d i + 1 - d j) W (by omega) (by omega)
            rw [← HS2.out] at hcd
            generalize hp2 : perJ (relF f) d i p0 (j + 1) = p2 at *
            have HP2 := Lib.hid hp2
            clear hp2
            generalize d i = di at *
            generalize d j = dj at *
            have hg2 : (((di : Int) + 1) - (dj : Int)) = ((di + 1 - dj : Nat) : Int) := by omega
            generalize di + 1 - dj = gap at *
            have HF := Lib.hid hcd
            unfold Ext at HF
            have g1 := fun dn os => (cell?_grow (wr.drewN dn) os ⟨g, i, none⟩ (by have := World.block_lt_of_cell? wr _ c1; exact this)).trans c1
            have g2 := fun dn os => (cell?_grow (wr.drewN dn) os ⟨g, j, none⟩ (by have := World.block_lt_of_cell? wr _ c2; exact this)).trans c2
            have hw1 : IntKind.i64.wrap ((di : Int) + 1) = (di : Int) + 1 := IntWalk.i64_in _ (by omega)
            have hw2 : IntKind.i64.wrap ((di : Int) + 1 - (dj : Int)) = (gap : Int) := by rw [hg2]; exact IntWalk.i64_in _ (by omega)
            clear hcd hed hr1 hle hg2 hdi3
            go_wp2_with fail
            refine wp_region_quiet_grown mixed (by kernel_rfl) ?_
            repeat (go_big_quiet_step ((first | (go_at_call 113; with_reducible refine Calls.grown_of (HF.out _)))))
            refine wpQuiet_nil ?_
            intro _ hw'
            obtain ⟨⟨nq, osq⟩, hw''⟩ := hw'
            subst hw''
            have HX4 := Lib.hid (HX.out.trans ⟨nq, osq, rfl⟩)
            clear g1 g2 hw1 hw2
            go_wp2_with fail
            go_roundw
            case rel => exact ⟨j + 1, by omega, by go_num, by rw [HP2.out], HX4.out⟩
            case measure => simp [intOf]; omega
          · have HS2 := Lib.hid (show perJ (relF f) d i p0 (j + 1) = p by rw [HST.out, if_neg (by rw [HRF.out]; simp [hy])])
            clear hed
            go_wp2_with fail
            go_roundw
            case rel => exact ⟨j + 1, by omega, by go_num, by rw [HS2.out], HX.out⟩
            case measure => simp [intOf]; omega
        · obtain rfl : j = n := by omega
          have HS3 := Lib.hid (HPI.out.trans HPQ.out)
          go_wp2_with fail
          go_roundw
          case rel => exact ⟨i + 1, by omega, by go_num, by rw [HS3.out], HX.out⟩
          case measure => simp [intOf]; omega
    · obtain rfl : i = n := by omega
      have HB2 := Lib.hid (HB1.out.trans (HX.out.below (B := w.heap.size) HB1.out.size))
      go_wp2_with fail
      go_ret
      exact ⟨rfl, HB2.out⟩
end

section
set_option linter.unusedVariables false
set_option linter.unusedSimpArgs false
open Go.RowKit Go.Sort

/-- There is just one strong part, with all words. -/
noncomputable def pOne (E : List Tl) : Bool := oneAll (fwR (relF (tabF (wordsL E) (lastingT E))) (wordsL E).length) (wordsL E).length
noncomputable def pVal (E : List Tl) : Int := if pOne E = true then ((perT (tabF (wordsL E) (lastingT E)) (wordsL E).length : Nat) : Int) else 0
noncomputable def pCode (E : List Tl) : Int := if pOne E = true then 0 else 5
theorem oneAll_n {Q : Rel} {n : Nat} (h : oneAll Q n = true) (hc : ∀ b, b < n → ∀ i k, Q i b = true → Q b k = true → Q i k = true) : 0 < n := (oneAll_ways h hc).1

set_option maxRecDepth 100000 in
set_option maxHeartbeats 2000000 in
theorem implPeriod_0 (C : Nat) (A : Option Addr) (n c : Nat) (ts : List Tl) (h : Nat) (w : World) (hl : ts.length = n) (hA : TR w w.heap.size A ts) (hs : isSet (C : Int) ts = true) (h1 : 1 ≤ h) (h4 : h ≤ 4) (hC7 : C ^ h ≤ 700) (hN : (colsL ts h).length ≤ 5000) (h40 : (wordsL (edgesL (C : Int) ts h)).length ≤ 40) :
    Calls Try.prog 32 #[.agg #[.int .i64 (C : Int), .slice A n c], .int .i64 (h : Int)] w (IntRes w (pVal (edgesL (C : Int) ts h)) (pCode (edgesL (C : Int) ts h))) := by
  have hgo : ∀ W, Ext w W → Calls Try.prog 28 #[.agg #[.int .i64 (C : Int), .slice A n c], .int .i64 (h : Int)] W _ := fun W hW => implColumnTable_0 C A n c ts h W hl ((hA.ext hW (Nat.le_refl _)).more (hW.below (Nat.le_refl _)).size) hs h1 h4 hC7 hN h40
  unfold MatRes tabL at hgo
  have hsp : ∀ W (T : Option Addr) (p : Nat), IRR W W.heap.size T (matL (wordsL (edgesL (C : Int) ts h)).length (tabF (wordsL (edgesL (C : Int) ts h)) (lastingT (edgesL (C : Int) ts h)))) → Calls Try.prog 66 #[.slice T (wordsL (edgesL (C : Int) ts h)).length p] W _ := fun W T p hT => strongParts_any T _ p _ W h40 hT
  have hpo : oneAll (fwR (relF (tabF (wordsL (edgesL (C : Int) ts h)) (lastingT (edgesL (C : Int) ts h)))) (wordsL (edgesL (C : Int) ts h)).length) (wordsL (edgesL (C : Int) ts h)).length = true → ∀ W (T : Option Addr) (p : Nat), IRR W W.heap.size T (matL (wordsL (edgesL (C : Int) ts h)).length (tabF (wordsL (edgesL (C : Int) ts h)) (lastingT (edgesL (C : Int) ts h)))) → Calls Try.prog 68 #[.slice T (wordsL (edgesL (C : Int) ts h)).length p] W _ := fun ho W T p hT => periodOf_any T _ p _ W (oneAll_n ho (fun b hb => fw_closed _ _ b hb)) h40 hT ho
  simp only [matL_len] at hgo
  unfold pVal pCode pOne
  generalize (wordsL (edgesL (C : Int) ts h)).length = m at *
  generalize tabF (wordsL (edgesL (C : Int) ts h)) (lastingT (edgesL (C : Int) ts h)) = f at *
  generalize perT f m = pt at *
  have HON := Lib.hid (show oneAll (fwR (relF f) m) m = decide ((partsL (fwR (relF f) m) m m).length = 1 ∧ ((partsL (fwR (relF f) m) m m).getD 0 []).length = m) from rfl)
  have hpl := partsL_len (fwR (relF f) m) m m
  generalize oneAll (fwR (relF f) m) m = o at *
  generalize partsL (fwR (relF f) m) m m = ps at *
  obtain ⟨pv, hpv⟩ : ∃ pv : Int, pv = if o = true then (pt : Int) else 0 := ⟨_, rfl⟩
  obtain ⟨pc, hpc⟩ : ∃ pc : Int, pc = if o = true then 0 else 5 := ⟨_, rfl⟩
  rw [← hpv, ← hpc]
  have HV1 := Lib.hid (show o = true → (pt : Int) = pv ∧ (0 : Int) = pc from fun e => by rw [hpv, hpc, if_pos e, if_pos e]; exact ⟨rfl, rfl⟩)
  have HV0 := Lib.hid (show o = false → pv = 0 ∧ pc = 5 from fun e => by rw [hpv, hpc, e]; exact ⟨rfl, rfl⟩)
  clear hpv hpc
  have HG := Lib.hid hgo
  have HSP := Lib.hid hsp
  have HPO := Lib.hid hpo
  clear hgo hsp hpo hA hs
  go_enter Try.func32, Try.ntmps32
  go_wp2_with fail
  refine (HG.out _ ((Ext.refl w).alloc _)).mono ?_
  rintro e w1 ⟨T, p, rfl, hb, hm⟩
  have HB := Lib.hid ((((Ext.refl w).alloc (.cells #[.int .i64 (C : Int), .slice A n c] 30)).below (Nat.le_refl _)).trans (hb.mono (by simp)))
  have HI := Lib.hid hm.irr
  have hszb := HB.out.size
  clear hb hm
  go_wp2_with fail
  refine (HSP.out _ _ _ HI.out).mono ?_
  rintro e w2 ⟨T2, p2, rfl, hb2, hm2⟩
  have HB2 := Lib.hid (HB.out.trans (hb2.mono hszb))
  have HI2 := Lib.hid ((show IRR w2 w1.heap.size T _ from HI.out.keep fun b hb i => hb2.cell (p := ⟨b, i, none⟩) hb) |> fun h => h.more hb2.size)
  have HM := Lib.hid hm2.irr
  have hszb2 := HB2.out.size
  clear hb2 hm2
  by_cases hp1 : ps.length = 1
  · obtain ⟨b, off, rfl, hbb, hcc⟩ := HM.out (by omega)
    obtain ⟨Q, q, r1, r2, -⟩ := hcc 0 (by omega)
    rw [Nat.add_zero] at r1
    generalize (ps.getD 0 []).length = k at *
    rw [hp1]
    rw [hp1] at HON
    clear hcc
    by_cases hkm : k = m
    · have hO : o = true := by rw [HON.out]; exact decide_eq_true ⟨rfl, hkm⟩
      have hkm2 : ((k : Int) != (m : Int)) = false := by simp [hkm]
      have HC := Lib.hid (HPO.out hO w2 T p HI2.out)
      go_wp2_with fail
      refine HC.out.mono ?_
      rintro e w3 ⟨rfl, hb3⟩
      have HB3 := Lib.hid (HB2.out.trans (hb3.mono hszb2))
      clear hb3
      go_wp2_with fail
      go_ret2
      obtain ⟨e1, e2⟩ := HV1.out hO
      exact IntRes.mk (by rw [← e1, ← e2]; rfl) HB3.out
    · have hO : o = false := by rw [HON.out]; exact decide_eq_false fun hh => hkm hh.2
      have hkm2 : ((k : Int) != (m : Int)) = true := by simp; omega
      go_wp2_with fail
      go_ret2
      obtain ⟨e1, e2⟩ := HV0.out hO
      exact IntRes.mk (by rw [e1, e2]; rfl) HB2.out
  · have hO : o = false := by rw [HON.out]; exact decide_eq_false fun hh => hp1 hh.1
    have hpne : ((ps.length : Int) != 1) = true := by simp; omega
    go_wp2_with fail
    go_ret2
    obtain ⟨e1, e2⟩ := HV0.out hO
    exact IntRes.mk (by rw [e1, e2]; rfl) HB2.out

set_option maxRecDepth 100000 in
set_option maxHeartbeats 2000000 in
theorem implPeriod_no (c0 : Int) (A : Option Addr) (n c : Nat) (ts : List Tl) (h : Int) (w : World) (hn : n ≤ 1048576) (hl : ts.length = n) (hA : TR w w.heap.size A ts) (hg : tCode c0 ts h ≠ 0) :
    Calls Try.prog 32 #[.agg #[.int .i64 c0, .slice A n c], .int .i64 h] w (IntRes w 0 (tCode c0 ts h)) := by
  have hgo : ∀ W, Ext w W → Calls Try.prog 28 #[.agg #[.int .i64 c0, .slice A n c], .int .i64 h] W _ := fun W hW => implColumnTable_no c0 A n c ts h W hn hl ((hA.ext hW (Nat.le_refl _)).more (hW.below (Nat.le_refl _)).size) hg
  unfold MatRes at hgo
  generalize tCode c0 ts h = code at *
  have hne : (code != 0) = true := by simp [hg]
  have HG := Lib.hid hgo
  clear hgo hA
  go_enter Try.func32, Try.ntmps32
  go_wp2_with fail
  refine (HG.out _ ((Ext.refl w).alloc _)).mono ?_
  rintro e w1 ⟨T, p, rfl, hb, -⟩
  have HB := Lib.hid ((((Ext.refl w).alloc (.cells #[.int .i64 c0, .slice A n c] 30)).below (Nat.le_refl _)).trans (hb.mono (by simp)))
  clear hb
  go_wp2_with fail
  go_ret2
  exact IntRes.mk rfl HB.out
end
end Go.Proofs.Ytleabblnikbmpaa
