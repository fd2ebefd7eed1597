/- NumberRow: the row's tiles, and their places in the set. -/
import Derived.Test.YtnagpndclagfaaaDoorNr1
import Derived.Test.YtnagpndclagfaaaDoorMu3
import Derived.Test.YtnagpndclagfaaaDoorMu4
import Derived.Test.YtnagpndclagfaaaDoorIx1
namespace Go.Proofs.YtnagpndclagfaaaDoor
section
set_option linter.unusedVariables false
set_option linter.unusedSimpArgs false
open Go.RowKit Go.Sort

/-- The place of a tile in a list. -/
def posT : List Tl → Tl → Nat
  | [], _ => 0
  | x :: xs, t => if x = t then 0 else posT xs t + 1
theorem posT_lt {t : Tl} : ∀ {ts : List Tl}, t ∈ ts → posT ts t < ts.length
  | x :: xs, h => by
    unfold posT
    split
    · simp
    · rename_i hne
      have := posT_lt (List.mem_of_ne_of_mem (fun e => hne e.symm) h)
      simp only [List.length_cons]
      omega
theorem posT_get {t : Tl} : ∀ {ts : List Tl}, t ∈ ts → ts.getD (posT ts t) T0 = t
  | x :: xs, h => by
    unfold posT
    split
    · rename_i he
      simpa using he
    · rename_i hne
      simpa using posT_get (List.mem_of_ne_of_mem (fun e => hne e.symm) h)
theorem posT_ne {t : Tl} : ∀ {ts : List Tl} {i : Nat}, i < posT ts t → ts.getD i T0 ≠ t
  | [], i, h => by simp [posT] at h
  | x :: xs, 0, h => by
    unfold posT at h
    split at h
    · omega
    · rename_i hne
      simpa using hne
  | x :: xs, i + 1, h => by
    unfold posT at h
    split at h
    · omega
    · simpa using posT_ne (ts := xs) (i := i) (t := t) (by omega)
theorem asc_apart {ts : List Tl} (h : Asc ts) {i j : Nat} (hi : i < ts.length) (hj : j < ts.length) (hij : i ≠ j) : ts.getD i T0 ≠ ts.getD j T0 := by
  have key : ∀ i j, i < j → j < ts.length → ts.getD i T0 ≠ ts.getD j T0 := fun i j hlt hj e => by
    have hp := List.pairwise_iff_getElem.1 h i j (by omega) hj hlt
    rw [List.getD_eq_getElem?_getD, List.getD_eq_getElem?_getD, List.getElem?_eq_getElem (by omega), List.getElem?_eq_getElem hj, Option.getD_some, Option.getD_some] at e
    rw [e, before_irrefl] at hp
    cases hp
  rcases Nat.lt_or_gt_of_ne hij with hlt | hlt
  · exact key i j hlt hj
  · exact fun e => key j i hlt hi e.symm
theorem posT_only {ts : List Tl} (h : Asc ts) {t : Tl} (ht : t ∈ ts) {i : Nat} (hi : i < ts.length) : (ts.getD i T0 = t) ↔ i = posT ts t := by
  constructor
  · intro e
    by_cases hne : i = posT ts t
    · exact hne
    · exact absurd (e.trans (posT_get ht).symm) (asc_apart h hi (posT_lt ht) hne)
  · rintro rfl
    exact posT_get ht

theorem digsL_get (a b z : Nat) : ∀ {n k : Nat}, k < n → (digsL a b z n).getD k 0 = digN a b (z + k)
  | n + 1, k, hk => by
    simp only [digsL]
    by_cases h : k < n
    · rw [List.getD_eq_getElem?_getD, List.getElem?_append_left (by rw [digsL_len]; exact h), ← List.getD_eq_getElem?_getD]
      exact digsL_get a b z h
    · obtain rfl : k = n := by omega
      rw [List.getD_eq_getElem?_getD, List.getElem?_append_right (by rw [digsL_len]; exact Nat.le_refl _), digsL_len, Nat.sub_self]
      rfl
theorem carL_get (p q a b z : Nat) : ∀ {n k : Nat}, k < n → (carL p q a b z n).getD k 0 = carN p q a b (z + k)
  | n + 1, k, hk => by
    simp only [carL]
    by_cases h : k < n
    · rw [List.getD_eq_getElem?_getD, List.getElem?_append_left (by rw [carL_len]; exact h), ← List.getD_eq_getElem?_getD]
      exact carL_get p q a b z h
    · obtain rfl : k = n := by omega
      rw [List.getD_eq_getElem?_getD, List.getElem?_append_right (by rw [carL_len]; exact Nat.le_refl _), carL_len, Nat.sub_self]
      rfl
theorem leastN_le {xs : List Int} : ∀ {n k : Nat}, k ≤ n → leastN xs n ≤ xs.getD k 0
  | 0, k, h => by
    obtain rfl : k = 0 := by omega
    exact Int.le_refl _
  | n + 1, k, h => by
    simp only [leastN]
    by_cases hk : k = n + 1
    · subst hk; split <;> omega
    · have := leastN_le (xs := xs) (n := n) (k := k) (by omega)
      split <;> omega
theorem mostN_ge {xs : List Int} : ∀ {n k : Nat}, k ≤ n → xs.getD k 0 ≤ mostN xs n
  | 0, k, h => by
    obtain rfl : k = 0 := by omega
    exact Int.le_refl _
  | n + 1, k, h => by
    simp only [mostN]
    by_cases hk : k = n + 1
    · subst hk; split <;> omega
    · have := mostN_ge (xs := xs) (n := n) (k := k) (by omega)
      split <;> omega
theorem leastN_in {xs : List Int} {lo hi : Int} : ∀ {n : Nat}, (∀ k, k ≤ n → lo ≤ xs.getD k 0 ∧ xs.getD k 0 ≤ hi) → lo ≤ leastN xs n ∧ leastN xs n ≤ hi
  | 0, h => h 0 (Nat.le_refl _)
  | n + 1, h => by
    simp only [leastN]
    have h1 := leastN_in (xs := xs) (n := n) (fun k hk => h k (by omega))
    have h2 := h (n + 1) (Nat.le_refl _)
    split
    · exact h2
    · exact h1
theorem mostN_in {xs : List Int} {lo hi : Int} : ∀ {n : Nat}, (∀ k, k ≤ n → lo ≤ xs.getD k 0 ∧ xs.getD k 0 ≤ hi) → lo ≤ mostN xs n ∧ mostN xs n ≤ hi
  | 0, h => h 0 (Nat.le_refl _)
  | n + 1, h => by
    simp only [mostN]
    have h1 := mostN_in (xs := xs) (n := n) (fun k hk => h k (by omega))
    have h2 := h (n + 1) (Nat.le_refl _)
    split
    · exact h2
    · exact h1
theorem dig_range {a b i : Nat} (hb : 0 < b) (ha : a ≤ 5 * b) : 0 ≤ digN a b i ∧ digN a b i ≤ 5 := by
  unfold digN
  have h1 : i * a / b ≤ (i + 1) * a / b := Nat.div_le_div_right (Nat.mul_le_mul_right _ (Nat.le_succ i))
  have h2 : (i + 1) * a / b ≤ i * a / b + 5 := by
    have : (i + 1) * a ≤ i * a + 5 * b := by rw [Nat.succ_mul]; omega
    calc (i + 1) * a / b ≤ (i * a + 5 * b) / b := Nat.div_le_div_right this
      _ = i * a / b + 5 := by rw [Nat.add_mul_div_right _ _ hb]
  omega
theorem car_step (p q a b i : Nat) : (p : Int) * digN a b i + carN p q a b i - (q : Int) * digN (p * a) (q * b) i = carN p q a b (i + 1) := by
  unfold digN carN
  push_cast
  rw [Int.mul_sub, Int.mul_sub]
  omega
theorem car_range {p q a b i : Nat} (hp : 0 < p) (hq : 0 < q) (hb : 0 < b) : 1 - (p : Int) ≤ carN p q a b i ∧ carN p q a b i ≤ (q : Int) - 1 := by
  unfold carN
  have hqb : 0 < q * b := Nat.mul_pos hq hb
  obtain ⟨y, hy⟩ : ∃ y, y = i * a / b := ⟨_, rfl⟩
  obtain ⟨v, hv⟩ : ∃ v, v = i * (p * a) / (q * b) := ⟨_, rfl⟩
  rw [← hy, ← hv]
  have e1 : y * b ≤ i * a := by rw [hy]; exact Nat.div_mul_le_self _ _
  have e2 : i * a < (y + 1) * b := by rw [hy, Nat.mul_comm _ b]; exact Nat.lt_mul_div_succ _ hb
  have e3 : v * (q * b) ≤ i * (p * a) := by rw [hv]; exact Nat.div_mul_le_self _ _
  have e4 : i * (p * a) < (v + 1) * (q * b) := by rw [hv, Nat.mul_comm (_ + 1)]; exact Nat.lt_mul_div_succ _ hqb
  have f1 : v * q * b < p * (y + 1) * b := by
    calc v * q * b = v * (q * b) := Nat.mul_assoc _ _ _
      _ ≤ i * (p * a) := e3
      _ = p * (i * a) := by rw [Nat.mul_left_comm]
      _ < p * ((y + 1) * b) := Nat.mul_lt_mul_of_pos_left e2 hp
      _ = p * (y + 1) * b := (Nat.mul_assoc _ _ _).symm
  have f2 : p * y * b < (v + 1) * q * b := by
    calc p * y * b = p * (y * b) := Nat.mul_assoc _ _ _
      _ ≤ p * (i * a) := Nat.mul_le_mul_left _ e1
      _ = i * (p * a) := by rw [Nat.mul_left_comm]
      _ < (v + 1) * (q * b) := e4
      _ = (v + 1) * q * b := (Nat.mul_assoc _ _ _).symm
  have g1 := Nat.lt_of_mul_lt_mul_right f1
  have g2 := Nat.lt_of_mul_lt_mul_right f2
  rw [Nat.mul_succ] at g1
  rw [Nat.succ_mul] at g2
  rw [Nat.mul_comm v q] at g1 g2
  omega
/-- The row's tile at the place k. -/
def ownT (p q a b z k : Nat) : Tl := (carN p q a b (z + k) + ((p : Int) - 1), digN a b (z + k), carN p q a b (z + k + 1) + ((p : Int) - 1), digN (p * a) (q * b) (z + k))
def rowN (ts : List Tl) (p q a b z : Nat) : Nat → List Int
  | 0 => []
  | k + 1 => rowN ts p q a b z k ++ [((posT ts (ownT p q a b z k) : Nat) : Int)]
theorem rowN_len (ts : List Tl) (p q a b z : Nat) : ∀ k, (rowN ts p q a b z k).length = k
  | 0 => rfl
  | k + 1 => by simp [rowN, rowN_len ts p q a b z k]
theorem ownT_mem {p q a b z n k : Nat} (hp : 0 < p) (hq : 0 < q) (hb : 0 < b) (hk : k ≤ n) :
    ownT p q a b z k ∈ mulL p q (leastN (digsL a b z (n + 1)) n) (mostN (digsL a b z (n + 1)) n) (leastN (digsL (p * a) (q * b) z (n + 1)) n) (mostN (digsL (p * a) (q * b) z (n + 1)) n) := by
  have h1 := leastN_le (xs := digsL a b z (n + 1)) hk
  have h2 := mostN_ge (xs := digsL a b z (n + 1)) hk
  have h3 := leastN_le (xs := digsL (p * a) (q * b) z (n + 1)) hk
  have h4 := mostN_ge (xs := digsL (p * a) (q * b) z (n + 1)) hk
  rw [digsL_get _ _ _ (by omega)] at h1 h2 h3 h4
  have h5 := car_range (i := z + k) (a := a) hp hq hb
  have h6 := car_range (i := z + k + 1) (a := a) hp hq hb
  have h7 := car_step p q a b (z + k)
  unfold mulL ownT
  generalize leastN (digsL a b z (n + 1)) n = m at *
  generalize mostN (digsL a b z (n + 1)) n = M at *
  generalize leastN (digsL (p * a) (q * b) z (n + 1)) n = u at *
  generalize mostN (digsL (p * a) (q * b) z (n + 1)) n = U at *
  generalize digN a b (z + k) = d at *
  generalize digN (p * a) (q * b) (z + k) = e at *
  generalize carN p q a b (z + k) = l at *
  generalize carN p q a b (z + k + 1) = r at *
  refine mem_lsL.2 ⟨(l - (1 - (p : Int))).toNat, by omega, mem_lsD.2 ⟨(d - m).toNat, by omega, mem_lsE.2 ⟨(e - u).toNat, by omega, ?_, ?_⟩⟩⟩
  · rw [show 1 - (p : Int) + (((l - (1 - (p : Int))).toNat : Nat) : Int) = l by omega, show m + (((d - m).toNat : Nat) : Int) = d by omega, show u + (((e - u).toNat : Nat) : Int) = e by omega]
    unfold mulOk
    rw [h7]
    exact decide_eq_true h6
  · rw [show 1 - (p : Int) + (((l - (1 - (p : Int))).toNat : Nat) : Int) = l by omega, show m + (((d - m).toNat : Nat) : Int) = d by omega, show u + (((e - u).toNat : Nat) : Int) = e by omega]
    unfold mulT
    rw [h7]
end

section
set_option linter.unusedVariables false
set_option linter.unusedSimpArgs false
open Go.RowKit Go.Sort

theorem far4S {w : World} {g : Nat} {t : TypeId} {cs : Array Value} (h : Blk w g t cs) {k : Nat} (hne : g ≠ k) {a b c d : Value} : Blk ((((w.setCell ⟨k, 0, none⟩ a).setCell ⟨k, 1, none⟩ b).setCell ⟨k, 2, none⟩ c).setCell ⟨k, 3, none⟩ d) g t cs := (((h.far hne a).far hne b).far hne c).far hne d
theorem mulDoor_set (p q m n u v : Int) : ∃ c L code, ∀ W, MulDoor p q m n u v W = SetRes W c L code := by
  by_cases h : mulArgs p q m n u v = true
  · by_cases h16 : (mulL p q m n u v).length ≤ 16
    · exact ⟨_, _, _, fun W => by unfold MulDoor MulRes; rw [if_pos h, if_pos h16]⟩
    · exact ⟨_, _, _, fun W => by unfold MulDoor MulRes; rw [if_pos h, if_neg h16]⟩
  · exact ⟨_, _, _, fun W => by unfold MulDoor; rw [if_neg h]⟩
set_option maxRecDepth 100000 in
set_option maxHeartbeats 1000000 in
theorem stretchTimes_any (p q a b pa qb : Nat) (pl n : Int) (w : World) (hpa : p * a = pa) (hqb : q * b = qb) (h1 : pa ≤ 1000) (h2 : qb ≤ 1000) :
    Calls Tryd.prog 32 #[.agg #[.int .i64 (a : Int), .int .i64 (b : Int), .int .i64 pl, .int .i64 n], .agg #[.int .i64 (p : Int), .int .i64 (q : Int)]] w fun e w' => e = .returned (.agg #[.int .i64 (pa : Int), .int .i64 (qb : Int), .int .i64 pl, .int .i64 n]) ∧ Below w.heap.size w w' := by
  have HT := Lib.hid (fun W => times_any p q a b pa qb W hpa hqb h1 h2)
  clear hpa hqb h1 h2
  obtain ⟨W0, hW0⟩ : ∃ W0, ((w.alloc (Obj.cells #[.int .i64 (a : Int), .int .i64 (b : Int), .int .i64 pl, .int .i64 n] 42)).alloc (Obj.cells #[.int .i64 (p : Int), .int .i64 (q : Int)] 50)).alloc (Obj.cells #[.int .i64 0, .int .i64 0, .int .i64 0, .int .i64 0] 42) = W0 := ⟨_, rfl⟩
  have hE : Ext w W0 := by rw [← hW0]; exact (((Ext.refl w).alloc _).alloc _).alloc _
  have hP : Blk W0 w.heap.size 42 #[.int .i64 (a : Int), .int .i64 (b : Int), .int .i64 pl, .int .i64 n] := by rw [← hW0]; exact (Blk.new w _ _).ext (((Ext.refl _).alloc _).alloc _)
  have hM : Blk W0 (w.heap.size + 1) 50 #[.int .i64 (p : Int), .int .i64 (q : Int)] := by rw [← hW0]; have := (Blk.new (w.alloc (Obj.cells #[.int .i64 (a : Int), .int .i64 (b : Int), .int .i64 pl, .int .i64 n] 42)) 50 #[.int .i64 (p : Int), .int .i64 (q : Int)]).ext ((Ext.refl _).alloc (Obj.cells #[.int .i64 0, .int .i64 0, .int .i64 0, .int .i64 0] 42)); simpa using this
  have hR : Blk W0 (w.heap.size + 1 + 1) 42 #[.int .i64 0, .int .i64 0, .int .i64 0, .int .i64 0] := by rw [← hW0]; have := (Blk.new ((w.alloc (Obj.cells #[.int .i64 (a : Int), .int .i64 (b : Int), .int .i64 pl, .int .i64 n] 42)).alloc (Obj.cells #[.int .i64 (p : Int), .int .i64 (q : Int)] 50)) 42 #[.int .i64 0, .int .i64 0, .int .i64 0, .int .i64 0]); simpa using this
  have HE := Lib.hid hE
  have P0 := Lib.hid hP
  have M0 := Lib.hid hM
  have R0 := Lib.hid hR
  clear hE hP hM hR
  have s0 := P0.out.rd 0 (v := .int .i64 (a : Int)) rfl
  have s1 := P0.out.rd 1 (v := .int .i64 (b : Int)) rfl
  have s2 := P0.out.rd 2 (v := .int .i64 pl) rfl
  have s3 := P0.out.rd 3 (v := .int .i64 n) rfl
  have m0 := M0.out.rd 0 (v := .int .i64 (p : Int)) rfl
  have m1 := M0.out.rd 1 (v := .int .i64 (q : Int)) rfl
  have hne0 : w.heap.size ≠ w.heap.size + 1 + 1 := by omega
  have hne1 : w.heap.size + 1 ≠ w.heap.size + 1 + 1 := by omega
  go_enter Tryd.func32, Tryd.ntmps32
  go_wp2_with fail
  try rw [hW0]
  clear hW0
  go_region_held3 (fun w' => w'.cell? ⟨w.heap.size, 0, none⟩ = some (.int .i64 (a : Int)) ∧ w'.cell? ⟨w.heap.size, 1, none⟩ = some (.int .i64 (b : Int)) ∧ w'.cell? ⟨w.heap.size, 2, none⟩ = some (.int .i64 pl) ∧ w'.cell? ⟨w.heap.size, 3, none⟩ = some (.int .i64 n) ∧ w'.cell? ⟨w.heap.size + 1, 0, none⟩ = some (.int .i64 (p : Int)) ∧ w'.cell? ⟨w.heap.size + 1, 1, none⟩ = some (.int .i64 (q : Int)))
    (first | exact ⟨s0, s1, s2, s3, m0, m1⟩ | exact ⟨t0, t1, t2, t3, n0, n1⟩ | exact ⟨(far4S P9.out hne0).rd 0 rfl, (far4S P9.out hne0).rd 1 rfl, (far4S P9.out hne0).rd 2 rfl, (far4S P9.out hne0).rd 3 rfl, (far4S M9.out hne1).rd 0 rfl, (far4S M9.out hne1).rd 1 rfl⟩ | exact ⟨((far4S P9.out hne0).ext ((Ext.refl _).drew)).rd 0 rfl, ((far4S P9.out hne0).ext ((Ext.refl _).drew)).rd 1 rfl, ((far4S P9.out hne0).ext ((Ext.refl _).drew)).rd 2 rfl, ((far4S P9.out hne0).ext ((Ext.refl _).drew)).rd 3 rfl, ((far4S M9.out hne1).ext ((Ext.refl _).drew)).rd 0 rfl, ((far4S M9.out hne1).ext ((Ext.refl _).drew)).rd 1 rfl⟩ | go_keep)
    (first
    | (go_at_call 29; with_reducible refine (HT.out _).mono ?_; rintro e w9 ⟨rfl, hx9⟩; have X9 := Lib.hid ((Ext.refl W0).drew.trans hx9); have P9 := Lib.hid (P0.out.ext X9.out); have M9 := Lib.hid (M0.out.ext X9.out); have R9 := Lib.hid (R0.out.ext X9.out); have t0 := P9.out.rd 0 (v := .int .i64 (a : Int)) rfl; have t1 := P9.out.rd 1 (v := .int .i64 (b : Int)) rfl; have t2 := P9.out.rd 2 (v := .int .i64 pl) rfl; have t3 := P9.out.rd 3 (v := .int .i64 n) rfl; have n0 := M9.out.rd 0 (v := .int .i64 (p : Int)) rfl; have n1 := M9.out.rd 1 (v := .int .i64 (q : Int)) rfl; have q0 := R9.out.rd 0 (v := .int .i64 0) rfl; have q1 := R9.out.rd 1 (v := .int .i64 0) rfl; have q2 := R9.out.rd 2 (v := .int .i64 0) rfl; have q3 := R9.out.rd 3 (v := .int .i64 0) rfl; have z0 := R9.out.frozen 0; have z1 := R9.out.frozen 1; have z2 := R9.out.frozen 2; have z3 := R9.out.frozen 3; clear hx9))
  all_goals
    go_wp2_with fail
    refine bodyPost_ret (v := .agg #[.int .i64 (pa : Int), .int .i64 (qb : Int), .int .i64 pl, .int .i64 n]) (by simp [results, Tryd.results32, go_sem, q0, q1, q2, q3, z0, z1, z2, z3]) rfl ⟨rfl, ?_⟩
    exact ((((((HE.out.trans X9.out).below (Nat.le_refl _)).setCell (show w.heap.size ≤ w.heap.size + 1 + 1 by omega) _).setCell (show w.heap.size ≤ w.heap.size + 1 + 1 by omega) _).setCell (show w.heap.size ≤ w.heap.size + 1 + 1 by omega) _).setCell (show w.heap.size ≤ w.heap.size + 1 + 1 by omega) _)
set_option maxRecDepth 100000 in
set_option maxHeartbeats 1000000 in
theorem setForDigits_any (p q : Int) (A B : Option Addr) (n c m d : Nat) (xs ys : List Int) (w : World) (hn1 : 1 ≤ n) (hn : n ≤ 1048576) (hm1 : 1 ≤ m) (hm : m ≤ 1048576) (hl : xs.length = n) (hk : ys.length = m) (hA : IR w w.heap.size A xs) (hB : IR w w.heap.size B ys) :
    Calls Tryd.prog 31 #[.agg #[.int .i64 p, .int .i64 q], .slice A n c, .slice B m d] w (MulDoor p q (leastN xs (n - 1)) (mostN xs (n - 1)) (leastN ys (m - 1)) (mostN ys (m - 1)) w) := by
  have H1 := Lib.hid (fun W (hW : Ext w W) => leastGreatest_any A n c xs W hn1 hn hl ((hA.ext hW (Nat.le_refl _)).more (hW.below (Nat.le_refl _)).size))
  have H2 := Lib.hid (fun W (hW : Ext w W) => leastGreatest_any B m d ys W hm1 hm hk ((hB.ext hW (Nat.le_refl _)).more (hW.below (Nat.le_refl _)).size))
  generalize leastN xs (n - 1) = x at *
  generalize mostN xs (n - 1) = y at *
  generalize leastN ys (m - 1) = u at *
  generalize mostN ys (m - 1) = v at *
  have hM := fun W => implMulSet_any p q x y u v W
  obtain ⟨cc, L, code, hD⟩ := mulDoor_set p q x y u v
  simp only [hD] at hM ⊢
  unfold SetRes at hM ⊢
  have HM := Lib.hid hM
  obtain ⟨W0, hW0⟩ : ∃ W0, (w.alloc (Obj.cells #[.int .i64 p, .int .i64 q] 50)).alloc (Obj.cells #[.int .i64 0, .slice none 0 0] 32) = W0 := ⟨_, rfl⟩
  have hE : Ext w W0 := by rw [← hW0]; exact ((Ext.refl w).alloc _).alloc _
  have hP : Blk W0 w.heap.size 50 #[.int .i64 p, .int .i64 q] := by rw [← hW0]; exact (Blk.new w _ _).ext ((Ext.refl _).alloc _)
  have HE := Lib.hid hE
  have hR : Blk W0 (w.heap.size + 1) 32 #[.int .i64 0, .slice none 0 0] := by rw [← hW0]; have := (Blk.new (w.alloc (Obj.cells #[.int .i64 p, .int .i64 q] 50)) 32 #[.int .i64 0, .slice none 0 0]); simpa using this
  have R0 := Lib.hid hR
  have p0 := hP.rd 0 (v := .int .i64 p) rfl
  have p1 := hP.rd 1 (v := .int .i64 q) rfl
  have hsz : W0.heap.size = w.heap.size + 2 := by rw [← hW0]; simp
  have HSZ := Lib.hid hsz
  clear hA hl hB hk hE hP hR hM hD hsz
  go_enter Tryd.func31, Tryd.ntmps31
  go_wp2_with fail
  try rw [hW0]
  clear hW0
  refine (H1.out _ HE.out).mono ?_
  rintro e w' ⟨rfl, rfl⟩
  go_wp2_with fail
  refine (H2.out _ HE.out).mono ?_
  rintro e w' ⟨rfl, rfl⟩
  go_wp2_with fail
  refine (HM.out _).mono ?_
  rintro e w1 ⟨A1, cap, rfl, hb, htw⟩
  have hbw := R0.out.below hb R0.out.lt
  have HT := Lib.hid htw
  have HB1 := Lib.hid ((HE.out.below (Nat.le_refl _)).trans (hb.mono (by have := HSZ.out; omega)))
  have qq0 := hbw.rd 0 rfl
  have qq1 := hbw.rd 1 rfl
  have zz0 := hbw.frozen 0
  have zz1 := hbw.frozen 1
  have hlt : w.heap.size + 1 < w1.heap.size := hbw.lt
  have hne : w.heap.size + 1 ≠ w1.heap.size := by omega
  clear hb htw hbw p0 p1
  go_wp2_with fail
  refine bodyPost_ret (v := .tuple #[.agg #[.int .i64 cc, .slice A1 L.length cap], .int .i64 code]) (by simp [results, Tryd.results31, go_sem, qq0, qq1, zz0, zz1, hlt]) rfl ?_
  refine ⟨A1, cap, rfl, ?_, ?_⟩
  · first
    | exact ((HB1.out.setCell (by simp) _).setCell (by simp) _).alloc (by simp; omega) _
    | exact ((HB1.out.setCell (by simp) _).setCell (by simp) _)
  · first
    | exact (((HT.out.far (by have := HSZ.out; dsimp only; omega) _).far (by have := HSZ.out; dsimp only; omega) _).ext ((Ext.refl _).alloc _)).low (by have := HSZ.out; omega)
    | exact ((HT.out.far (by have := HSZ.out; dsimp only; omega) _).far (by have := HSZ.out; dsimp only; omega) _).low (by have := HSZ.out; omega)
end

section
set_option linter.unusedVariables false
set_option linter.unusedSimpArgs false
open Go.RowKit Go.Sort

theorem cell_far4 {w : World} {k b o : Nat} {x1 x2 x3 x4 v : Value} (h : w.cell? ⟨b, o, none⟩ = some v) (hne : b ≠ k) : ((((w.setCell ⟨k, 0, none⟩ x1).setCell ⟨k, 1, none⟩ x2).setCell ⟨k, 2, none⟩ x3).setCell ⟨k, 3, none⟩ x4).cell? ⟨b, o, none⟩ = some v := by
  rw [World.cell?_setCell_far _ _ _ _ (Ne.symm hne), World.cell?_setCell_far _ _ _ _ (Ne.symm hne), World.cell?_setCell_far _ _ _ _ (Ne.symm hne), World.cell?_setCell_far _ _ _ _ (Ne.symm hne)]
  exact h
theorem blk_put4 {w : World} {g : Nat} {t : TypeId} {m0 m1 m2 m3 : Value} (h : Blk w g t #[m0, m1, m2, m3]) (y0 y1 y2 y3 : Int) :
    Blk ((((w.setCell ⟨g, 0, none⟩ (.int .i64 y0)).setCell ⟨g, 1, none⟩ (.int .i64 y1)).setCell ⟨g, 2, none⟩ (.int .i64 y2)).setCell ⟨g, 3, none⟩ (.int .i64 y3)) g t #[.int .i64 y0, .int .i64 y1, .int .i64 y2, .int .i64 y3] :=
  (((h.set_ 0 _).set_ 1 _).set_ 2 _).set_ 3 _
set_option maxRecDepth 100000 in
set_option maxHeartbeats 4000000 in
theorem rowOfNumber_any (p q a b z pl n n1 pa qb : Nat) (c0 : Int) (A0 : Option Addr) (m0 q0 : Nat) (ts : List Tl) (w : World) (hp : 1 ≤ p ∧ p ≤ 3) (hq : 1 ≤ q ∧ q ≤ 3) (hb : 0 < b) (hb2 : b ≤ 20) (ha : a ≤ 100) (hpl : pl = z + 1) (hz : z ≤ 1000) (hn1 : 1 ≤ n) (hn : n ≤ 20) (hnn : n1 = n + 1) (hpa : p * a = pa) (hqb : q * b = qb) (hm : m0 ≤ 16) (hl : ts.length = m0) (hA : TR w w.heap.size A0 ts)
    (hmem : ∀ k, k < n → ownT p q a b z k ∈ ts) (hdig : ∀ k, k < n → (0 ≤ digN a b (z + k) ∧ digN a b (z + k) ≤ 5) ∧ 0 ≤ digN pa qb (z + k) ∧ digN pa qb (z + k) ≤ 5) :
    Calls Tryd.prog 33 #[.agg #[.int .i64 c0, .slice A0 m0 q0], .agg #[.int .i64 (p : Int), .int .i64 (q : Int)], .agg #[.int .i64 (a : Int), .int .i64 (b : Int), .int .i64 (pl : Int), .int .i64 (n : Int)]] w fun e w' => ∃ R cap, e = .returned (.slice R n cap) ∧ Below w.heap.size w w' ∧ IWr w' w.heap.size w'.heap.size R (rowN ts p q a b z n) := by
  have hpa2 : p * a ≤ 3 * 100 := Nat.mul_le_mul hp.2 ha
  have hqb2 : q * b ≤ 3 * 20 := Nat.mul_le_mul hq.2 hb2
  have hqb0 : 0 < q * b := Nat.mul_pos (by omega) hb
  rw [hpa] at hpa2
  rw [hqb] at hqb2 hqb0
  have HC := Lib.hid (fun W => carries_any p q a b z pl n n1 W hp hq hb hb2 ha hpl hz hn hnn)
  have HN := Lib.hid (fun W => digits_any a b z pl n W hb hpl hz hn (by omega))
  have HS := Lib.hid (fun W => digits_any pa qb z pl n W hqb0 hpl hz hn (by omega))
  have HT := Lib.hid (fun W => stretchTimes_any p q a b pa qb (pl : Int) (n : Int) W hpa hqb (by omega) (by omega))
  have HCR := Lib.hid (fun k => car_range (p := p) (q := q) (a := a) (b := b) (i := k) (by omega) (by omega) hb)
  have HMEM := Lib.hid hmem
  have HDIG := Lib.hid hdig
  have HPQ := Lib.hid (And.intro hpa hqb)
  have HL := Lib.hid hl
  have HNN := Lib.hid hnn
  obtain ⟨W0, hW0⟩ : ∃ W0, ((w.alloc (Obj.cells #[.int .i64 c0, .slice A0 m0 q0] 32)).alloc (Obj.cells #[.int .i64 (p : Int), .int .i64 (q : Int)] 50)).alloc (Obj.cells #[.int .i64 (a : Int), .int .i64 (b : Int), .int .i64 (pl : Int), .int .i64 (n : Int)] 42) = W0 := ⟨_, rfl⟩
  have hE : Ext w W0 := by rw [← hW0]; exact (((Ext.refl w).alloc _).alloc _).alloc _
  have hP : Blk W0 w.heap.size 32 #[.int .i64 c0, .slice A0 m0 q0] := by rw [← hW0]; exact (Blk.new w _ _).ext (((Ext.refl _).alloc _).alloc _)
  have hM : Blk W0 (w.heap.size + 1) 50 #[.int .i64 (p : Int), .int .i64 (q : Int)] := by rw [← hW0]; have := (Blk.new (w.alloc (Obj.cells #[.int .i64 c0, .slice A0 m0 q0] 32)) 50 #[.int .i64 (p : Int), .int .i64 (q : Int)]).ext ((Ext.refl _).alloc (Obj.cells #[.int .i64 (a : Int), .int .i64 (b : Int), .int .i64 (pl : Int), .int .i64 (n : Int)] 42)); simpa using this
  have hR : Blk W0 (w.heap.size + 1 + 1) 42 #[.int .i64 (a : Int), .int .i64 (b : Int), .int .i64 (pl : Int), .int .i64 (n : Int)] := by rw [← hW0]; have := (Blk.new ((w.alloc (Obj.cells #[.int .i64 c0, .slice A0 m0 q0] 32)).alloc (Obj.cells #[.int .i64 (p : Int), .int .i64 (q : Int)] 50)) 42 #[.int .i64 (a : Int), .int .i64 (b : Int), .int .i64 (pl : Int), .int .i64 (n : Int)]); simpa using this
  have HE := Lib.hid (hE.below (Nat.le_refl w.heap.size))
  have P0 := Lib.hid hP
  have M0 := Lib.hid hM
  have S0 := Lib.hid hR
  have HAW := Lib.hid hA
  clear hE hP hM hR hA hl hmem hdig hpa hqb hnn hpl
  go_enter Tryd.func33, Tryd.ntmps33
  go_wp2_with fail
  try rw [hW0]
  clear hW0
  have f0_0 := S0.out.rd 0 (v := .int .i64 (a : Int)) rfl
  have f0_1 := S0.out.rd 1 (v := .int .i64 (b : Int)) rfl
  have f0_2 := S0.out.rd 2 (v := .int .i64 (pl : Int)) rfl
  have f0_3 := S0.out.rd 3 (v := .int .i64 (n : Int)) rfl
  have f0_4 := M0.out.rd 0 (v := .int .i64 (p : Int)) rfl
  have f0_5 := M0.out.rd 1 (v := .int .i64 (q : Int)) rfl
  go_region_held3 (fun w' => w'.cell? ⟨w.heap.size + 1 + 1, 0, none⟩ = some (.int .i64 (a : Int)) ∧ w'.cell? ⟨w.heap.size + 1 + 1, 1, none⟩ = some (.int .i64 (b : Int)) ∧ w'.cell? ⟨w.heap.size + 1 + 1, 2, none⟩ = some (.int .i64 (pl : Int)) ∧ w'.cell? ⟨w.heap.size + 1 + 1, 3, none⟩ = some (.int .i64 (n : Int)) ∧ w'.cell? ⟨w.heap.size + 1, 0, none⟩ = some (.int .i64 (p : Int)) ∧ w'.cell? ⟨w.heap.size + 1, 1, none⟩ = some (.int .i64 (q : Int)))
    (first | exact ⟨f0_0, f0_1, f0_2, f0_3, f0_4, f0_5⟩ | exact ⟨f1_0, f1_1, f1_2, f1_3, f1_4, f1_5⟩ | exact ⟨f2_0, f2_1, f2_2, f2_3, f2_4, f2_5⟩ | exact ⟨f3_0, f3_1, f3_2, f3_3, f3_4, f3_5⟩ | exact ⟨f4_0, f4_1, f4_2, f4_3, f4_4, f4_5⟩ | go_keep)
    (first
    | (go_at_call 26; (with_reducible refine (HC.out _).mono ?_); rintro e w1 ⟨RC, pc, rfl, hb, hw⟩; have K1 := Lib.hid (HE.out.drew.trans (hb.mono HE.out.size)); have S1 := Lib.hid (Blk.below (w := W0.drew) S0.out hb S0.out.lt); have M1 := Lib.hid (Blk.below (w := W0.drew) M0.out hb M0.out.lt); have P1 := Lib.hid (Blk.below (w := W0.drew) P0.out hb P0.out.lt); have XC1 := Lib.hid hw; have f1_0 := S1.out.rd 0 (v := .int .i64 (a : Int)) rfl; have f1_1 := S1.out.rd 1 (v := .int .i64 (b : Int)) rfl; have f1_2 := S1.out.rd 2 (v := .int .i64 (pl : Int)) rfl; have f1_3 := S1.out.rd 3 (v := .int .i64 (n : Int)) rfl; have f1_4 := M1.out.rd 0 (v := .int .i64 (p : Int)) rfl; have f1_5 := M1.out.rd 1 (v := .int .i64 (q : Int)) rfl; clear hb hw)
    | (go_at_call 22; (with_reducible refine (HN.out _).mono ?_); rintro e w2 ⟨RN, pn, rfl, hb, hw⟩; have K2 := Lib.hid (K1.out.trans (hb.mono K1.out.size)); have S2 := Lib.hid (Blk.below S1.out hb S1.out.lt); have M2 := Lib.hid (Blk.below M1.out hb M1.out.lt); have P2 := Lib.hid (Blk.below P1.out hb P1.out.lt); have XC2 := Lib.hid (XC1.out.below hb); have XN2 := Lib.hid hw; have f2_0 := S2.out.rd 0 (v := .int .i64 (a : Int)) rfl; have f2_1 := S2.out.rd 1 (v := .int .i64 (b : Int)) rfl; have f2_2 := S2.out.rd 2 (v := .int .i64 (pl : Int)) rfl; have f2_3 := S2.out.rd 3 (v := .int .i64 (n : Int)) rfl; have f2_4 := M2.out.rd 0 (v := .int .i64 (p : Int)) rfl; have f2_5 := M2.out.rd 1 (v := .int .i64 (q : Int)) rfl; clear hb hw)
    | (go_at_call 32; (with_reducible refine (HT.out _).mono ?_); rintro e w3 ⟨rfl, hb⟩; have K3 := Lib.hid (K2.out.trans (hb.mono K2.out.size)); have S3 := Lib.hid (Blk.below S2.out hb S2.out.lt); have M3 := Lib.hid (Blk.below M2.out hb M2.out.lt); have P3 := Lib.hid (Blk.below P2.out hb P2.out.lt); have XC3 := Lib.hid (XC2.out.below hb); have XN3 := Lib.hid (XN2.out.below hb); have f3_0 := S3.out.rd 0 (v := .int .i64 (a : Int)) rfl; have f3_1 := S3.out.rd 1 (v := .int .i64 (b : Int)) rfl; have f3_2 := S3.out.rd 2 (v := .int .i64 (pl : Int)) rfl; have f3_3 := S3.out.rd 3 (v := .int .i64 (n : Int)) rfl; have f3_4 := M3.out.rd 0 (v := .int .i64 (p : Int)) rfl; have f3_5 := M3.out.rd 1 (v := .int .i64 (q : Int)) rfl; clear hb)
    | (go_at_call 22; (with_reducible refine (HS.out _).mono ?_); rintro e w4 ⟨RS, ps, rfl, hb, hw⟩; have K4 := Lib.hid (K3.out.trans (hb.mono K3.out.size)); have S4 := Lib.hid (Blk.below S3.out hb S3.out.lt); have M4 := Lib.hid (Blk.below M3.out hb M3.out.lt); have P4 := Lib.hid (Blk.below P3.out hb P3.out.lt); have XC4 := Lib.hid (XC3.out.below hb); have XN4 := Lib.hid (XN3.out.below hb); have XS4 := Lib.hid hw; have f4_0 := S4.out.rd 0 (v := .int .i64 (a : Int)) rfl; have f4_1 := S4.out.rd 1 (v := .int .i64 (b : Int)) rfl; have f4_2 := S4.out.rd 2 (v := .int .i64 (pl : Int)) rfl; have f4_3 := S4.out.rd 3 (v := .int .i64 (n : Int)) rfl; have f4_4 := M4.out.rd 0 (v := .int .i64 (p : Int)) rfl; have f4_5 := M4.out.rd 1 (v := .int .i64 (q : Int)) rfl; clear hb hw))
  clear f0_0 f0_1 f0_2 f0_3 f0_4 f0_5 f1_0 f1_1 f1_2 f1_3 f1_4 f1_5 f2_0 f2_1 f2_2 f2_3 f2_4 f2_5 f3_0 f3_1 f3_2 f3_3 f3_4 f3_5 f4_0 f4_1 f4_2 f4_3 f4_4 f4_5
  go_wp2_with fail
  go_loopw [10, 24] (fun v i wr => ∃ k : Nat, k ≤ n ∧ i = .int .i64 (k : Int) ∧ wr.ownsRow w4.heap.size 2 1 v k (vis (rowN ts p q a b z k)) ∧ Below w4.heap.size w4 wr) (fun _ i _ => n - (intOf i).toNat)
  case atStart => exact ⟨0, Nat.zero_le _, rfl, World.ownsRow_nil _ _ _ _, Below.refl _ _⟩
  case round =>
    obtain ⟨k, hk, rfl, hown, hbb⟩ := hrel
    have HO := Lib.hid hown
    have HB := Lib.hid hbb
    clear hown
    have hnn := HNN.out
    by_cases hlt : k < n
    · obtain ⟨bc, oc, rfl, -, hcc⟩ := (XC4.out.below hbb).ir (by rw [carL_len]; omega)
      obtain ⟨bn, on, rfl, -, hcn⟩ := (XN4.out.below hbb).ir (by rw [digsL_len]; omega)
      obtain ⟨bs, os, rfl, -, hcs⟩ := (XS4.out.below hbb).ir (by rw [digsL_len]; omega)
      have c1 := hcc k (by rw [carL_len]; omega)
      obtain ⟨k1, hk1⟩ : ∃ x, k + 1 = x := ⟨_, rfl⟩
      have c2 := hcc k1 (by rw [carL_len]; omega)
      have c3 := hcn k (by rw [digsL_len]; omega)
      have c4 := hcs k (by rw [digsL_len]; omega)
      rw [carL_get _ _ _ _ _ (by omega)] at c1 c2
      rw [digsL_get _ _ _ (by omega)] at c3 c4
      have r1 := HCR.out (z + k)
      have r2 := HCR.out (z + k1)
      have hd := HDIG.out k hlt
      have hmm := HMEM.out k hlt
      have HROW := Lib.hid (show rowN ts p q a b z (k + 1) = rowN ts p q a b z k ++ [((posT ts (ownT p q a b z k) : Nat) : Int)] from rfl)
      have hown : ownT p q a b z k = (carN p q a b (z + k) + ((p : Int) - 1), digN a b (z + k), carN p q a b (z + k1) + ((p : Int) - 1), digN pa qb (z + k)) := by unfold ownT; rw [HPQ.out.1, HPQ.out.2, ← hk1, Nat.add_assoc]
      have HT := Lib.hid (fun W => mulTile_any (p : Int) (q : Int) (digN a b (z + k)) (digN pa qb (z + k)) (carN p q a b (z + k)) (carN p q a b (z + k1)) W (by omega) (by omega) (by omega) (by omega))
      rw [← hown] at HT
      have HKT := Lib.hid (show IntKind.i64.wrap ((k : Int) + 1) = (k1 : Int) by rw [show (k : Int) + 1 = (k1 : Int) by omega]; exact IntWalk.i64_in _ (by omega))
      have hkk := HKT.out
      have hk1n : (k1 : Int) < (n1 : Int) := by have := HNN.out; omega
      have hkn1 : (k : Int) < (n1 : Int) := by have := HNN.out; omega
      have hkn : (k : Int) < (n : Int) := by omega
      have HIX := Lib.hid (fun W (hW : Below w.heap.size w W) => indexTI_any A0 m0 q0 ts (ownT p q a b z k) (posT ts (ownT p q a b z k)) W (by omega) HL.out ((HAW.out.below hW (Nat.le_refl _)).more hW.size) (by rw [← HL.out]; exact posT_lt hmm) (posT_get hmm) (fun i hi => posT_ne hi))
      have hpos : posT ts (ownT p q a b z k) < 16 := by have := posT_lt hmm; rw [HL.out] at this; omega
      generalize posT ts (ownT p q a b z k) = ps at *
      obtain ⟨own, hownd⟩ : ∃ o, ownT p q a b z k = o := ⟨_, rfl⟩
      rw [hownd] at HT HIX hown
      clear hownd
      obtain ⟨o0, o1, o2, o3⟩ := own
      simp only [tv] at HT HIX
      generalize carN p q a b (z + k) = l at *
      generalize carN p q a b (z + k1) = r at *
      generalize digN a b (z + k) = d at *
      generalize digN pa qb (z + k) = e0 at *
      have HM := Lib.hid (M4.out.below hbb M4.out.lt)
      have HP := Lib.hid (P4.out.below hbb P4.out.lt)
      have g0 := HM.out.rd 0 (v := .int .i64 (p : Int)) rfl
      have g1 := HM.out.rd 1 (v := .int .i64 (q : Int)) rfl
      have HK1 := Lib.hid hk1
      clear hcc hcn hcs hmm hown hk1 r1 r2 hd hbb hnn
      go_wp2_with fail
      have b1 := lt_of_cell2 g0
      have b2 := lt_of_cell2 c1
      have b3 := lt_of_cell2 c3
      have b4 := lt_of_cell2 c4
      have d1 : w.heap.size + 1 ≠ wr.heap.size := by omega
      have d2 : bc ≠ wr.heap.size := by omega
      have d3 : bn ≠ wr.heap.size := by omega
      have d4 : bs ≠ wr.heap.size := by omega
      go_region_held3 (fun w' => w'.cell? ⟨w.heap.size + 1, 0, none⟩ = some (.int .i64 (p : Int)) ∧ w'.cell? ⟨w.heap.size + 1, 1, none⟩ = some (.int .i64 (q : Int)) ∧ w'.cell? ⟨bc, oc + k, none⟩ = some (.int .i64 l) ∧ w'.cell? ⟨bc, oc + k1, none⟩ = some (.int .i64 r) ∧ w'.cell? ⟨bn, on + k, none⟩ = some (.int .i64 d) ∧ w'.cell? ⟨bs, os + k, none⟩ = some (.int .i64 e0))
        (first | with_reducible exact ⟨cell_far4 h0 d1, cell_far4 h1 d1, cell_far4 h2 d2, cell_far4 h3 d2, cell_far4 h4 d3, cell_far4 h5 d4⟩ | exact ⟨g0, g1, c1, c2, c3, c4⟩ | exact ⟨h0, h1, h2, h3, h4, h5⟩ | go_keep)
        (first
        | (go_at_call 47; (with_reducible refine (HT.out _).mono ?_); rintro e w6 ⟨rfl, hb6⟩; have hbw : Below wr.heap.size wr w6 := (by first | exact ((Ext.refl wr).drew.below (Nat.le_refl _)).trans (hb6.mono (by simp)) | exact (((Ext.refl wr).drew.alloc _).below (Nat.le_refl _)).trans (hb6.mono (by simp)) | exact (((Ext.refl wr).alloc _).drew.below (Nat.le_refl _)).trans (hb6.mono (by simp))); have h0 := (hbw.cell (p := ⟨w.heap.size + 1, 0, none⟩) (lt_of_cell2 g0)).trans g0; have h1 := (hbw.cell (p := ⟨w.heap.size + 1, 1, none⟩) (lt_of_cell2 g1)).trans g1; have h2 := (hbw.cell (p := ⟨bc, oc + k, none⟩) (lt_of_cell2 c1)).trans c1; have h3 := (hbw.cell (p := ⟨bc, oc + k1, none⟩) (lt_of_cell2 c2)).trans c2; have h4 := (hbw.cell (p := ⟨bn, on + k, none⟩) (lt_of_cell2 c3)).trans c3; have h5 := (hbw.cell (p := ⟨bs, os + k, none⟩) (lt_of_cell2 c4)).trans c4; first | (have NB := Blk.below ((Blk.new wr 56 #[.int .i64 0, .int .i64 0, .int .i64 0, .int .i64 0]).ext ((Ext.refl _).drew)) hb6 (by simp); have y0 := NB.rd 0 (v := .int .i64 0) rfl; have y1 := NB.rd 1 (v := .int .i64 0) rfl; have y2 := NB.rd 2 (v := .int .i64 0) rfl; have y3 := NB.rd 3 (v := .int .i64 0) rfl; have x0 := NB.frozen 0; have x1 := NB.frozen 1; have x2 := NB.frozen 2; have x3 := NB.frozen 3; have HNB := Lib.hid NB; clear NB) | skip))
      all_goals
        first
        | (have T7 := Lib.hid (blk_put4 HNB.out o0 o1 o2 o3)
           have B7 := Lib.hid ((((hbw.setCell (p := ⟨wr.heap.size, 0, none⟩) (Nat.le_refl _) (.int .i64 o0)).setCell (p := ⟨wr.heap.size, 1, none⟩) (Nat.le_refl _) (.int .i64 o1)).setCell (p := ⟨wr.heap.size, 2, none⟩) (Nat.le_refl _) (.int .i64 o2)).setCell (p := ⟨wr.heap.size, 3, none⟩) (Nat.le_refl _) (.int .i64 o3))
           obtain ⟨W7, hW7⟩ : ∃ W, W = ((((w6.setCell ⟨wr.heap.size, 0, none⟩ (.int .i64 o0)).setCell ⟨wr.heap.size, 1, none⟩ (.int .i64 o1)).setCell ⟨wr.heap.size, 2, none⟩ (.int .i64 o2)).setCell ⟨wr.heap.size, 3, none⟩ (.int .i64 o3)) := ⟨_, rfl⟩
           rw [← hW7] at T7 B7 ⊢
           clear hW7 y0 y1 y2 y3 x0 x1 x2 x3 HNB)
        | (have T7 := Lib.hid (Blk.new w6 56 #[.int .i64 o0, .int .i64 o1, .int .i64 o2, .int .i64 o3])
           have B7 := Lib.hid (hbw.trans (((Ext.refl w6).alloc (Obj.cells #[.int .i64 o0, .int .i64 o1, .int .i64 o2, .int .i64 o3] 56)).below hbw.size))
           obtain ⟨W7, hW7⟩ : ∃ W, W = w6.alloc (Obj.cells #[.int .i64 o0, .int .i64 o1, .int .i64 o2, .int .i64 o3] 56) := ⟨_, rfl⟩
           rw [← hW7] at T7 B7 ⊢
           clear hW7)
        clear g0 g1 c1 c2 c3 c4 h0 h1 h2 h3 h4 h5 b1 b2 b3 b4 d1 d2 d3 d4 hb6 hbw
        have tq0 := T7.out.rd 0 (v := .int .i64 o0) rfl
        have tq1 := T7.out.rd 1 (v := .int .i64 o1) rfl
        have tq2 := T7.out.rd 2 (v := .int .i64 o2) rfl
        have tq3 := T7.out.rd 3 (v := .int .i64 o3) rfl
        have HP7 := HP.out.below B7.out HP.out.lt
        have pr1 := HP7.rd 1 (v := .slice A0 m0 q0) rfl
        have HB7 := Lib.hid (HB.out.trans (B7.out.mono HB.out.size))
        have HO7 := Lib.hid (own_belowT HO.out B7.out)
        have HK7 := Lib.hid (K4.out.trans (HB7.out.mono K4.out.size))
        clear HP7
        go_wp2_with fail
        refine (HIX.out _ HK7.out).mono ?_
        rintro e w8 ⟨rfl, hx8⟩
        have HB8 := Lib.hid (HB7.out.trans (hx8.below HB7.out.size))
        have HO8 := Lib.hid (iown_ext HO7.out hx8)
        clear hx8 tq0 tq1 tq2 tq3 pr1 HO7 HB7 HK7 B7 T7
        go_wp2_with (at_builtin; refine wpList_push rfl _ _ rfl w4.heap.size _ k _ rfl (HO8.out.alloc _) w8.heap.size (ps : Int) rfl (heap_alloc_new w8 _) ?e1 ?e2 ?e3 ?_)
        case e1 => unfold maxLen; omega
        case e2 => omega
        case e3 => have := HB8.out.size; simp; omega
        intro v' w9 hown' hgrow _
        have O9 := Lib.hid (show w9.ownsRow w4.heap.size 2 1 v' (k + 1) (vis (rowN ts p q a b z (k + 1))) by rw [HROW.out, vis_snoc]; exact hown')
        have B9 := Lib.hid ((HB8.out.alloc HB8.out.size _).grown hgrow (by have := HB8.out.size; simp; omega) (fun j hj => (HO8.out.lt j hj).1))
        clear hown' hgrow HO8 HB8
        go_wp2_with fail
        go_roundw
        case rel =>
          have e1 := HK1.out
          exact ⟨k + 1, by omega, by rw [e1], O9.out, B9.out⟩
        case measure => have e1 := HK1.out; simp [intOf]; omega
    · obtain rfl : k = n := by omega
      have HT := Lib.hid (own_iwr HO.out (rowN_len _ _ _ _ _ _ _))
      obtain ⟨A2, cap2, rfl, hcap, htw⟩ := HT.out
      have HT2 := Lib.hid htw
      clear htw HT HO
      go_wp2_with fail
      go_ret
      exact ⟨A2, cap2, rfl, K4.out.trans (HB.out.mono K4.out.size), HT2.out.low K4.out.size⟩
end
end Go.Proofs.YtnagpndclagfaaaDoor
