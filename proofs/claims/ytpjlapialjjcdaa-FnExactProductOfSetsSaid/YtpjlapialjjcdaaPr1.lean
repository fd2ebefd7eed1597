/- Products of tiles; the program's pair of two tiles. -/
import Derived.Test.YtpjlapialjjcdaaJn1
import Derived.Test.YtpjlapialjjcdaaSortF
import Derived.BigRegion
import Derived.Lib.Hide
namespace Go.Proofs.Ytpjlapialjjcdaa
set_option linter.unusedVariables false
set_option linter.unusedSimpArgs false
open Go.RowKit Go.Sort

def pairT (d : Int) (a b : Tl) : Tl := (a.1 * d + b.1, a.2.1 * d + b.2.1, a.2.2.1 * d + b.2.2.1, a.2.2.2 * d + b.2.2.2)
/-- The cells of a pair of which j colours are there. -/
def prA (d : Int) (a b : Tl) (j : Nat) : Array Value := #[.int .i64 (if 0 < j then a.1 * d + b.1 else 0), .int .i64 (if 1 < j then a.2.1 * d + b.2.1 else 0), .int .i64 (if 2 < j then a.2.2.1 * d + b.2.2.1 else 0), .int .i64 (if 3 < j then a.2.2.2 * d + b.2.2.2 else 0)]
theorem prA_zero (d : Int) (a b : Tl) : prA d a b 0 = #[.int .i64 0, .int .i64 0, .int .i64 0, .int .i64 0] := by simp [prA]
theorem prA_four (d : Int) (a b : Tl) : prA d a b 4 = encA (pairT d a b) := by simp [prA, encA, pairT]
theorem prA_at (d : Int) (a b : Tl) {j : Nat} (hj : j < 4) : (prA d a b j)[j]? = some (.int .i64 0) := by
  obtain rfl | rfl | rfl | rfl : j = 0 ∨ j = 1 ∨ j = 2 ∨ j = 3 := by omega
  all_goals simp [prA]
theorem prA_set (d : Int) (a b : Tl) {j : Nat} (hj : j < 4) : (prA d a b j).setIfInBounds j (.int .i64 (colT a j * d + colT b j)) = prA d a b (j + 1) := by
  obtain rfl | rfl | rfl | rfl : j = 0 ∨ j = 1 ∨ j = 2 ∨ j = 3 := by omega
  all_goals simp [prA, colT]
theorem encA_at (t : Tl) {j : Nat} (hj : j < 4) : (encA t)[j]? = some (.int .i64 (colT t j)) := by
  obtain rfl | rfl | rfl | rfl : j = 0 ∨ j = 1 ∨ j = 2 ∨ j = 3 := by omega
  all_goals simp [encA, colT]
theorem mul_small {x d : Int} (hx : 0 ≤ x ∧ x < 6) (hd : 1 ≤ d ∧ d ≤ 6) : 0 ≤ x * d ∧ x * d ≤ 36 :=
  ⟨Int.mul_nonneg hx.1 (by omega), by have := Int.mul_le_mul (show x ≤ 6 by omega) hd.2 (by omega : (0 : Int) ≤ d) (by decide : (0 : Int) ≤ 6); omega⟩
/-- The pairs of the first i tiles with all of the others; of one tile with the first k. -/
def prodO (d : Int) (ts us : List Tl) (i : Nat) : List Tl := (ts.take i).flatMap fun a => us.map (pairT d a)
def prodI (d : Int) (us : List Tl) (a : Tl) (k : Nat) : List Tl := (us.take k).map (pairT d a)
theorem prodO_succ (d : Int) (ts us : List Tl) {i : Nat} (hi : i < ts.length) : prodO d ts us (i + 1) = prodO d ts us i ++ us.map (pairT d (ts.getD i T0)) := by
  unfold prodO
  rw [take_snoc ts hi, List.flatMap_append]
  simp
theorem prodI_succ (d : Int) (us : List Tl) (a : Tl) {k : Nat} (hk : k < us.length) : prodI d us a (k + 1) = prodI d us a k ++ [pairT d a (us.getD k T0)] := by
  unfold prodI
  rw [take_snoc us hk, List.map_append]
  rfl
theorem prodI_len (d : Int) (us : List Tl) (a : Tl) {k : Nat} (hk : k ≤ us.length) : (prodI d us a k).length = k := by
  unfold prodI
  rw [List.length_map, List.length_take]
  omega
theorem prodI_all (d : Int) (us : List Tl) (a : Tl) : prodI d us a us.length = us.map (pairT d a) := by
  unfold prodI
  rw [List.take_length]
theorem prodO_len (d : Int) (ts us : List Tl) {i : Nat} (hi : i ≤ ts.length) : (prodO d ts us i).length = i * us.length := by
  induction i with
  | zero => simp [prodO]
  | succ i ih => rw [prodO_succ d ts us (by omega), List.length_append, List.length_map, ih (by omega), Nat.succ_mul]
theorem pairT_inj {d : Int} {a a' b b' : Tl} (hb : tileOk d b = true) (hb' : tileOk d b' = true) (h : pairT d a b = pairT d a' b') : a = a' ∧ b = b' := by
  simp only [tileOk, decide_eq_true_eq] at hb hb'
  obtain ⟨a0, a1, a2, a3⟩ := a
  obtain ⟨b0, b1, b2, b3⟩ := b
  obtain ⟨x0, x1, x2, x3⟩ := a'
  obtain ⟨y0, y1, y2, y3⟩ := b'
  simp only [pairT, Prod.mk.injEq] at h hb hb' ⊢
  have key : ∀ {p q r s : Int}, 0 ≤ q ∧ q < d → 0 ≤ s ∧ s < d → p * d + q = r * d + s → p = r ∧ q = s := by
    intro p q r s hq hs e
    have h1 : (p * d + q) % d = q := by rw [Int.add_comm, Int.add_mul_emod_self_right]; exact Int.emod_eq_of_lt hq.1 hq.2
    have h2 : (r * d + s) % d = s := by rw [Int.add_comm, Int.add_mul_emod_self_right]; exact Int.emod_eq_of_lt hs.1 hs.2
    have hqs : q = s := by rw [← h1, ← h2, e]
    subst hqs
    have h3 : p * d = r * d := by omega
    exact ⟨Int.eq_of_mul_eq_mul_right (by omega) h3, rfl⟩
  obtain ⟨h0, h1, h2, h3⟩ := h
  obtain ⟨e0, f0⟩ := key (by omega) (by omega) h0
  obtain ⟨e1, f1⟩ := key (by omega) (by omega) h1
  obtain ⟨e2, f2⟩ := key (by omega) (by omega) h2
  obtain ⟨e3, f3⟩ := key (by omega) (by omega) h3
  exact ⟨⟨e0, e1, e2, e3⟩, f0, f1, f2, f3⟩
theorem nodup_map_on2 {f : Tl → Tl} {ts : List Tl} (hinj : ∀ x, x ∈ ts → ∀ y, y ∈ ts → f x = f y → x = y) (h : ts.Nodup) : (ts.map f).Nodup := by
  unfold List.Nodup at *
  rw [List.pairwise_map]
  exact h.imp_of_mem fun {a b} ha hb hne e => hne (hinj a ha b hb e)
theorem prodO_nodup {d : Int} {ts us : List Tl} (ht : ts.Nodup) (hu : us.Nodup) (hd : ∀ t ∈ us, tileOk d t = true) {i : Nat} (hi : i ≤ ts.length) : (prodO d ts us i).Nodup := by
  induction i with
  | zero => simp [prodO]
  | succ i ih =>
    rw [prodO_succ d ts us (by omega), List.nodup_append]
    refine ⟨ih (by omega), ?_, ?_⟩
    · exact nodup_map_on2 (fun x hx y hy h => (pairT_inj (hd x hx) (hd y hy) h).2) hu
    · intro x hx y hy e
      subst e
      obtain ⟨b, hb, rfl⟩ := List.mem_map.1 hy
      unfold prodO at hx
      obtain ⟨a, ha, hx⟩ := List.mem_flatMap.1 hx
      obtain ⟨b', hb', e⟩ := List.mem_map.1 hx
      have := (pairT_inj (hd b' hb') (hd b hb) e).1
      have hn : (ts.take (i + 1)).Nodup := ht.sublist (List.take_sublist _ _)
      rw [take_snoc ts (by omega), List.nodup_append] at hn
      exact hn.2.2 a ha _ (List.mem_singleton.2 rfl) this

set_option maxRecDepth 100000 in
set_option maxHeartbeats 2000000 in
theorem pairedTile_any (a b : Tl) (c d : Int) (w : World) (ha : tileOk c a = true) (hb : tileOk d b = true) (hc : c ≤ 6) (hd : 1 ≤ d ∧ d ≤ 6) :
    Calls Try.prog 74 #[tv a, tv b, .int .i64 d] w fun e w' => e = .returned (tv (pairT d a b)) ∧ Below w.heap.size w w' := by
  have HA := Lib.hid ha
  have HB := Lib.hid hb
  clear ha hb
  unfold tv
  generalize hpt : pairT d a b = t
  have HPT := Lib.hid hpt
  clear hpt
  go_enter Try.func74, Try.ntmps74
  go_wp2_with fail
  obtain ⟨W1, hW1⟩ : ∃ W1, (((w.alloc (Obj.cells #[.int .i64 a.1, .int .i64 a.2.1, .int .i64 a.2.2.1, .int .i64 a.2.2.2] 51)).alloc (Obj.cells #[.int .i64 b.1, .int .i64 b.2.1, .int .i64 b.2.2.1, .int .i64 b.2.2.2] 51)).alloc (Obj.cells #[.int .i64 0, .int .i64 0, .int .i64 0, .int .i64 0] 51)).alloc (Obj.cells #[.int .i64 0, .int .i64 0, .int .i64 0, .int .i64 0] 51) = W1 := ⟨_, rfl⟩
  have hE : Ext w W1 := by rw [← hW1]; exact ((((Ext.refl w).alloc _).alloc _).alloc _).alloc _
  have hs1 : W1.heap.size = w.heap.size + 4 := by rw [← hW1]; simp
  have b1 : Blk W1 w.heap.size 51 (encA a) := by rw [← hW1]; exact (((Blk.new w 51 (encA a)).ext ((Ext.refl _).alloc _)).ext ((Ext.refl _).alloc _)).ext ((Ext.refl _).alloc _)
  have b2 : Blk W1 (w.heap.size + 1) 51 (encA b) := by
    rw [← hW1]
    have := ((Blk.new (w.alloc (Obj.cells #[.int .i64 a.1, .int .i64 a.2.1, .int .i64 a.2.2.1, .int .i64 a.2.2.2] 51)) 51 (encA b)).ext ((Ext.refl _).alloc (Obj.cells #[.int .i64 0, .int .i64 0, .int .i64 0, .int .i64 0] 51))).ext ((Ext.refl _).alloc (Obj.cells #[.int .i64 0, .int .i64 0, .int .i64 0, .int .i64 0] 51))
    simp only [World.size_alloc] at this
    exact this
  have b3 : Blk W1 (w.heap.size + 2) 51 #[.int .i64 0, .int .i64 0, .int .i64 0, .int .i64 0] := by
    rw [← hW1]
    have := (Blk.new ((w.alloc (Obj.cells #[.int .i64 a.1, .int .i64 a.2.1, .int .i64 a.2.2.1, .int .i64 a.2.2.2] 51)).alloc (Obj.cells #[.int .i64 b.1, .int .i64 b.2.1, .int .i64 b.2.2.1, .int .i64 b.2.2.2] 51)) 51 #[.int .i64 0, .int .i64 0, .int .i64 0, .int .i64 0]).ext ((Ext.refl _).alloc (Obj.cells #[.int .i64 0, .int .i64 0, .int .i64 0, .int .i64 0] 51))
    simp only [World.size_alloc] at this
    exact this
  have b4 : Blk W1 (w.heap.size + 3) 51 (prA d a b 0) := by
    rw [← hW1, prA_zero]
    have := Blk.new (((w.alloc (Obj.cells #[.int .i64 a.1, .int .i64 a.2.1, .int .i64 a.2.2.1, .int .i64 a.2.2.2] 51)).alloc (Obj.cells #[.int .i64 b.1, .int .i64 b.2.1, .int .i64 b.2.2.1, .int .i64 b.2.2.2] 51)).alloc (Obj.cells #[.int .i64 0, .int .i64 0, .int .i64 0, .int .i64 0] 51)) 51 #[.int .i64 0, .int .i64 0, .int .i64 0, .int .i64 0]
    simp only [World.size_alloc] at this
    exact this
  rw [hW1]
  have HH := Lib.hid (And.intro (hE.below (Nat.le_refl _)) (And.intro b1 (And.intro b2 (And.intro b3 b4))))
  clear hE b1 b2 b3 b4 hW1
  go_loopw [9] (fun jj wr => ∃ j : Nat, j ≤ 4 ∧ jj = .int .i64 j ∧ Blk wr (w.heap.size + 3) 51 (prA d a b j) ∧ Below (w.heap.size + 3) W1 wr) (fun jj _ => 4 - (intOf jj).toNat)
  case atStart => exact ⟨0, Nat.zero_le _, rfl, HH.out.2.2.2.2, Below.refl _ _⟩
  case round =>
    obtain ⟨j, hj, rfl, hbj, hbl⟩ := hrel
    have HBJ := Lib.hid hbj
    have HBL := Lib.hid hbl
    have hsz := hbl.size
    clear hbj hbl
    by_cases hj4 : j < 4
    · have q1 := (HH.out.2.1.below HBL.out (by omega)).rd j (encA_at a hj4)
      have q2 := (HH.out.2.2.1.below HBL.out (by omega)).rd j (encA_at b hj4)
      have q3 := HBJ.out.rd j (prA_at d a b hj4)
      have z3 := HBJ.out.frozen j
      have hx := colT_ok HA.out j
      have hy := colT_ok HB.out j
      have hst := HBJ.out.set_ j (.int .i64 (colT a j * d + colT b j))
      rw [prA_set d a b hj4] at hst
      have HST := Lib.hid hst
      generalize colT a j = x at q1 hx HST
      generalize colT b j = y at q2 hy HST
      have hm := mul_small (x := x) (d := d) (by omega) hd
      have hw1 : IntKind.i64.wrap (x * d) = x * d := IntWalk.i64_in _ (by omega)
      have hw2 : IntKind.i64.wrap (x * d + y) = x * d + y := IntWalk.i64_in _ (by omega)
      have hj5 : (j : Int) < 4 := by omega
      clear hst
      go_wp2_with fail
      go_region
      all_goals
        clear q1 q2 q3 z3
        go_wp2_with fail
        go_roundw
        have hbs := HBL.out.setCell (p := ⟨w.heap.size + 3, j, none⟩) (Nat.le_refl _) (.int .i64 (x * d + y))
        case rel => first | exact ⟨j + 1, by omega, by go_num, HST.out.ext ((Ext.refl _).drew), hbs.trans (((Ext.refl _).drew).below (by have := hbs.size; omega))⟩ | ((repeat apply Exists.intro); exact ⟨⟨j + 1, by omega, by go_num, HST.out.ext ((Ext.refl _).drew), hbs.trans (((Ext.refl _).drew).below (by have := hbs.size; omega))⟩, rfl⟩)
        case measure => simp [intOf]; omega
    · obtain rfl : j = 4 := by omega
      have hb8 := HBJ.out
      rw [prA_four, HPT.out] at hb8
      have q0 := hb8.rd 0 (v := .int .i64 t.1) rfl
      have q1 := hb8.rd 1 (v := .int .i64 t.2.1) rfl
      have q2 := hb8.rd 2 (v := .int .i64 t.2.2.1) rfl
      have q3 := hb8.rd 3 (v := .int .i64 t.2.2.2) rfl
      have hr := HH.out.2.2.2.1.below HBL.out (by omega)
      have r0 := hr.rd 0 rfl
      have r1 := hr.rd 1 rfl
      have r2 := hr.rd 2 rfl
      have r3 := hr.rd 3 rfl
      have z0 := hr.frozen 0
      have z1 := hr.frozen 1
      have z2 := hr.frozen 2
      have z3 := hr.frozen 3
      have HBF := Lib.hid (HH.out.1.trans (HBL.out.mono (by omega)))
      clear hb8 hr
      go_wp2_with fail
      refine bodyPost_ret (v := .agg #[.int .i64 t.1, .int .i64 t.2.1, .int .i64 t.2.2.1, .int .i64 t.2.2.2]) (by simp [results, Try.results74, go_sem, r0, r1, r2, r3, z0, z1, z2, z3]) rfl ⟨rfl, ?_⟩
      exact (((HBF.out.setCell (by simp <;> omega) _).setCell (by simp <;> omega) _).setCell (by simp <;> omega) _).setCell (by simp <;> omega) _
end Go.Proofs.Ytpjlapialjjcdaa
