/- Fractions in memory; the library's greatest and least element by the program's comparison. -/
import Derived.Test.YtplbjnnicmcpdaaBa1
import Derived.Test.YtplbjnnicmcpdaaReads
import Derived.Test.YtplbjnnicmcpdaaAppI
import Derived.StillTailTactics
namespace Go.Proofs.Ytplbjnnicmcpdaa
set_option linter.unusedVariables false
set_option linter.unusedSimpArgs false
open Go.RowKit Go.Sort

theorem mulM (x y z : Nat) (h : x * y = z) (hz : z ≤ 1000000) : IntKind.i64.wrap ((x : Int) * (y : Int)) = (z : Int) := by
  have e : ((x : Int) * (y : Int)) = (z : Int) := by rw [← h]; push_cast; rfl
  rw [e]; exact IntWalk.i64_in _ (by omega)
abbrev Fq := Nat × Nat
def F0 : Fq := (0, 1)
def fv (f : Fq) : Value := .agg #[.int .i64 (f.1 : Int), .int .i64 (f.2 : Int)]
def encF (f : Fq) : List Value := [.int .i64 (f.1 : Int), .int .i64 (f.2 : Int)]
def encFA (f : Fq) : Array Value := #[.int .i64 (f.1 : Int), .int .i64 (f.2 : Int)]
def flatF (fs : List Fq) : List Value := fs.flatMap encF
theorem encF_one (t : Fq) : ∀ u ∈ encF t, u.oneCell' = true := by
  intro u hu
  simp [encF] at hu
  rcases hu with rfl | rfl <;> rfl
theorem flatF_get (fs : List Fq) {k j : Nat} (hk : k < fs.length) (hj : j < 2) : (flatF fs)[k * 2 + j]? = (encF (fs.getD k F0))[j]? := by
  induction fs generalizing k with
  | nil => simp at hk
  | cons x r ih =>
    have he : (encF x).length = 2 := rfl
    cases k with
    | zero => simp only [flatF, List.flatMap_cons, Nat.zero_mul, Nat.zero_add]; rw [List.getElem?_append_left (by omega)]; rfl
    | succ k =>
      have h := ih (k := k) (by simpa using hk)
      have e1 : (k + 1) * 2 + j - (encF x).length = k * 2 + j := by rw [he]; omega
      simp only [flatF, List.flatMap_cons]
      rw [List.getElem?_append_right (by rw [he]; omega), e1]
      simpa [flatF, List.getD] using h
theorem flatF_snoc (fs : List Fq) (f : Fq) : flatF fs ++ encF f = flatF (fs ++ [f]) := by simp [flatF]
theorem info_frac : (Try.prog.info? 59).map (fun i => (i.zero, i.size, i.bytes)) = some (some (.agg #[.int .i64 0, .int .i64 0]), 2, 16) := by kernel_rfl
/-- A slice of fractions that can be read. -/
def FR (w : World) (A : Option Addr) (fs : List Fq) : Prop :=
  0 < fs.length → ∃ b off, A = some ⟨b, off, none⟩ ∧ b < w.heap.size ∧ ∀ k, k < fs.length → w.cell? ⟨b, off + k * 2, none⟩ = some (.int .i64 ((fs.getD k F0).1 : Int)) ∧ w.cell? ⟨b, off + k * 2 + 1, none⟩ = some (.int .i64 ((fs.getD k F0).2 : Int))
theorem FR.below {w w' : World} {A : Option Addr} {fs : List Fq} (h : FR w A fs) (hb : Below w.heap.size w w') : FR w' A fs := fun h0 => by
  obtain ⟨b, off, e, hlt, hc⟩ := h h0
  have := hb.size
  exact ⟨b, off, e, by omega, fun k hk => ⟨(hb.cell (p := ⟨b, off + k * 2, none⟩) hlt).trans (hc k hk).1, (hb.cell (p := ⟨b, off + k * 2 + 1, none⟩) hlt).trans (hc k hk).2⟩⟩
theorem own_fr {w : World} {base n : Nat} {v : Value} {fs : List Fq} (h : w.ownsRow base 59 2 v n (flatF fs)) (hl : fs.length = n) :
    ∃ A cap, v = .slice A n cap ∧ FR w A fs := by
  rcases h.2 with ⟨rfl, h0⟩ | ⟨g, cap, cur, rfl, hb, hg, hn, hm, hs, ht⟩
  · subst h0
    exact ⟨none, 0, rfl, fun h1 => by omega⟩
  · refine ⟨_, cap, rfl, fun _ => ⟨g, 0, rfl, ?_, fun k hk => ?_⟩⟩
    · rcases Nat.lt_or_ge g w.heap.size with hlt | hge
      · exact hlt
      · rw [Array.getElem?_eq_none hge] at hg; cases hg
    · have key : ∀ j, j < 2 → cur[k * 2 + j]? = (encF (fs.getD k F0))[j]? := by
        intro j hj
        rw [← flatF_get fs hk hj, ← ht, List.getElem?_take, if_pos (by omega)]
        simp
      simp only [Nat.zero_add]
      refine ⟨?_, ?_⟩
      · rw [cell_of_row w g (k * 2) cur 59 (0, 0) hg]
        have := key 0 (by omega)
        simpa [encF] using this
      · rw [cell_of_row w g (k * 2 + 1) cur 59 (0, 0) hg]
        have := key 1 (by omega)
        simpa [encF] using this
theorem readsF_new {w : World} {g : Nat} {t : Fq} (hb : w.heap[g]? = some (.cells (encFA t) 59 (0, 0))) : Reads w w.heap.size 2 (some ⟨g, 0, none⟩) 1 (encF t) := by
  have hlt : g < w.heap.size := by
    rcases Nat.lt_or_ge g w.heap.size with hlt | hge
    · exact hlt
    · rw [Array.getElem?_eq_none hge] at hb; cases hb
  refine ⟨rfl, fun _ => ⟨_, rfl, hlt, fun j u hu => ?_⟩⟩
  have := cell_of_row w g j (encFA t) 59 (0, 0) hb
  rw [Go.WideShapes.add_plain]
  simp only [Nat.zero_add]
  rw [this]
  rw [← hu]
  simp [encFA, encF]
/-- 'append(s, f)' onto a row of fractions that the call owns: f lies in a new block of its own. -/
theorem wpList_pushF {w : World} {ops : Array Oper} {rest : List Oper} {o : Oper} {a : Act} {Q : Exit → Act → World → Prop} (hgd : o.guard = none) (s x : Operand)
    (ho : o.op = .call { callee := .builtin .append, args := #[s, x], argTypes := #[80, 80] })
    (base : Nat) (v : Value) (n : Nat) (xs : List Value) (hs : a.eval s = v) (hown : w.ownsRow base 59 2 v n xs)
    (g : Nat) (t : Fq) (hx : a.eval x = .slice (some ⟨g, 0, none⟩) 1 1) (hb : w.heap[g]? = some (.cells (encFA t) 59 (0, 0)))
    (h63 : n + 1 ≤ maxLen) (hbytes : (n + 1) * 16 ≤ 140737488355328) (hbase : base ≤ w.heap.size)
    (h : ∀ v' w', w'.ownsRow base 59 2 v' (n + 1) (xs ++ encF t) → w.grownBy w' v.ownBlock → (v'.ownBlock = v.ownBlock ∨ v'.ownBlock = some w.heap.size) → wpList Try.prog ops Q rest (a.put o.dst v') w') :
    wpList Try.prog ops Q (o :: rest) a w := by
  obtain ⟨i0, hi, hz0, hz1, hz2⟩ := info_parts info_frac
  exact wpList_append_any w hgd s x _ ho base 59 i0 _ 2 16 Try.underlying80 hi hz0 hz1 hz2 rfl (by decide) v n xs hs hown w.heap.size _ 1 _ (encF t) hx (readsF_new hb) (encF_one t) h63 hbytes hbase h

set_option maxHeartbeats 1000000 in
theorem compareFrac_any (f m : Fq) (w : World) (h1 : f.1 * m.2 ≤ 100000) (h2 : m.1 * f.2 ≤ 100000) :
    Calls Try.prog 35 #[fv f, fv m] w fun e w' => e = .returned (.int .i64 (cmpI ((f.1 * m.2 : Nat) : Int) ((m.1 * f.2 : Nat) : Int))) ∧ Ext w w' := by
  obtain ⟨a, b⟩ := f
  obtain ⟨c, d⟩ := m
  simp only at h1 h2 ⊢
  obtain ⟨x, hx⟩ : ∃ x, a * d = x := ⟨_, rfl⟩
  obtain ⟨y, hy⟩ : ∃ y, c * b = y := ⟨_, rfl⟩
  have hw1 := mulM a d x hx (by omega)
  have hw2 := mulM c b y hy (by omega)
  rw [hx, hy]
  have HC := Lib.hid (fun W => compare_any (x : Int) (y : Int) W)
  generalize cmpI (x : Int) (y : Int) = z at *
  unfold fv
  simp only
  clear hx hy h1 h2
  go_enter Try.func35, Try.ntmps35
  go_wp2_with fail
  refine (HC.out _).mono ?_
  rintro e w1 ⟨rfl, rfl⟩
  go_wp2_with fail
  go_ret
  exact ⟨rfl, ((Ext.refl w).alloc _).alloc _⟩

/-- The first greatest of the fractions 0 to k. -/
def maxF (fs : List Fq) : Nat → Fq
  | 0 => fs.getD 0 F0
  | k + 1 => if (maxF fs k).1 * (fs.getD (k + 1) F0).2 < (fs.getD (k + 1) F0).1 * (maxF fs k).2 then fs.getD (k + 1) F0 else maxF fs k
def minF (fs : List Fq) : Nat → Fq
  | 0 => fs.getD 0 F0
  | k + 1 => if (fs.getD (k + 1) F0).1 * (minF fs k).2 < (minF fs k).1 * (fs.getD (k + 1) F0).2 then fs.getD (k + 1) F0 else minF fs k
def smallF (f : Fq) : Prop := f.1 ≤ 300 ∧ f.2 ≤ 300
theorem maxF_small {fs : List Fq} {n : Nat} (h : ∀ k, k < n → smallF (fs.getD k F0)) : ∀ k, k < n → smallF (maxF fs k)
  | 0, hk => h 0 hk
  | k + 1, hk => by
    simp only [maxF]
    split
    · exact h _ hk
    · exact maxF_small h k (by omega)
theorem minF_small {fs : List Fq} {n : Nat} (h : ∀ k, k < n → smallF (fs.getD k F0)) : ∀ k, k < n → smallF (minF fs k)
  | 0, hk => h 0 hk
  | k + 1, hk => by
    simp only [minF]
    split
    · exact h _ hk
    · exact minF_small h k (by omega)
theorem cmpI_gt {x y : Int} (h : y < x) : cmpI x y = 1 := by unfold cmpI; rw [if_neg (by omega), if_pos h]
theorem cmpI_le {x y : Int} (h : ¬ y < x) : cmpI x y ≤ 0 := by unfold cmpI; (repeat' split) <;> omega
theorem cmpI_lt {x y : Int} (h : x < y) : cmpI x y = -1 := by unfold cmpI; rw [if_pos h]
theorem cmpI_ge {x y : Int} (h : ¬ x < y) : 0 ≤ cmpI x y := by unfold cmpI; (repeat' split) <;> omega
theorem smul {f m : Fq} (hf : smallF f) (hm : smallF m) : f.1 * m.2 ≤ 100000 := Nat.le_trans (Nat.mul_le_mul hf.1 hm.2) (by omega)

set_option maxRecDepth 100000 in
set_option maxHeartbeats 2000000 in
theorem maxFuncF_any (A : Option Addr) (n c : Nat) (fs : List Fq) (w : World) (hn1 : 1 ≤ n) (hn : n ≤ 100) (hl : fs.length = n) (hA : FR w A fs) (hsm : ∀ k, k < n → smallF (fs.getD k F0)) :
    Calls Try.prog 56 #[.slice A n c, .func (.func 35) #[] #[]] w fun e w' => e = .returned (fv (maxF fs (n - 1))) ∧ Below w.heap.size w w' := by
  obtain ⟨b, off, rfl, hlt, hc⟩ := hA (by omega)
  have HC := Lib.hid hc
  have HSM := Lib.hid hsm
  have HMS := Lib.hid (maxF_small hsm)
  have hc0 := hc 0 (by omega)
  simp only [Nat.zero_mul, Nat.add_zero] at hc0
  obtain ⟨r0, r1⟩ := hc0
  obtain ⟨⟨x0, y0⟩, hX0⟩ : ∃ f, f = fs.getD 0 F0 := ⟨_, rfl⟩
  rw [← hX0] at r0 r1
  simp only at r0 r1
  obtain ⟨W0, hW0⟩ : ∃ W0, (w.alloc (Obj.cells #[.int .i64 0, .int .i64 0] 59)).alloc (Obj.cells #[.int .i64 (x0 : Int), .int .i64 (y0 : Int)] 59) = W0 := ⟨_, rfl⟩
  have hE : Below w.heap.size w W0 := by rw [← hW0]; exact (((Ext.refl w).alloc _).alloc _).below (Nat.le_refl _)
  have hZ0 : Blk W0 w.heap.size 59 #[.int .i64 0, .int .i64 0] := by rw [← hW0]; exact (Blk.new w _ _).ext ((Ext.refl _).alloc _)
  have hM0 : Blk W0 (w.heap.size + 1) 59 #[.int .i64 (x0 : Int), .int .i64 (y0 : Int)] := by rw [← hW0]; have := Blk.new (w.alloc (Obj.cells #[.int .i64 0, .int .i64 0] 59)) 59 #[.int .i64 (x0 : Int), .int .i64 (y0 : Int)]; simpa using this
  have HI := Lib.hid (And.intro hE (And.intro hZ0 hM0))
  have HX0 := Lib.hid hX0
  have hn3 : ¬ (n : Int) < 1 := by omega
  have hn4 : (0 : Int) < (n : Int) := by omega
  clear hE hZ0 hM0 hc hsm hX0 hA
  go_enter Try.func56, Try.ntmps56
  go_wp2_with fail
  try rw [hW0]
  clear hW0 r0 r1
  go_loopw [6] (fun i wr => ∃ k j : Nat, Hid (k = j + 1) ∧ k ≤ n ∧ i = .int .i64 (k : Int) ∧ Below w.heap.size w wr ∧ Blk wr w.heap.size 59 #[.int .i64 0, .int .i64 0] ∧ Blk wr (w.heap.size + 1) 59 (encFA (maxF fs j))) (fun i _ => n - (intOf i).toNat)
  case atStart => exact ⟨1, 0, Lib.hid rfl, by omega, rfl, HI.out.1, HI.out.2.1, by unfold encFA maxF; rw [← HX0.out]; exact HI.out.2.2⟩
  case round =>
    obtain ⟨k, j, HKJ, hk, rfl, hb, hz, hm⟩ := hrel
    have HB := Lib.hid hb
    have HZ := Lib.hid hz
    have HM := Lib.hid hm
    clear hb hz hm
    have hkj := HKJ.out
    by_cases hlt2 : k < n
    · obtain ⟨q0, q1⟩ := HC.out k (by omega)
      have hf := HSM.out k hlt2
      have hmm := HMS.out j (by omega)
      have hc1 := smul hf hmm
      have hc2 := smul hmm hf
      have HST := Lib.hid (show maxF fs k = if (maxF fs j).1 * (fs.getD k F0).2 < (fs.getD k F0).1 * (maxF fs j).2 then fs.getD k F0 else maxF fs j by rw [hkj]; rfl)
      obtain ⟨⟨fx, fy⟩, hF⟩ : ∃ f, f = fs.getD k F0 := ⟨_, rfl⟩
      obtain ⟨⟨mx, my⟩, hMM⟩ : ∃ f, f = maxF fs j := ⟨_, rfl⟩
      rw [← hF] at q0 q1 hc1 hc2 HST
      rw [← hMM] at hc1 hc2 HST
      have HFF := Lib.hid hF
      have HMM := Lib.hid hMM
      simp only at q0 q1 hc1 hc2
      have hcmp := fun W => compareFrac_any (fx, fy) (mx, my) W hc1 hc2
      simp only [fv] at hcmp
      have hgt := cmpI_gt (x := ((fx * my : Nat) : Int)) (y := ((mx * fy : Nat) : Int))
      have hle := cmpI_le (x := ((fx * my : Nat) : Int)) (y := ((mx * fy : Nat) : Int))
      generalize cmpI ((fx * my : Nat) : Int) ((mx * fy : Nat) : Int) = z at hcmp hgt hle
      unfold Ext at hcmp
      have HCM := Lib.hid hcmp
      have HGT := Lib.hid hgt
      have HLE := Lib.hid hle
      have hbk := HM.out
      rw [← hMM] at hbk
      unfold encFA at hbk
      simp only at hbk
      replace q0 := (HB.out.cell (p := ⟨b, off + k * 2, none⟩) hlt).trans q0
      replace q1 := (HB.out.cell (p := ⟨b, off + k * 2 + 1, none⟩) hlt).trans q1
      have hbw : b < wr.heap.size := by have := HB.out.size; omega
      have HQ0 := Lib.hid q0
      have HQ1 := Lib.hid q1
      replace q0 := fun q os => Ext.cell_ (⟨q, os, rfl⟩ : Ext wr (grow (wr.drewN q) os)) q0
      replace q1 := fun q os => Ext.cell_ (⟨q, os, rfl⟩ : Ext wr (grow (wr.drewN q) os)) q1
      have m0 := fun q os => hbk.grown q os 0 (v := .int .i64 (mx : Int)) rfl
      have m1 := fun q os => hbk.grown q os 1 (v := .int .i64 (my : Int)) rfl
      have HBK := Lib.hid hbk
      have hkn : (k : Int) < (n : Int) := by omega
      clear hcmp hgt hle hF hMM hbk hc1 hc2 hf hmm hkj
      go_wp2_with fail
      refine wp_region_quiet_grown mixed (by kernel_rfl) ?_
      repeat (go_big_quiet_step (((first | (go_at_call 35; with_reducible refine Calls.grown_of (HCM.out _))))))
      refine wpQuiet_nil ?_
      intro _ hw'
      obtain ⟨⟨nq, osq⟩, hw''⟩ := hw'
      subst hw''
      clear q0 q1 m0 m1
      have hx := (⟨nq, osq, rfl⟩ : Ext wr (grow (wr.drewN nq) osq))
      have HB2 := Lib.hid (HB.out.trans (Ext.below hx HB.out.size))
      have HZ2 := Lib.hid (HZ.out.ext hx)
      have HBK2 := Lib.hid (HBK.out.ext hx)
      have p0 := Ext.cell_ hx HQ0.out
      have p1 := Ext.cell_ hx HQ1.out
      generalize grow (wr.drewN nq) osq = w2 at *
      clear hx HB HZ HM HBK HQ0 HQ1
      by_cases hcc : mx * fy < fx * my
      · have hzz : (0 : Int) < z := by have := HGT.out (by exact_mod_cast hcc); omega
        have HE := Lib.hid (show maxF fs k = (fx, fy) by rw [HST.out, if_pos hcc])
        have c0 := HBK2.out.rd 0 rfl
        have c1 := HBK2.out.rd 1 rfl
        have y0 := HBK2.out.frozen 0
        have y1 := HBK2.out.frozen 1
        go_wp2_with fail
        go_roundw
        case rel => exact ⟨k + 1, k, Lib.hid rfl, by omega, by go_num, (HB2.out.setCell (Nat.le_succ _) _).setCell (Nat.le_succ _) _, (HZ2.out.far (by simp) _).far (by simp) _, by rw [HE.out]; exact (HBK2.out.set_ 0 _).set_ 1 _⟩
        case measure => simp [intOf]; omega
      · have hzz : ¬ (0 : Int) < z := by have := HLE.out (by have := Nat.not_lt.1 hcc; exact_mod_cast this); omega
        have HE := Lib.hid (show maxF fs k = maxF fs j by rw [HST.out, if_neg hcc, HMM.out])
        clear p0 p1
        go_wp2_with fail
        go_roundw
        case rel => exact ⟨k + 1, k, Lib.hid rfl, by omega, by go_num, HB2.out, HZ2.out, by rw [HE.out, ← HMM.out]; exact HBK2.out⟩
        case measure => simp [intOf]; omega
    · obtain rfl : k = n := by omega
      have HJ := Lib.hid (show k - 1 = j by omega)
      obtain ⟨⟨mx, my⟩, hMM⟩ : ∃ f, f = maxF fs j := ⟨_, rfl⟩
      have hbk := HM.out
      rw [← hMM] at hbk
      unfold encFA at hbk
      simp only at hbk
      have HMM := Lib.hid hMM
      have c0 := hbk.rd 0 rfl
      have c1 := hbk.rd 1 rfl
      have z0 := HZ.out.rd 0 rfl
      have z1 := HZ.out.rd 1 rfl
      have y0 := HZ.out.frozen 0
      have y1 := HZ.out.frozen 1
      clear hMM hbk
      go_wp2_with fail
      refine bodyPost_ret (v := .agg #[.int .i64 (mx : Int), .int .i64 (my : Int)]) (by simp [results, Try.results56, go_sem, z0, z1, y0, y1]) rfl ⟨?_, ?_⟩
      · rw [HJ.out, ← HMM.out]
        rfl
      · exact (HB.out.setCell (Nat.le_refl _) _).setCell (Nat.le_refl _) _
set_option maxRecDepth 100000 in
set_option maxHeartbeats 2000000 in
theorem minFuncF_any (A : Option Addr) (n c : Nat) (fs : List Fq) (w : World) (hn1 : 1 ≤ n) (hn : n ≤ 100) (hl : fs.length = n) (hA : FR w A fs) (hsm : ∀ k, k < n → smallF (fs.getD k F0)) :
    Calls Try.prog 57 #[.slice A n c, .func (.func 35) #[] #[]] w fun e w' => e = .returned (fv (minF fs (n - 1))) ∧ Below w.heap.size w w' := by
  obtain ⟨b, off, rfl, hlt, hc⟩ := hA (by omega)
  have HC := Lib.hid hc
  have HSM := Lib.hid hsm
  have HMS := Lib.hid (minF_small hsm)
  have hc0 := hc 0 (by omega)
  simp only [Nat.zero_mul, Nat.add_zero] at hc0
  obtain ⟨r0, r1⟩ := hc0
  obtain ⟨⟨x0, y0⟩, hX0⟩ : ∃ f, f = fs.getD 0 F0 := ⟨_, rfl⟩
  rw [← hX0] at r0 r1
  simp only at r0 r1
  obtain ⟨W0, hW0⟩ : ∃ W0, (w.alloc (Obj.cells #[.int .i64 0, .int .i64 0] 59)).alloc (Obj.cells #[.int .i64 (x0 : Int), .int .i64 (y0 : Int)] 59) = W0 := ⟨_, rfl⟩
  have hE : Below w.heap.size w W0 := by rw [← hW0]; exact (((Ext.refl w).alloc _).alloc _).below (Nat.le_refl _)
  have hZ0 : Blk W0 w.heap.size 59 #[.int .i64 0, .int .i64 0] := by rw [← hW0]; exact (Blk.new w _ _).ext ((Ext.refl _).alloc _)
  have hM0 : Blk W0 (w.heap.size + 1) 59 #[.int .i64 (x0 : Int), .int .i64 (y0 : Int)] := by rw [← hW0]; have := Blk.new (w.alloc (Obj.cells #[.int .i64 0, .int .i64 0] 59)) 59 #[.int .i64 (x0 : Int), .int .i64 (y0 : Int)]; simpa using this
  have HI := Lib.hid (And.intro hE (And.intro hZ0 hM0))
  have HX0 := Lib.hid hX0
  have hn3 : ¬ (n : Int) < 1 := by omega
  have hn4 : (0 : Int) < (n : Int) := by omega
  clear hE hZ0 hM0 hc hsm hX0 hA
  go_enter Try.func57, Try.ntmps57
  go_wp2_with fail
  try rw [hW0]
  clear hW0 r0 r1
  go_loopw [6] (fun i wr => ∃ k j : Nat, Hid (k = j + 1) ∧ k ≤ n ∧ i = .int .i64 (k : Int) ∧ Below w.heap.size w wr ∧ Blk wr w.heap.size 59 #[.int .i64 0, .int .i64 0] ∧ Blk wr (w.heap.size + 1) 59 (encFA (minF fs j))) (fun i _ => n - (intOf i).toNat)
  case atStart => exact ⟨1, 0, Lib.hid rfl, by omega, rfl, HI.out.1, HI.out.2.1, by unfold encFA minF; rw [← HX0.out]; exact HI.out.2.2⟩
  case round =>
    obtain ⟨k, j, HKJ, hk, rfl, hb, hz, hm⟩ := hrel
    have HB := Lib.hid hb
    have HZ := Lib.hid hz
    have HM := Lib.hid hm
    clear hb hz hm
    have hkj := HKJ.out
    by_cases hlt2 : k < n
    · obtain ⟨q0, q1⟩ := HC.out k (by omega)
      have hf := HSM.out k hlt2
      have hmm := HMS.out j (by omega)
      have hc1 := smul hf hmm
      have hc2 := smul hmm hf
      have HST := Lib.hid (show minF fs k = if (fs.getD k F0).1 * (minF fs j).2 < (minF fs j).1 * (fs.getD k F0).2 then fs.getD k F0 else minF fs j by rw [hkj]; rfl)
      obtain ⟨⟨fx, fy⟩, hF⟩ : ∃ f, f = fs.getD k F0 := ⟨_, rfl⟩
      obtain ⟨⟨mx, my⟩, hMM⟩ : ∃ f, f = minF fs j := ⟨_, rfl⟩
      rw [← hF] at q0 q1 hc1 hc2 HST
      rw [← hMM] at hc1 hc2 HST
      have HFF := Lib.hid hF
      have HMM := Lib.hid hMM
      simp only at q0 q1 hc1 hc2
      have hcmp := fun W => compareFrac_any (fx, fy) (mx, my) W hc1 hc2
      simp only [fv] at hcmp
      have hgt := cmpI_lt (x := ((fx * my : Nat) : Int)) (y := ((mx * fy : Nat) : Int))
      have hle := cmpI_ge (x := ((fx * my : Nat) : Int)) (y := ((mx * fy : Nat) : Int))
      generalize cmpI ((fx * my : Nat) : Int) ((mx * fy : Nat) : Int) = z at hcmp hgt hle
      unfold Ext at hcmp
      have HCM := Lib.hid hcmp
      have HGT := Lib.hid hgt
      have HLE := Lib.hid hle
      have hbk := HM.out
      rw [← hMM] at hbk
      unfold encFA at hbk
      simp only at hbk
      replace q0 := (HB.out.cell (p := ⟨b, off + k * 2, none⟩) hlt).trans q0
      replace q1 := (HB.out.cell (p := ⟨b, off + k * 2 + 1, none⟩) hlt).trans q1
      have hbw : b < wr.heap.size := by have := HB.out.size; omega
      have HQ0 := Lib.hid q0
      have HQ1 := Lib.hid q1
      replace q0 := fun q os => Ext.cell_ (⟨q, os, rfl⟩ : Ext wr (grow (wr.drewN q) os)) q0
      replace q1 := fun q os => Ext.cell_ (⟨q, os, rfl⟩ : Ext wr (grow (wr.drewN q) os)) q1
      have m0 := fun q os => hbk.grown q os 0 (v := .int .i64 (mx : Int)) rfl
      have m1 := fun q os => hbk.grown q os 1 (v := .int .i64 (my : Int)) rfl
      have HBK := Lib.hid hbk
      have hkn : (k : Int) < (n : Int) := by omega
      clear hcmp hgt hle hF hMM hbk hc1 hc2 hf hmm hkj
      go_wp2_with fail
      refine wp_region_quiet_grown mixed (by kernel_rfl) ?_
      repeat (go_big_quiet_step (((first | (go_at_call 35; with_reducible refine Calls.grown_of (HCM.out _))))))
      refine wpQuiet_nil ?_
      intro _ hw'
      obtain ⟨⟨nq, osq⟩, hw''⟩ := hw'
      subst hw''
      clear q0 q1 m0 m1
      have hx := (⟨nq, osq, rfl⟩ : Ext wr (grow (wr.drewN nq) osq))
      have HB2 := Lib.hid (HB.out.trans (Ext.below hx HB.out.size))
      have HZ2 := Lib.hid (HZ.out.ext hx)
      have HBK2 := Lib.hid (HBK.out.ext hx)
      have p0 := Ext.cell_ hx HQ0.out
      have p1 := Ext.cell_ hx HQ1.out
      generalize grow (wr.drewN nq) osq = w2 at *
      clear hx HB HZ HM HBK HQ0 HQ1
      by_cases hcc : fx * my < mx * fy
      · have hzz : z < (0 : Int) := by have := HGT.out (by exact_mod_cast hcc); omega
        have HE := Lib.hid (show minF fs k = (fx, fy) by rw [HST.out, if_pos hcc])
        have c0 := HBK2.out.rd 0 rfl
        have c1 := HBK2.out.rd 1 rfl
        have y0 := HBK2.out.frozen 0
        have y1 := HBK2.out.frozen 1
        go_wp2_with fail
        go_roundw
        case rel => exact ⟨k + 1, k, Lib.hid rfl, by omega, by go_num, (HB2.out.setCell (Nat.le_succ _) _).setCell (Nat.le_succ _) _, (HZ2.out.far (by simp) _).far (by simp) _, by rw [HE.out]; exact (HBK2.out.set_ 0 _).set_ 1 _⟩
        case measure => simp [intOf]; omega
      · have hzz : ¬ z < (0 : Int) := by have := HLE.out (by have := Nat.not_lt.1 hcc; exact_mod_cast this); omega
        have HE := Lib.hid (show minF fs k = minF fs j by rw [HST.out, if_neg hcc, HMM.out])
        clear p0 p1
        go_wp2_with fail
        go_roundw
        case rel => exact ⟨k + 1, k, Lib.hid rfl, by omega, by go_num, HB2.out, HZ2.out, by rw [HE.out, ← HMM.out]; exact HBK2.out⟩
        case measure => simp [intOf]; omega
    · obtain rfl : k = n := by omega
      have HJ := Lib.hid (show k - 1 = j by omega)
      obtain ⟨⟨mx, my⟩, hMM⟩ : ∃ f, f = minF fs j := ⟨_, rfl⟩
      have hbk := HM.out
      rw [← hMM] at hbk
      unfold encFA at hbk
      simp only at hbk
      have HMM := Lib.hid hMM
      have c0 := hbk.rd 0 rfl
      have c1 := hbk.rd 1 rfl
      have z0 := HZ.out.rd 0 rfl
      have z1 := HZ.out.rd 1 rfl
      have y0 := HZ.out.frozen 0
      have y1 := HZ.out.frozen 1
      clear hMM hbk
      go_wp2_with fail
      refine bodyPost_ret (v := .agg #[.int .i64 (mx : Int), .int .i64 (my : Int)]) (by simp [results, Try.results57, go_sem, z0, z1, y0, y1]) rfl ⟨?_, ?_⟩
      · rw [HJ.out, ← HMM.out]
        rfl
      · exact (HB.out.setCell (Nat.le_refl _) _).setCell (Nat.le_refl _) _
end Go.Proofs.Ytplbjnnicmcpdaa
