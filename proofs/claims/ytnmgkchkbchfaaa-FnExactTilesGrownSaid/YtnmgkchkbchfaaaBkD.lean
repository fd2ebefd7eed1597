/- CornerPeriod: both sides. -/
import Derived.Test.YtnmgkchkbchfaaaBk7
namespace Go.Proofs.Ytnmgkchkbchfaaa
set_option linter.unusedVariables false
set_option linter.unusedSimpArgs false
open Go.RowKit Go.Sort

/-- r is the place of the first y, or -1. -/
def IsFirst (xs : List Int) (y r : Int) : Prop := (r = -1 ∧ ∀ k, k < xs.length → xs.getD k 0 ≠ y) ∨ ∃ j : Nat, r = (j : Int) ∧ j < xs.length ∧ xs.getD j 0 = y ∧ ∀ i, i < j → xs.getD i 0 ≠ y
theorem isFirst_mem {xs : List Int} {y r : Int} (h : IsFirst xs y r) : (0 ≤ r ↔ y ∈ xs) := by
  rcases h with ⟨rfl, h⟩ | ⟨j, rfl, hj, e, _⟩
  · refine ⟨fun h => by omega, fun hm => ?_⟩
    obtain ⟨j, hj, e⟩ := List.getElem_of_mem hm
    exact absurd (by simp [List.getD, hj, e]) (h j hj)
  · refine ⟨fun _ => ?_, fun _ => by omega⟩
    rw [← e]
    simp [List.getD, hj]
set_option maxRecDepth 100000 in
set_option maxHeartbeats 1000000 in
theorem index64_any (A : Option Addr) (n c : Nat) (xs : List Int) (y : Int) (w : World) (hn : n ≤ 1048576) (hl : xs.length = n) (hA : IR w w.heap.size A xs) :
    Calls Try.prog 74 #[.slice A n c, .int .i64 y] w fun e w' => (∃ r : Int, e = .returned (.int .i64 r) ∧ IsFirst xs y r) ∧ Ext w w' := by
  have HA := Lib.hid hA
  have HLL := Lib.hid hl
  clear hA
  go_enter Try.func74, Try.ntmps74
  go_wp2_with fail
  go_loopw [8] (fun ii wr => ∃ k : Nat, k ≤ n ∧ ii = .int .i64 k ∧ (∀ j, j < k → xs.getD j 0 ≠ y) ∧ wr = w) (fun ii _ => n - (intOf ii).toNat)
  case atStart => exact ⟨0, Nat.zero_le _, rfl, fun j hj => absurd hj (Nat.not_lt_zero _), rfl⟩
  case round =>
    obtain ⟨k, hk, rfl, hno, rfl⟩ := hrel
    have HNO := Lib.hid hno
    clear hno
    by_cases hlt : k < n
    · have hlt3 : (k : Int) < (n : Int) := by omega
      obtain ⟨b, off, rfl, -, hc⟩ := HA.out (by omega)
      have q1 := hc k (by omega)
      obtain ⟨x, hx⟩ : ∃ x, x = xs.getD k 0 := ⟨_, rfl⟩
      rw [← hx] at q1
      have HE := Lib.hid hx
      clear hc hx
      by_cases hxy : y = x
      · subst hxy
        go_wp2_with fail
        go_ret
        exact ⟨⟨(k : Int), rfl, .inr ⟨k, rfl, by rw [HLL.out]; exact hlt, HE.out.symm, HNO.out⟩⟩, Ext.refl _⟩
      · have hb : (y == x) = false := by simpa using hxy
        have HN2 := Lib.hid (show ∀ j, j < k + 1 → xs.getD j 0 ≠ y from fun j hj => by
          by_cases e : j = k
          · subst e; rw [← HE.out]; exact fun e => hxy e.symm
          · exact HNO.out j (by omega))
        go_wp2_with fail
        go_roundw
        case rel => exact ⟨k + 1, by omega, by go_num, HN2.out, trivial⟩
        case measure => simp [intOf]; omega
    · obtain rfl : k = n := by omega
      go_wp2_with fail
      go_ret
      exact ⟨⟨-1, rfl, .inl ⟨rfl, fun j hj => HNO.out j (by omega)⟩⟩, Ext.refl _⟩
set_option maxRecDepth 100000 in
set_option maxHeartbeats 1000000 in
theorem contains64_any (A : Option Addr) (n c : Nat) (xs : List Int) (y : Int) (w : World) (hn : n ≤ 1048576) (hl : xs.length = n) (hA : IR w w.heap.size A xs) :
    Calls Try.prog 73 #[.slice A n c, .int .i64 y] w fun e w' => e = .returned (.bool (decide (y ∈ xs))) ∧ Ext w w' := by
  have HI := Lib.hid (index64_any A n c xs y w hn hl hA)
  clear hA
  go_enter Try.func73, Try.ntmps73
  go_wp2_with fail
  refine HI.out.mono ?_
  rintro e w1 ⟨⟨r, rfl, hr⟩, hx⟩
  have HR := Lib.hid (isFirst_mem hr)
  have HX := Lib.hid hx
  clear hr hx
  by_cases h0 : 0 ≤ r
  · have HM := Lib.hid (HR.out.1 h0)
    go_wp2_with fail
    go_ret
    exact ⟨by rw [decide_eq_true HM.out]; rfl, HX.out⟩
  · have HM := Lib.hid (fun h => h0 (HR.out.2 h))
    go_wp2_with fail
    go_ret
    refine ⟨?_, HX.out⟩
    rw [decide_eq_false HM.out]
    exact congrArg (fun b => Ending.returned (.bool b)) (decide_eq_false (Int.not_le.2 h0))

/-- Two of n + 1 numbers below n are equal. -/
theorem pigeon : ∀ (n : Nat) (f : Nat → Nat), (∀ k, k ≤ n → f k < n) → ∃ a b, a < b ∧ b ≤ n ∧ f a = f b
  | 0, f, h => absurd (h 0 (Nat.le_refl _)) (Nat.not_lt_zero _)
  | n + 1, f, h => by
    by_cases hx : ∃ k, k ≤ n ∧ f k = f (n + 1)
    · obtain ⟨k, hk, e⟩ := hx
      exact ⟨k, n + 1, by omega, Nat.le_refl _, e⟩
    · have hne : ∀ k, k ≤ n → f k ≠ f (n + 1) := fun k hk e => hx ⟨k, hk, e⟩
      obtain ⟨a, b, hab, hb, e⟩ := pigeon n (fun k => if f k = n then f (n + 1) else f k) (fun k hk => by
        have h1 := h k (by omega)
        have h2 := h (n + 1) (Nat.le_refl _)
        have h3 := hne k hk
        show (if f k = n then f (n + 1) else f k) < n
        split <;> omega)
      refine ⟨a, b, hab, by omega, ?_⟩
      have h1 := hne a (by omega)
      have h2 := hne b hb
      split at e <;> split at e <;> omega
theorem least_of (P : Nat → Prop) (n : Nat) (h : ∃ t, t ≤ n ∧ P t) : ∃ T, T ≤ n ∧ P T ∧ ∀ t, t < T → ¬ P t := by
  induction n with
  | zero =>
    obtain ⟨t, ht, hp⟩ := h
    obtain rfl : t = 0 := by omega
    exact ⟨0, Nat.le_refl _, hp, fun t ht => absurd ht (Nat.not_lt_zero _)⟩
  | succ n ih =>
    by_cases hx : ∃ t, t ≤ n ∧ P t
    · obtain ⟨T, h1, h2⟩ := ih hx
      exact ⟨T, by omega, h2⟩
    · obtain ⟨t, ht, hp⟩ := h
      have : t = n + 1 := by
        rcases Nat.lt_or_ge t (n + 1) with h1 | h1
        · exact absurd ⟨t, by omega, hp⟩ hx
        · omega
      subst this
      exact ⟨n + 1, Nat.le_refl _, hp, fun t ht hp => hx ⟨t, by omega, hp⟩⟩
/-- The corners from K on repeat, T being the first that was there before. -/
def PerOk (c : Nat → Nat) (m T K : Nat) : Prop := T ≤ m ∧ K < T ∧ c K = c T ∧ ∀ a, a < T → ∀ b, b < a → c b ≠ c a
theorem perOk_ex {c : Nat → Nat} {m : Nat} (h : ∀ k, c k < m) : ∃ T K, PerOk c m T K := by
  obtain ⟨a, b, hab, hb, e⟩ := pigeon m c (fun k _ => h k)
  obtain ⟨T, h1, ⟨K, h2, h3⟩, h4⟩ := least_of (fun t => ∃ k, k < t ∧ c k = c t) m ⟨b, hb, a, hab, e⟩
  exact ⟨T, K, h1, h2, h3, fun a ha b hb e => h4 a ha ⟨b, hb, e⟩⟩
/-- The first so many corners. -/
def corK (bs : List (List Int)) (i : Nat) : Nat → List Int
  | 0 => []
  | k + 1 => corK bs i k ++ [((cor bs i k : Nat) : Int)]
theorem corK_len (bs : List (List Int)) (i : Nat) : ∀ k, (corK bs i k).length = k
  | 0 => rfl
  | k + 1 => by simp only [corK, List.length_append, corK_len bs i k, List.length_cons, List.length_nil]
theorem corK_get (bs : List (List Int)) (i : Nat) : ∀ {k j : Nat}, j < k → (corK bs i k).getD j 0 = ((cor bs i j : Nat) : Int)
  | 0, j, h => absurd h (Nat.not_lt_zero _)
  | k + 1, j, h => by
    simp only [corK, List.getD]
    by_cases hj : j = k
    · subst hj
      rw [List.getElem?_append_right (by rw [corK_len]; omega), corK_len]
      simp
    · rw [List.getElem?_append_left (by rw [corK_len]; omega)]
      exact corK_get bs i (show j < k by omega)
theorem corK_mem {bs : List (List Int)} {i k x : Nat} : ((x : Int) ∈ corK bs i k) ↔ ∃ j, j < k ∧ cor bs i j = x := by
  constructor
  · intro h
    obtain ⟨j, hj, e⟩ := List.getElem_of_mem h
    rw [corK_len] at hj
    have h2 := corK_get bs i hj
    simp only [List.getD, List.getElem?_eq_getElem (show j < (corK bs i k).length by rw [corK_len]; exact hj), Option.getD_some] at h2
    exact ⟨j, hj, by omega⟩
  · rintro ⟨j, hj, rfl⟩
    rw [← corK_get bs i hj]
    simp [List.getD, show j < (corK bs i k).length by rw [corK_len]; exact hj]
def lenOfV : Value → Nat
  | .slice _ n _ => n
  | _ => 0
theorem sCode_00 (c0 : Int) (ts : List Tl) (bs : List (List Int)) (i : Int) : sCode c0 ts bs i 0 0 = fCode c0 ts bs i := by
  unfold sCode
  by_cases h : fCode c0 ts bs i = 0
  · rw [h]; rfl
  · exact gc_no h
def PerRes (w : World) (k p code : Int) (e : Ending) (w' : World) : Prop := e = .returned (.tuple #[.int .i64 k, .int .i64 p, .int .i64 code]) ∧ Below w.heap.size w w'

set_option maxRecDepth 100000 in
set_option maxHeartbeats 4000000 in
theorem specCornerPeriod_any (c0 : Int) (A : Option Addr) (n c : Nat) (ts : List Tl) (B : Option Addr) (m d : Nat) (bs : List (List Int)) (i : Int) (w : World) (hn : n ≤ 1048576) (hl : ts.length = n) (hA : TR w w.heap.size A ts) (hm : m ≤ 1048576) (hlr : bs.length = m) (hB : IRR w w.heap.size B bs) (hrow : ∀ k, k < m → (bs.getD k []).length ≤ 1048576) (T K : Nat) (hP : fCode c0 ts bs i = 0 → PerOk (cor bs i.toNat) m T K) :
    Calls Try.prog 42 #[.agg #[.int .i64 c0, .slice A n c], .slice B m d, .int .i64 i] w (fun e w' => (fCode c0 ts bs i = 0 → PerRes w (K : Int) ((T : Int) - (K : Int)) 0 e w') ∧ (fCode c0 ts bs i ≠ 0 → PerRes w 0 0 (fCode c0 ts bs i) e w')) := by
  have HC := Lib.hid (l09Tile_any c0 A n c ts B m d bs i 0 0 (w.alloc (Obj.cells #[.int .i64 c0, .slice A n c] 32)) hn hl ((hA.ext ((Ext.refl w).alloc _) (Nat.le_refl _)).more (((Ext.refl w).alloc _).below (Nat.le_refl _)).size) hm hlr ((hB.ext ((Ext.refl w).alloc _) (Nat.le_refl _)).more (((Ext.refl w).alloc _).below (Nat.le_refl _)).size) hrow)
  rw [sCode_00] at HC
  unfold PerRes
  by_cases hz : fCode c0 ts bs i = 0
  · obtain ⟨hb0, hi9⟩ := gc_zero hz
    obtain ⟨hset, hok⟩ := bCode_zero hb0
    have hlen := bCode_len hb0
    obtain ⟨hTm, hKT, hKe, hdis⟩ := hP hz
    simp only [decide_eq_true_eq] at hi9
    obtain ⟨I, rfl⟩ : ∃ I : Nat, i = (I : Int) := ⟨i.toNat, by omega⟩
    rw [Int.toNat_natCast] at hKe hdis
    have HKE := Lib.hid hKe
    have HDIS := Lib.hid hdis
    have HK := Lib.hid (fun W (hW : Ext w W) => l09Corners_any ts B m d bs I m W hm hlr ((hB.ext hW (Nat.le_refl _)).more (hW.below (Nat.le_refl _)).size) hok (by omega) (by omega))
    simp only [hz, ne_eq, not_true_eq_false, false_implies, and_true, forall_const]
    rw [hz] at HC
    have hIm : I < m := by omega
    clear hz hb0 hi9 hset hok hlen hA hB hKe hdis hP
    go_enter Try.func42, Try.ntmps42
    go_wp2_with fail
    refine HC.out.mono ?_
    rintro e w1 ⟨rfl, hx⟩
    have HX := Lib.hid (((Ext.refl w).alloc (Obj.cells #[.int .i64 c0, .slice A n c] 32)).trans hx)
    clear hx
    go_wp2_with fail
    refine (HK.out _ HX.out).mono ?_
    rintro e w3 ⟨R, cap, rfl, hb3, hw3⟩
    have HB3 := Lib.hid ((HX.out.below (Nat.le_refl _)).trans (hb3.mono (HX.out.below (Nat.le_refl _)).size))
    have HW3 := Lib.hid hw3.ir
    obtain ⟨m1, hm1⟩ : ∃ m1, m1 = m + 1 := ⟨_, rfl⟩
    rw [← hm1]
    have HM1 := Lib.hid hm1
    clear hb3 hw3 hm1
    go_wp2_with fail
    go_loopw [11] (fun nv wr => ∃ t : Nat, 1 ≤ t ∧ t ≤ T ∧ nv = .int .i64 (t : Int) ∧ Ext w3 wr) (fun nv _ => T - (intOf nv).toNat)
    case atStart => exact ⟨1, Nat.le_refl _, by omega, rfl, Ext.refl _⟩
    case round =>
      obtain ⟨t, ht1, htT, rfl, hx⟩ := hrel
      have HXT := Lib.hid hx
      have htm : (t : Int) < (m1 : Int) := by have := HM1.out; omega
      clear hx
      go_wp2_with fail
      go_loopw [12] (fun kv wr => ∃ k : Nat, k ≤ t ∧ (t = T → k ≤ K) ∧ kv = .int .i64 (k : Int) ∧ Ext w3 wr) (fun kv _ => t - (intOf kv).toNat)
      case atStart => exact ⟨0, Nat.zero_le _, fun _ => Nat.zero_le _, rfl, HXT.out⟩
      case round =>
        obtain ⟨k, hkt, hkK, rfl, hx⟩ := hrel
        have HXK := Lib.hid hx
        by_cases hlt : k < t
        · obtain ⟨bR, oR, rfl, hbR, hcR⟩ := HW3.out (by rw [corL_len]; omega)
          have q0 := (hx.below (Nat.le_refl _)).cell (p := ⟨bR, oR + k, none⟩) hbR |>.trans (hcR k (by rw [corL_len]; omega))
          have q1 := (hx.below (Nat.le_refl _)).cell (p := ⟨bR, oR + t, none⟩) hbR |>.trans (hcR t (by rw [corL_len]; omega))
          rw [corL_get bs I (by omega)] at q0 q1
          have hkm : (k : Int) < (m1 : Int) := by have := HM1.out; omega
          have HKK := Lib.hid hkK
          have hw9 : IntKind.i64.wrap ((t : Int) - (k : Int)) = (t : Int) - (k : Int) := IntWalk.i64_in _ (by omega)
          clear hcR hx hkK
          by_cases heq : cor bs I k = cor bs I t
          · have htT2 : t = T := by
              rcases Nat.lt_or_ge t T with h | h
              · exact absurd heq (HDIS.out t h k hlt)
              · omega
            subst htT2
            have hkeq : k = K := by
              have h1 := HKK.out rfl
              rcases Nat.lt_or_ge k K with h | h
              · exact absurd (heq.trans HKE.out.symm) (HDIS.out K hKT k h)
              · omega
            subst hkeq
            rw [heq] at q0
            generalize cor bs I t = y at *
            have hb : ((y : Int) == (y : Int)) = true := by simp
            clear heq
            go_wp2_with fail
            go_quiet (fail)
            clear q0 q1
            go_wp2_with fail
            go_ret3
            exact ⟨rfl, HB3.out.trans ((HXK.out.drewN _).below HB3.out.size)⟩
          · have hb : (((cor bs I k : Nat) : Int) == ((cor bs I t : Nat) : Int)) = false := by rw [beq_eq_false_iff_ne]; exact fun h => heq (by omega)
            have HNQ := Lib.hid heq
            generalize ((cor bs I k : Nat) : Int) = y0 at *
            generalize ((cor bs I t : Nat) : Int) = y1 at *
            clear heq
            go_wp2_with fail
            go_quiet (fail)
            clear q0 q1 hb
            go_wp2_with fail
            go_roundw
            case rel =>
              refine ⟨k + 1, by omega, fun hT => ?_, by go_num, HXK.out.drewN _⟩
              have h1 := HKK.out hT
              have h2 : k ≠ K := fun e => by subst e; subst hT; exact HNQ.out HKE.out
              omega
            case measure => simp [intOf]; omega
        · obtain rfl : k = t := by omega
          have htT2 : k < T := by
            rcases Nat.lt_or_ge k T with h | h
            · exact h
            · have := hkK (by omega); omega
          clear hx
          go_wp2_with fail
          go_roundw
          case rel => exact ⟨k + 1, by omega, by omega, by go_num, HXK.out⟩
          case measure => simp [intOf]; omega
  · have HZ := Lib.hid hz
    simp only [ne_eq, hz, not_false_eq_true, false_implies, true_and, forall_const]
    generalize fCode c0 ts bs i = cd at *
    clear hA hB hP
    go_enter Try.func42, Try.ntmps42
    go_wp2_with fail
    refine HC.out.mono ?_
    rintro e w1 ⟨rfl, hx⟩
    have KK := Lib.hid ((((Ext.refl w).alloc _).trans hx).below (Nat.le_refl _))
    clear hx
    go_wp2_with fail
    go_ret3
    exact ⟨rfl, KK.out⟩

set_option maxRecDepth 100000 in
set_option maxHeartbeats 4000000 in
theorem implCornerPeriod_any (c0 : Int) (A : Option Addr) (n c : Nat) (ts : List Tl) (B : Option Addr) (m d : Nat) (bs : List (List Int)) (i : Int) (w : World) (hn : n ≤ 1048576) (hl : ts.length = n) (hA : TR w w.heap.size A ts) (hm : m ≤ 1048576) (hlr : bs.length = m) (hB : IRR w w.heap.size B bs) (hrow : ∀ k, k < m → (bs.getD k []).length ≤ 1048576) (T K : Nat) (hP : fCode c0 ts bs i = 0 → PerOk (cor bs i.toNat) m T K) :
    Calls Try.prog 43 #[.agg #[.int .i64 c0, .slice A n c], .slice B m d, .int .i64 i] w (fun e w' => (fCode c0 ts bs i = 0 → PerRes w (K : Int) ((T : Int) - (K : Int)) 0 e w') ∧ (fCode c0 ts bs i ≠ 0 → PerRes w 0 0 (fCode c0 ts bs i) e w')) := by
  have HC := Lib.hid (fun QQ => growthFrom_any c0 A n c ts B m d bs i (w.alloc (Obj.cells #[.int .i64 c0, .slice A n c] 32)) hn hl ((hA.ext ((Ext.refl w).alloc _) (Nat.le_refl _)).more (((Ext.refl w).alloc _).below (Nat.le_refl _)).size) hm hlr ((hB.ext ((Ext.refl w).alloc _) (Nat.le_refl _)).more (((Ext.refl w).alloc _).below (Nat.le_refl _)).size) hrow QQ)
  have HX0 := Lib.hid (((Ext.refl w).alloc (Obj.cells #[.int .i64 c0, .slice A n c] 32)).below (Nat.le_refl w.heap.size))
  unfold PerRes
  by_cases hz : fCode c0 ts bs i = 0
  · obtain ⟨hb0, hi9⟩ := gc_zero hz
    obtain ⟨hset, hok⟩ := bCode_zero hb0
    have hlen := bCode_len hb0
    obtain ⟨hTm, hKT, hKe, hdis⟩ := hP hz
    simp only [decide_eq_true_eq] at hi9
    obtain ⟨I, rfl⟩ : ∃ I : Nat, i = (I : Int) := ⟨i.toNat, by omega⟩
    rw [Int.toNat_natCast] at hKe hdis
    have HKE := Lib.hid hKe
    have HDIS := Lib.hid hdis
    have HL := Lib.hid (cor_lt hok (i := I) (by omega))
    have HAT := Lib.hid (cor_at hok (i := I) (by omega))
    have HZ := Lib.hid hz
    simp only [hz, ne_eq, not_true_eq_false, false_implies, and_true, forall_const]
    clear hz hb0 hi9 hset hok hlen hA hB hKe hdis hP
    go_enter Try.func43, Try.ntmps43
    go_wp2_with fail
    refine HC.out _ ?_ (fun h => absurd HZ.out h)
    intro _ e w1 ⟨G, g, he, hb1, htw⟩
    subst he
    rw [blkL_len, hlr]
    have K1 := Lib.hid (HX0.out.trans (hb1.mono HX0.out.size))
    have hx2 := (Ext.refl w1).alloc (Obj.cells #[.int .i64 c0, .slice A n c, .slice G m g] 61)
    have N2 := Lib.hid (Blk.new w1 61 #[.int .i64 c0, .slice A n c, .slice G m g])
    have T2 := Lib.hid ((htw.tr).ext hx2 (Nat.le_refl _))
    have K2 := Lib.hid (K1.out.trans (hx2.below K1.out.size))
    have hs2 : (w1.alloc (Obj.cells #[.int .i64 c0, .slice A n c, .slice G m g] 61)).heap.size = w1.heap.size + 1 := by simp
    have hlow : w.heap.size ≤ w1.heap.size := K1.out.size
    clear hb1 htw hx2
    go_wp2_with fail
    generalize w1.alloc (Obj.cells #[.int .i64 c0, .slice A n c, .slice G m g] 61) = W2 at *
    generalize w1.heap.size = g9 at *
    go_loopw [2, 11] (fun iv v wr => ∃ t : Nat, t ≤ T ∧ iv = .int .i64 ((cor bs I t : Nat) : Int) ∧ wr.ownsRow (g9 + 1) 2 1 v t (vis (corK bs I t)) ∧ lenOfV v = t ∧ Below (g9 + 1) W2 wr) (fun _ v _ => T - lenOfV v)
    case atStart => exact ⟨0, Nat.zero_le _, rfl, World.ownsRow_nil _ _ _ _, rfl, Below.refl _ _⟩
    case round =>
      obtain ⟨t, htT, rfl, hown, hlv, hb⟩ := hrel
      have HO := Lib.hid hown
      have HB := Lib.hid hb
      have KR := Lib.hid (K2.out.trans (hb.mono (by omega)))
      obtain ⟨A2, cap2, hv, hcap, htw⟩ := own_iwr hown (by rw [corK_len])
      subst hv
      have hct := contains64_any A2 t cap2 (corK bs I t) ((cor bs I t : Nat) : Int) wr (by omega) (by rw [corK_len]) htw.ir
      by_cases hlt : t < T
      · rw [decide_eq_false (fun h => by obtain ⟨j, hj, e⟩ := corK_mem.1 h; exact HDIS.out t hlt j hj e)] at hct
        have HCT := Lib.hid hct
        clear hown hct htw
        go_wp2_with fail
        refine HCT.out.mono ?_
        rintro e w4 ⟨rfl, hx4⟩
        have HB4 := Lib.hid (HB.out.trans (hx4.below (by have := HB.out.size; omega)))
        have HO4 := Lib.hid (iown_ext HO.out hx4)
        have hcl := HL.out t
        have NR := Lib.hid (N2.out.below HB4.out (Nat.lt_succ_self _))
        obtain ⟨bG, oG, hGe, hbG, q1, -, -, -⟩ := tr_first T2.out hcl
        subst hGe
        have q1' := (HB4.out.cell (p := ⟨bG, oG + cor bs I t * 4, none⟩) (show bG < g9 + 1 by omega)).trans q1
        rw [HAT.out t] at q1'
        have Q1 := Lib.hid q1
        have HCL := Lib.hid (show corK bs I (t + 1) = corK bs I t ++ [((cor bs I t : Nat) : Int)] from rfl)
        have HATT := Lib.hid (HAT.out t)
        generalize cor bs I t = x at *
        obtain ⟨y, hy⟩ : ∃ y, y = cor bs I (t + 1) := ⟨_, rfl⟩
        have HY := Lib.hid hy
        have hbGlt : bG < g9 + 1 := by omega
        clear hb hx4 q1 q1' hy
        go_wp2_with (at_builtin; refine wpList_push rfl _ _ rfl (g9 + 1) _ t _ rfl (HO4.out.alloc _) w4.heap.size (x : Int) rfl (heap_alloc_new w4 _) ?c1 ?c2 ?c3 ?_)
        case c1 => unfold maxLen; omega
        case c2 => omega
        case c3 => have := HB4.out.size; simp; omega
        intro v' w5 hown' hgrow hat
        rw [show vis (corK bs I t) ++ [vi (x : Int)] = vis (corK bs I (t + 1)) by rw [HCL.out, vis_snoc]] at hown'
        have O5 := Lib.hid hown'
        have B5 := Lib.hid ((HB4.out.alloc (by have := HB4.out.size; omega) (Obj.cells #[.int .i64 (x : Int)] 2)).grown hgrow (by have := HB4.out.size; simp; omega) (fun j hj => (HO4.out.lt j hj).1))
        have n5 := (N2.out.below B5.out (Nat.lt_succ_self _)).rd 2 rfl
        have q5 := (B5.out.cell (p := ⟨bG, oG + x * 4, none⟩) hbGlt).trans Q1.out
        rw [HATT.out, ← HY.out] at q5
        obtain ⟨g6, cap6, hv6⟩ := ownsRow_succ hown'
        have HV6 := Lib.hid (show lenOfV v' = t + 1 by rw [hv6]; rfl)
        clear hown' hgrow hat hv6
        go_wp2_with fail
        go_roundw
        case rel => exact ⟨t + 1, by omega, by rw [HY.out], O5.out, HV6.out, B5.out⟩
        case measure => show T - lenOfV v' < T - t; rw [HV6.out]; omega
      · obtain rfl : t = T := by omega
        rw [decide_eq_true (corK_mem.2 ⟨K, hKT, HKE.out⟩)] at hct
        have HCT := Lib.hid hct
        have HIX := Lib.hid (fun W (hW : Ext wr W) => index64_any A2 t cap2 (corK bs I t) ((cor bs I t : Nat) : Int) W (by omega) (by rw [corK_len]) ((htw.ir.ext hW (Nat.le_refl _)).more (hW.below (Nat.le_refl _)).size))
        have HUN := Lib.hid (show ∀ r, IsFirst (corK bs I t) ((cor bs I t : Nat) : Int) r → r = (K : Int) from fun r hr => by
          rcases hr with ⟨_, h⟩ | ⟨j, rfl, hj, e, hno⟩
          · exact absurd (by rw [corK_get bs I hKT, HKE.out]) (h K (by rw [corK_len]; exact hKT))
          · rw [corK_len] at hj
            rw [corK_get bs I hj] at e
            have e2 : cor bs I j = cor bs I t := by omega
            rcases Nat.lt_trichotomy j K with h | h | h
            · exact absurd (e2.trans HKE.out.symm) (HDIS.out K hKT j h)
            · rw [h]
            · exact absurd (HKE.out.trans e2.symm) (HDIS.out j hj K h))
        have hw9 : IntKind.i64.wrap ((t : Int) - (K : Int)) = (t : Int) - (K : Int) := IntWalk.i64_in _ (by omega)
        clear hown hct htw hb
        go_wp2_with fail
        refine HCT.out.mono ?_
        rintro e w4 ⟨rfl, hx4⟩
        have HX4 := Lib.hid hx4
        clear hx4
        go_wp2_with fail
        refine (HIX.out _ HX4.out).mono ?_
        rintro e w5 ⟨⟨r, rfl, hr⟩, hx5⟩
        obtain rfl := HUN.out r hr
        have HX5 := Lib.hid (HX4.out.trans hx5)
        clear hr hx5
        go_wp2_with fail
        go_ret3
        exact ⟨rfl, KR.out.trans (HX5.out.below KR.out.size)⟩
  · have HZ := Lib.hid hz
    simp only [ne_eq, hz, not_false_eq_true, false_implies, true_and, forall_const]
    generalize fCode c0 ts bs i = cd at *
    clear hA hB hP
    go_enter Try.func43, Try.ntmps43
    go_wp2_with fail
    refine HC.out _ (fun h => absurd h HZ.out) ?_
    intro _ e w1 ⟨he, hb1⟩
    subst he
    have K1 := Lib.hid (HX0.out.trans (hb1.mono HX0.out.size))
    have hx2 := (Ext.refl w1).alloc (Obj.cells #[.int .i64 0, .slice none 0 0, .slice none 0 0] 61)
    have KK := Lib.hid (K1.out.trans (hx2.below K1.out.size))
    clear hb1 hx2
    go_wp2_with fail
    go_ret3
    exact ⟨rfl, KK.out⟩
end Go.Proofs.Ytnmgkchkbchfaaa
