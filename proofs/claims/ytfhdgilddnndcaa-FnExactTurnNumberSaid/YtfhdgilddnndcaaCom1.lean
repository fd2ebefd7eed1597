/- The different tiles of a list, as a map of the call's own. -/
import Derived.Test.YtfhdgilddnndcaaDetA
import Derived.Test.YtfhdgilddnndcaaRen1
import Derived.Lib.Hide
namespace Go.Proofs.Ytfhdgilddnndcaa
set_option linter.unusedVariables false
set_option linter.unusedSimpArgs false
open Go.RowKit Go.Sort

/-- Numbers that make a key. -/
def smallT (t : Tl) : Prop := (0 ≤ t.1 ∧ t.1 < 1000000) ∧ (0 ≤ t.2.1 ∧ t.2.1 < 1000000) ∧ (0 ≤ t.2.2.1 ∧ t.2.2.1 < 1000000) ∧ (0 ≤ t.2.2.2 ∧ t.2.2.2 < 1000000)
theorem wfS {x : Int} (h0 : 0 ≤ x ∧ x < 1000000) : (Lit.int .i64 x).wf = true := by
  show (decide (IntKind.i64.min ≤ x) && decide (x ≤ IntKind.i64.max)) = true
  rw [Bool.and_eq_true, decide_eq_true_eq, decide_eq_true_eq]
  have h2 : IntKind.i64.min = -9223372036854775808 := by decide
  have h3 : IntKind.i64.max = 9223372036854775807 := by decide
  omega
theorem small_key {t : Tl} (h : smallT t) : ∃ l, keyOf Try.prog 38 (tv t) = some l := key_tile t (wfS h.1) (wfS h.2.1) (wfS h.2.2.1) (wfS h.2.2.2)
theorem small_ok {c : Int} {t : Tl} (h : tileOk c t = true) (hc : c ≤ 6) : smallT t := by
  simp only [tileOk, decide_eq_true_eq] at h
  unfold smallT
  omega
/-- Block b is a map that has just the first k tiles of f, each with true. -/
def MapT (w : World) (b : Nat) (f : Nat → Tl) (k : Nat) : Prop :=
  ∃ D : DataW Unit, w.ownsMap Try.prog 38 (plainElem Try.prog 4) b k D ∧ (∀ t l, keyOf Try.prog 38 (tv t) = some l → (Go.Maps.has D l = true ↔ ∃ x, x < k ∧ f x = t)) ∧
    (∀ l, Go.Maps.has D l = true → D.atKey l (.lit (.bool false)) = .lit (.bool true)) ∧ (∀ l, Go.Maps.has D l = true → ∃ t, keyOf Try.prog 38 (tv t) = some l)
theorem MapT.made (w : World) (f : Nat → Tl) : MapT (w.alloc (.map #[] 0)) w.heap.size f 0 :=
  ⟨.map [], World.ownsMap_made w _ _ _, fun t l _ => ⟨fun h => by simp [Go.Maps.has] at h, fun ⟨x, h, _⟩ => absurd h (Nat.not_lt_zero _)⟩, fun l h => by simp [Go.Maps.has] at h, fun l h => by simp [Go.Maps.has] at h⟩
theorem MapT.ext {w w' : World} {b k : Nat} {f : Nat → Tl} (h : MapT w b f k) (hx : Ext w w') : MapT w' b f k := by
  obtain ⟨D, ho, r⟩ := h
  exact ⟨D, ownsMap_ext ho hx, r⟩
theorem MapT.below {w w' : World} {b k : Nat} {f : Nat → Tl} (h : MapT w b f k) (hx : Below w.heap.size w w') : MapT w' b f k := by
  obtain ⟨D, ho, r⟩ := h
  have hlt := ho.lt
  obtain ⟨es, clock, hb, r2⟩ := ho
  exact ⟨D, ⟨es, clock, (hx.block b hlt).trans hb, r2⟩, r⟩
theorem MapT.lt {w : World} {b k : Nat} {f : Nat → Tl} (h : MapT w b f k) : b < w.heap.size := by
  obtain ⟨D, ho, r⟩ := h
  exact ho.lt
theorem MapT.put {w w' : World} {b k : Nat} {f : Nat → Tl} {l : Lit} {D : DataW Unit} (h : w.ownsMap Try.prog 38 (plainElem Try.prog 4) b k D)
    (hhas : ∀ t l, keyOf Try.prog 38 (tv t) = some l → (Go.Maps.has D l = true ↔ ∃ x, x < k ∧ f x = t)) (htrue : ∀ l, Go.Maps.has D l = true → D.atKey l (.lit (.bool false)) = .lit (.bool true))
    (hkeys : ∀ l, Go.Maps.has D l = true → ∃ t, keyOf Try.prog 38 (tv t) = some l)
    (hl : keyOf Try.prog 38 (tv (f k)) = some l) (h' : w'.ownsMap Try.prog 38 (plainElem Try.prog 4) b (k + 1) (D.put l (.lit (.bool true)))) : MapT w' b f (k + 1) := by
  refine ⟨_, h', fun t l' ht => ?_, fun l' hl' => ?_, fun l' hl' => ?_⟩
  · by_cases e : l' = l
    · subst e
      have : t = f k := tv_inj (tile_law.inj ht hl)
      subst this
      rw [Go.Maps.has_put_same h.isMap (tile_keyed.key hl)]
      exact ⟨fun _ => ⟨k, by omega, rfl⟩, fun _ => rfl⟩
    · rw [Go.Maps.has_put_other e, hhas t l' ht]
      constructor
      · rintro ⟨x, hx, h2⟩
        exact ⟨x, by omega, h2⟩
      · rintro ⟨x, hx, h2⟩
        by_cases e2 : x = k
        · subst e2
          rw [h2, ht] at hl
          exact absurd (Option.some.inj hl) e
        · exact ⟨x, by omega, h2⟩
  · by_cases e : l' = l
    · subst e
      rw [Go.Maps.atKey_put_same h.isMap (tile_keyed.key hl)]
    · rw [Go.Maps.has_put_other e] at hl'
      rw [Go.Maps.atKey_put_other e]
      exact htrue l' hl'
  · by_cases e : l' = l
    · subst e
      exact ⟨_, hl⟩
    · rw [Go.Maps.has_put_other e] at hl'
      exact hkeys l' hl'
theorem zero_bool (w : World) : (zeroValue 4).run Try.prog w = .ok (.bool false) w := by
  obtain ⟨i0, hi, hz0, hz1, hz2⟩ := info_parts info_bool
  first | exact run_zeroValue hi hz0 w | simp [zeroValue, typeInfo, hi, hz0] | kernel_rfl
set_option maxRecDepth 100000 in
/-- What 'm[t]' is. -/
theorem MapT.look {w : World} {b k : Nat} {f : Nat → Tl} (h : MapT w b f k) {t : Tl} (ht : smallT t) :
    (Instr.lookup 89 (.map (some b)) (tv t) false).run Try.prog w = .ok (.bool ((List.range k).any fun x => decide (f x = t))) w := by
  obtain ⟨D, ho, hhas, htrue, hkeys⟩ := h
  obtain ⟨l, hl⟩ := small_key ht
  obtain ⟨v, ps, hrun, hv⟩ := ho.lookup tile_keyed Try.underlying89 (zero_bool w) (plainElem_bool Try.underlying4 false) hl
  rw [hrun]
  have hb : ((List.range k).any fun x => decide (f x = t)) = Go.Maps.has D l := by
    rw [Bool.eq_iff_iff, hhas t l hl, List.any_eq_true]
    constructor
    · rintro ⟨x, hx, he⟩
      exact ⟨x, List.mem_range.1 hx, of_decide_eq_true he⟩
    · rintro ⟨x, hx, he⟩
      exact ⟨x, List.mem_range.2 hx, decide_eq_true he⟩
  rw [hb]
  have hat : D.atKey l (.lit (.bool false)) = .lit (.bool (Go.Maps.has D l)) := by
    cases hh : Go.Maps.has D l with
    | true => exact htrue l hh
    | false => exact Go.Maps.atKey_of_not_has hh _
  rw [hat] at hv
  have : v = .bool (Go.Maps.has D l) := by
    generalize Go.Maps.has D l = q at hv
    have hu := Try.underlying4
    unfold plainElem at hv
    rw [hu] at hv
    cases v <;> simp at hv
    rw [hv.1]
  rw [this]

set_option maxRecDepth 100000 in
set_option maxHeartbeats 2000000 in
theorem differentTiles_any (A : Option Addr) (n c : Nat) (ts : List Tl) (w : World) (hn : n ≤ 1048576) (hl : ts.length = n) (hA : TR w w.heap.size A ts) (hk : ∀ k, k < n → smallT (ts.getD k T0)) :
    Calls Try.prog 70 #[.slice A n c] w fun e w' => ∃ b, e = .returned (.map (some b)) ∧ w.heap.size ≤ b ∧ Below w.heap.size w w' ∧ MapT w' b (fun x => ts.getD x T0) n := by
  have HA := Lib.hid hA
  have HK := Lib.hid hk
  clear hA hk
  obtain ⟨f, hf⟩ : ∃ f : Nat → Tl, f = fun x => ts.getD x T0 := ⟨_, rfl⟩
  rw [← hf]
  have HFF := Lib.hid hf
  clear hf
  have hmk := run_makeMap (P := Try.prog) 89 w
  go_enter Try.func70, Try.ntmps70
  go_wp2_with fail
  clear hmk
  have HM := Lib.hid (MapT.made w f)
  obtain ⟨W1, hW1⟩ : ∃ W1, w.alloc (.map #[] 0) = W1 := ⟨_, rfl⟩
  have hs1 : w.heap.size + 1 ≤ W1.heap.size := by rw [← hW1]; simp
  have hE : Below w.heap.size w W1 := by rw [← hW1]; exact (Below.refl _ _).alloc (Nat.le_refl _) _
  rw [hW1] at HM ⊢
  have HE := Lib.hid hE
  clear hW1 hE
  go_loopw [9] (fun ii wr => ∃ k : Nat, k ≤ n ∧ ii = .int .i64 k ∧ MapT wr w.heap.size f k ∧ Below w.heap.size W1 wr) (fun ii _ => n - (intOf ii).toNat)
  case atStart => exact ⟨0, Nat.zero_le _, rfl, HM.out, Below.refl _ _⟩
  case round =>
    obtain ⟨k, hk, rfl, ⟨D, hown, hhas, htrue, hkeys⟩, hbl⟩ := hrel
    have HB := Lib.hid hbl
    have HO := Lib.hid hown
    have HD := Lib.hid (And.intro hhas (And.intro htrue hkeys))
    clear hown hhas htrue hkeys hbl
    by_cases hlt : k < n
    · obtain ⟨bb, o, rfl, hbb, ht⟩ := (HA.out.below (HE.out.trans HB.out) (Nat.le_refl _)) (by omega)
      replace ht := ht k (by omega)
      obtain ⟨l, hkey⟩ := small_key (HK.out k hlt)
      have hfk : f k = ts.getD k T0 := by rw [HFF.out]
      rw [← hfk] at hkey ht
      have HKEY := Lib.hid hkey
      generalize hy : f k = t at ht HKEY
      have HY := Lib.hid hy
      obtain ⟨x0, x1, x2, x3⟩ := t
      obtain ⟨c0', c1, c2, c3⟩ := ht
      simp only at c0' c1 c2 c3
      clear hkey hfk hy
      have hx2 := (Ext.refl wr).alloc (Obj.cells #[.int .i64 x0, .int .i64 x1, .int .i64 x2, .int .i64 x3] 38)
      have HX2 := Lib.hid hx2
      have hown3 := ownsMap_ext HO.out hx2
      clear hx2
      go_wp2_with (at_mapUpdate; refine wpList_mapUpdate_own _ rfl _ _ _ 89 rfl 38 4 tile_keyed Try.underlying89 _ w.heap.size k D rfl hown3 (by unfold maxLen; omega) _ _ l rfl rfl HKEY.out (.lit (.bool true)) [] (plainElem_bool Try.underlying4 true) ?_; intro w4 hown4 hgrow4)
      have HI4 := Lib.hid (MapT.put hown3 HD.out.1 HD.out.2.1 HD.out.2.2 (by rw [HY.out]; exact HKEY.out) hown4)
      have HB4 := Lib.hid ((HB.out.trans (HX2.out.below (by have := HB.out.size; omega))).grown hgrow4 (by have := HB.out.size; have := (HX2.out.below (Nat.le_refl _)).size; omega) (fun g hg => by cases hg; exact Nat.le_refl _))
      clear hown3 hown4 hgrow4 HO HD HKEY HY HX2 HB c0' c1 c2 c3
      go_wp2_with fail
      go_roundw
      case rel => first | exact ⟨k + 1, by omega, by go_num, HI4.out, HB4.out⟩ | ((repeat apply Exists.intro); exact ⟨⟨k + 1, by omega, by go_num, HI4.out, HB4.out⟩, rfl⟩)
      case measure => simp [intOf]; omega
    · obtain rfl : k = n := by omega
      have HMT := Lib.hid (show MapT wr w.heap.size f k from ⟨D, HO.out, HD.out⟩)
      clear HO HD HM
      go_wp2_with fail
      go_ret
      exact ⟨w.heap.size, rfl, Nat.le_refl _, HE.out.trans HB.out, HMT.out⟩
end Go.Proofs.Ytfhdgilddnndcaa
