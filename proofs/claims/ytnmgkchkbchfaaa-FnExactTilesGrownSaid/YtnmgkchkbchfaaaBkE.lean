/- All that come of some numbers: the program's search. -/
import Derived.Test.YtnmgkchkbchfaaaBkD
import Derived.Test.YtnmgkchkbchfaaaCo1
namespace Go.Proofs.Ytnmgkchkbchfaaa
set_option linter.unusedVariables false
set_option linter.unusedSimpArgs false
open Go.RowKit Go.Sort

/-- x comes of i by steps. -/
def Rch (st : Nat → List Nat) (i x : Nat) : Prop := ∀ S : Nat → Prop, S i → (∀ y, S y → ∀ z ∈ st y, S z) → S x
theorem Rch.base (st : Nat → List Nat) (i : Nat) : Rch st i i := fun _ h _ => h
theorem Rch.step {st : Nat → List Nat} {i y x : Nat} (h : Rch st i y) (hx : x ∈ st y) : Rch st i x := fun S h0 h1 => h1 y (h S h0 h1) x hx
/-- The tiles of a tile's block. -/
def stT (bs : List (List Int)) (k : Nat) : List Nat := [(bAt bs k 0).toNat, (bAt bs k 1).toNat, (bAt bs k 2).toNat, (bAt bs k 3).toNat]
theorem stT_lt {ts : List Tl} {bs : List (List Int)} (hok : bOk ts bs = true) {k : Nat} (hk : k < bs.length) : ∀ x ∈ stT bs k, x < bs.length := by
  intro x hx
  have h : ∀ j, j < 4 → (bAt bs k j).toNat < bs.length := fun j hj => by
    obtain ⟨v, e, hv⟩ := bOk_nat hok hk hj
    omega
  simp only [stT, List.mem_cons, List.not_mem_nil, or_false] at hx
  rcases hx with rfl | rfl | rfl | rfl
  · exact h 0 (by omega)
  · exact h 1 (by omega)
  · exact h 2 (by omega)
  · exact h 3 (by omega)
theorem rch_lt {ts : List Tl} {bs : List (List Int)} (hok : bOk ts bs = true) {i x : Nat} (hi : i < bs.length) (h : Rch (stT bs) i x) : x < bs.length := h (fun x => x < bs.length) hi (fun y hy z hz => stT_lt hok hy z hz)
theorem nodup_len {l : List Nat} {m : Nat} (h : l.Nodup) (hl : ∀ x ∈ l, x < m) : l.length ≤ m := by
  rcases Nat.lt_or_ge m l.length with hlt | hge
  · exfalso
    have hget : ∀ k, (hk : k ≤ m) → l.getD k 0 = l[k]'(by omega) := fun k hk => by simp [List.getD, show k < l.length by omega]
    obtain ⟨a, b, hab, hb, e⟩ := pigeon m (fun k => l.getD k 0) (fun k hk => by
      show l.getD k 0 < m
      rw [hget k hk]
      exact hl _ (List.getElem_mem _))
    have e2 : l.getD a 0 = l.getD b 0 := e
    rw [hget a (by omega), hget b hb] at e2
    have := (List.getElem_inj h).1 e2
    omega
  · exact hge
def ints (l : List Nat) : List Int := l.map fun (k : Nat) => (k : Int)
theorem ints_len (l : List Nat) : (ints l).length = l.length := by simp [ints]
theorem ints_get {l : List Nat} {k : Nat} (hk : k < l.length) : (ints l).getD k 0 = ((l.getD k 0 : Nat) : Int) := by simp [ints, List.getD, hk]
theorem ints_mem {l : List Nat} {x : Nat} : ((x : Int) ∈ ints l) ↔ x ∈ l := by
  simp only [ints, List.mem_map]
  exact ⟨fun ⟨y, h1, h2⟩ => by have : y = x := by omega
                               subst this; exact h1, fun h => ⟨x, h, rfl⟩⟩
theorem ints_snoc (l : List Nat) (x : Nat) : ints (l ++ [x]) = ints l ++ [(x : Int)] := by simp [ints]
theorem ints_app (l l' : List Nat) : ints (l ++ l') = ints l ++ ints l' := by simp [ints]
/-- What the search knows: of what has been found, and of what is still to be looked at. -/
structure Srch (st : Nat → List Nat) (i m : Nat) (TH AL : List Nat) : Prop where
  nodup : AL.Nodup
  rchA : ∀ x ∈ AL, Rch st i x
  rchT : ∀ x ∈ TH, Rch st i x
  start : i ∈ AL ∨ i ∈ TH
  closed : ∀ y ∈ AL, ∀ x ∈ st y, x ∈ AL ∨ x ∈ TH
  small : TH.length ≤ 1 + 4 * AL.length
theorem Srch.begin (st : Nat → List Nat) (i m : Nat) : Srch st i m [i] [] := ⟨List.nodup_nil, fun x h => by simp at h, fun x h => by simp at h; subst h; exact Rch.base st x, .inr (by simp), fun y h => by simp at h, by simp⟩
theorem Srch.old {st : Nat → List Nat} {i m x : Nat} {TH AL : List Nat} (h : Srch st i m (x :: TH) AL) (hx : x ∈ AL) : Srch st i m TH AL :=
  ⟨h.nodup, h.rchA, fun y hy => h.rchT y (by simp [hy]), by
    rcases h.start with h1 | h1
    · exact .inl h1
    · rcases List.mem_cons.1 h1 with rfl | h2
      · exact .inl hx
      · exact .inr h2, fun y hy z hz => by
    rcases h.closed y hy z hz with h1 | h1
    · exact .inl h1
    · rcases List.mem_cons.1 h1 with rfl | h2
      · exact .inl hx
      · exact .inr h2, by have := h.small; simp at this; omega⟩
theorem Srch.fresh {st : Nat → List Nat} {i m x : Nat} {TH AL : List Nat} (h : Srch st i m (x :: TH) AL) (hx : x ∉ AL) (h4 : (st x).length = 4) : Srch st i m (TH ++ st x) (AL ++ [x]) := by
  have hrx := h.rchT x (by simp)
  refine ⟨List.nodup_append.2 ⟨h.nodup, by simp, fun a ha b hb => by simp at hb; subst hb; exact fun e => hx (e ▸ ha)⟩, fun y hy => ?_, fun y hy => ?_, ?_, fun y hy z hz => ?_, ?_⟩
  · rcases List.mem_append.1 hy with h1 | h1
    · exact h.rchA y h1
    · simp at h1; subst h1; exact hrx
  · rcases List.mem_append.1 hy with h1 | h1
    · exact h.rchT y (by simp [h1])
    · exact hrx.step h1
  · rcases h.start with h1 | h1
    · exact .inl (by simp [h1])
    · rcases List.mem_cons.1 h1 with rfl | h2
      · exact .inl (by simp)
      · exact .inr (by simp [h2])
  · rcases List.mem_append.1 hy with h1 | h1
    · rcases h.closed y h1 z hz with h2 | h2
      · exact .inl (by simp [h2])
      · rcases List.mem_cons.1 h2 with rfl | h3
        · exact .inl (by simp)
        · exact .inr (by simp [h3])
    · simp at h1; subst h1; exact .inr (by simp [hz])
  · have := h.small
    simp at this ⊢
    omega
theorem Srch.done {st : Nat → List Nat} {i m : Nat} {AL : List Nat} (h : Srch st i m [] AL) (x : Nat) : x ∈ AL ↔ Rch st i x := by
  refine ⟨h.rchA x, fun hr => hr (fun x => x ∈ AL) ?_ (fun y hy z hz => ?_)⟩
  · rcases h.start with h1 | h1
    · exact h1
    · simp at h1
  · rcases h.closed y hy z hz with h1 | h1
    · exact h1
    · simp at h1

set_option maxRecDepth 100000 in
set_option maxHeartbeats 1000000 in
theorem clone64_any (b o c : Nat) (xs : List Int) (n : Nat) (w : World) (hn : n ≤ 65536) (hl : xs.length = n) (hA : ∀ k, k < n → w.cell? ⟨b, o + k, none⟩ = some (.int .i64 (xs.getD k 0))) (hb : b < w.heap.size) :
    Calls Try.prog 83 #[.slice (some ⟨b, o, none⟩) n c] w fun e w' => ∃ A cap, e = .returned (.slice A n cap) ∧ Below w.heap.size w w' ∧ IWr w' w.heap.size w'.heap.size A xs := by
  obtain ⟨i0, hi, hz0, hz1, hz2⟩ := info_parts info_int
  have HI := Lib.hid (And.intro hi (And.intro hz0 (And.intro hz1 hz2)))
  have hnil : ∀ w, (binOp .eql 44 (.slice (some ⟨b, o, none⟩) n c) (.slice none 0 0)).run Try.prog w = .ok (.bool false) w := fun w => Lib.run_eql_slice_nil w 44 2 (some ⟨b, o, none⟩) n c 0 0 Try.underlying44
  clear hi hz0 hz1 hz2
  have HO := Lib.hid (World.ownsRow_made (base := w.heap.size) (e := 2) (size := 1) w #[] 0 (Nat.le_refl _) (by unfold maxLen; omega) rfl)
  have HX := Lib.hid ((Ext.refl w).alloc (Obj.cells #[] 2))
  have HR := Lib.hid (show Reads (w.alloc (Obj.cells #[] 2)) (w.alloc (Obj.cells #[] 2)).heap.size 1 (some ⟨b, o, none⟩) n (vis xs) from ⟨by rw [vis_len, hl, Nat.mul_one], fun _ => ⟨_, rfl, by simp; omega, fun j u hu => by
    rw [Go.WideShapes.add_plain]
    have hj : j < n := by
      rcases Nat.lt_or_ge j n with h | h
      · exact h
      · rw [List.getElem?_eq_none (by rw [vis_len]; omega)] at hu; cases hu
    have : (vis xs)[j]? = some (.int .i64 (xs.getD j 0)) := by simp [vis, vi, List.getD, show j < xs.length by omega]
    rw [this] at hu
    cases hu
    exact (World.cell?_alloc_lt w _ _ hb).trans (hA j hj)⟩⟩)
  clear hA
  go_enter Try.func83, Try.ntmps83
  go_wp2_with (at_builtin; refine wpList_append_any _ rfl _ _ _ rfl w.heap.size 2 i0 _ 1 8 Try.underlying44 HI.out.1 HI.out.2.1 HI.out.2.2.1 HI.out.2.2.2 rfl (by decide) _ 0 [] rfl HO.out _ _ n _ (vis xs) rfl HR.out (vis_one64 xs) ?c1 ?c2 ?c3 ?_)
  case c1 => unfold maxLen; omega
  case c2 => omega
  case c3 => simp
  intro v' w2 hown hgrow _
  try rw [Nat.zero_add] at hown
  try rw [List.nil_append] at hown
  obtain ⟨A, cap, hv, hcap, hw⟩ := own_iwr hown hl
  subst hv
  have HW := Lib.hid hw
  have HB := Lib.hid ((HX.out.below (Nat.le_refl w.heap.size)).grown hgrow (by simp) (fun j hj => (HO.out.lt j hj).1))
  clear hown hgrow hw
  go_wp2_with fail
  go_ret
  first | exact ⟨A, cap, rfl, HB.out, HW.out⟩ | exact ⟨A, ⟨cap, rfl⟩, HB.out, HW.out⟩
end Go.Proofs.Ytnmgkchkbchfaaa
