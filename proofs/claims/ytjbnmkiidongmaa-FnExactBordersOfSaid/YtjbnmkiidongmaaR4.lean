/- Four rows of numbers that the call owns, in blocks of their own; the border words of a filling. -/
import Derived.Test.YtjbnmkiidongmaaRs3
import Derived.Test.YtjbnmkiidongmaaAppI
import Derived.Test.YtjbnmkiidongmaaFil3
import Derived.Lib.Hide
namespace Go.Proofs.Ytjbnmkiidongmaa
set_option linter.unusedVariables false
set_option linter.unusedSimpArgs false
open Go.RowKit Go.Sort

/-- No block belongs to both. -/
def Dis (v u : Value) : Prop := ∀ g, v.ownBlock = some g → u.ownBlock ≠ some g
theorem Dis.symm {v u : Value} (h : Dis v u) : Dis u v := fun g e e2 => h g e2 e
def OwnI (w : World) (base : Nat) (v : Value) (xs : List Int) : Prop := w.ownsRow base 2 1 v xs.length (vis xs)
structure R4 (w : World) (base : Nat) (v0 v1 v2 v3 : Value) (a b c d : List Int) : Prop where
  o0 : OwnI w base v0 a
  o1 : OwnI w base v1 b
  o2 : OwnI w base v2 c
  o3 : OwnI w base v3 d
  d01 : Dis v0 v1
  d02 : Dis v0 v2
  d03 : Dis v0 v3
  d12 : Dis v1 v2
  d13 : Dis v1 v3
  d23 : Dis v2 v3
theorem R4.sw1 {w : World} {base : Nat} {v0 v1 v2 v3 : Value} {a b c d : List Int} (h : R4 w base v0 v1 v2 v3 a b c d) : R4 w base v1 v0 v2 v3 b a c d :=
  ⟨h.o1, h.o0, h.o2, h.o3, h.d01.symm, h.d12, h.d13, h.d02, h.d03, h.d23⟩
theorem R4.sw2 {w : World} {base : Nat} {v0 v1 v2 v3 : Value} {a b c d : List Int} (h : R4 w base v0 v1 v2 v3 a b c d) : R4 w base v2 v1 v0 v3 c b a d :=
  ⟨h.o2, h.o1, h.o0, h.o3, h.d12.symm, h.d02.symm, h.d23, h.d01.symm, h.d13, h.d03⟩
theorem R4.sw3 {w : World} {base : Nat} {v0 v1 v2 v3 : Value} {a b c d : List Int} (h : R4 w base v0 v1 v2 v3 a b c d) : R4 w base v3 v1 v2 v0 d b c a :=
  ⟨h.o3, h.o1, h.o2, h.o0, h.d13.symm, h.d23.symm, h.d03.symm, h.d12, h.d01.symm, h.d02.symm⟩
theorem OwnI.ext {w w' : World} {base : Nat} {v : Value} {xs : List Int} (h : OwnI w base v xs) (hx : Ext w w') : OwnI w' base v xs := iown_ext h hx
theorem OwnI.lt {w : World} {base : Nat} {v : Value} {xs : List Int} (h : OwnI w base v xs) {g : Nat} (e : v.ownBlock = some g) : base ≤ g ∧ g < w.heap.size := World.ownsRow.lt h g e
theorem R4.ext {w w' : World} {base : Nat} {v0 v1 v2 v3 : Value} {a b c d : List Int} (h : R4 w base v0 v1 v2 v3 a b c d) (hx : Ext w w') : R4 w' base v0 v1 v2 v3 a b c d :=
  ⟨h.o0.ext hx, h.o1.ext hx, h.o2.ext hx, h.o3.ext hx, h.d01, h.d02, h.d03, h.d12, h.d13, h.d23⟩
theorem R4.push {w w1 w' : World} {base : Nat} {v0 v1 v2 v3 v' : Value} {a b c d : List Int} {y : Int} (h : R4 w base v0 v1 v2 v3 a b c d) (hx : Ext w w1)
    (hown : w'.ownsRow base 2 1 v' (a.length + 1) (vis a ++ [vi y])) (hgrow : w1.grownBy w' v0.ownBlock) (hat : v'.ownBlock = v0.ownBlock ∨ v'.ownBlock = some w1.heap.size) :
    R4 w' base v' v1 v2 v3 (a ++ [y]) b c d := by
  have hsz := (hx.below (Nat.le_refl _)).size
  have key : ∀ {u : Value} {xs : List Int}, OwnI w base u xs → Dis v0 u → OwnI w' base u xs ∧ Dis v' u := by
    intro u xs hu hd
    refine ⟨(hu.ext hx).kept hgrow ?_, fun g e e2 => ?_⟩
    · cases hb : u.ownBlock with
      | none => exact .inl rfl
      | some g => exact .inr fun e => hd g e.symm hb
    · rcases hat with e3 | e3
      · exact hd g (e3.symm.trans e) e2
      · have := (hu.lt e2).2
        rw [e3] at e
        cases e
        omega
  refine ⟨?_, (key h.o1 h.d01).1, (key h.o2 h.d02).1, (key h.o3 h.d03).1, (key h.o1 h.d01).2, (key h.o2 h.d02).2, (key h.o3 h.d03).2, h.d12, h.d13, h.d23⟩
  show w'.ownsRow base 2 1 v' (a ++ [y]).length (vis (a ++ [y]))
  rw [vis_snoc, List.length_append]
  exact hown
theorem R4.set_far {w : World} {base : Nat} {v0 v1 v2 v3 : Value} {a b c d : List Int} (h : R4 w base v0 v1 v2 v3 a b c d) {p : Addr} (u : Value) (h0 : v0.ownBlock ≠ some p.block) (h1 : v1.ownBlock ≠ some p.block) (h2 : v2.ownBlock ≠ some p.block) (h3 : v3.ownBlock ≠ some p.block) :
    R4 (w.setCell p u) base v0 v1 v2 v3 a b c d := by
  have key : ∀ {v : Value} {xs : List Int}, OwnI w base v xs → v.ownBlock ≠ some p.block → OwnI (w.setCell p u) base v xs := by
    intro v xs hv hne
    refine ⟨hv.1, ?_⟩
    rcases hv.2 with h0 | ⟨g, cap, cur, rfl, hb, hg, r⟩
    · exact .inl h0
    · exact .inr ⟨g, cap, cur, rfl, hb, (Below.heap_setCell w p u g (fun e => hne (by rw [← e]; rfl))).trans hg, r⟩
  exact ⟨key h.o0 h0, key h.o1 h1, key h.o2 h2, key h.o3 h3, h.d01, h.d02, h.d03, h.d12, h.d13, h.d23⟩

/-- What four rows that the call owns read as, held by a block of the call's own. -/
theorem R4.iww {w : World} {base B : Nat} {t : TypeId} {v0 v1 v2 v3 : Value} {a b c d : List Int} (h : R4 w base v0 v1 v2 v3 a b c d) (hb : Blk w B t #[v0, v1, v2, v3]) (hB : base ≤ B)
    (h0 : v0.ownBlock ≠ some B) (h1 : v1.ownBlock ≠ some B) (h2 : v2.ownBlock ≠ some B) (h3 : v3.ownBlock ≠ some B) : IWW w base w.heap.size (some ⟨B, 0, none⟩) [a, b, c, d] := by
  obtain ⟨A0, c0, e0, k0, w0⟩ := own_iwr h.o0 rfl
  obtain ⟨A1, c1, e1, k1, w1⟩ := own_iwr h.o1 rfl
  obtain ⟨A2, c2, e2, k2, w2⟩ := own_iwr h.o2 rfl
  obtain ⟨A3, c3, e3, k3, w3⟩ := own_iwr h.o3 rfl
  obtain ⟨_, _, _, _, d01, d02, d03, d12, d13, d23⟩ := h
  subst e0 e1 e2 e3
  have far : ∀ {A : Option Addr} {n q : Nat}, (Value.slice A n q).ownBlock ≠ some B → ∀ g u, A = some ⟨g, u, none⟩ → g ≠ B := by
    intro A n q hne g u e e2
    subst e e2
    exact hne rfl
  have ap : ∀ {A A' : Option Addr} {n q n' q' : Nat}, Dis (.slice A n q) (.slice A' n' q') → Apart A n A' n' := by
    intro A A' n q n' q' hd g o g' o' e e' _ _
    subst e e'
    refine .inl fun e2 => ?_
    subst e2
    exact hd g rfl rfl
  intro _
  refine ⟨B, 0, t, #[.slice A0 a.length c0, .slice A1 b.length c1, .slice A2 c.length c2, .slice A3 d.length c3], fun k => match k with | 0 => A0 | 1 => A1 | 2 => A2 | _ => A3, fun k => match k with | 0 => c0 | 1 => c1 | 2 => c2 | _ => c3, rfl, hB, hb.lt, hb, fun k hk => ?_, fun i j hij hj => ?_⟩
  · have hk' : k < 4 := by simpa using hk
    obtain rfl | rfl | rfl | rfl : k = 0 ∨ k = 1 ∨ k = 2 ∨ k = 3 := by omega
    · exact ⟨rfl, k0, w0, fun g u e _ => far h0 g u e⟩
    · exact ⟨rfl, k1, w1, fun g u e _ => far h1 g u e⟩
    · exact ⟨rfl, k2, w2, fun g u e _ => far h2 g u e⟩
    · exact ⟨rfl, k3, w3, fun g u e _ => far h3 g u e⟩
  · have hj' : j < 4 := by simpa using hj
    obtain ⟨rfl, rfl⟩ | ⟨rfl, rfl⟩ | ⟨rfl, rfl⟩ | ⟨rfl, rfl⟩ | ⟨rfl, rfl⟩ | ⟨rfl, rfl⟩ : (i = 0 ∧ j = 1) ∨ (i = 0 ∧ j = 2) ∨ (i = 0 ∧ j = 3) ∨ (i = 1 ∧ j = 2) ∨ (i = 1 ∧ j = 3) ∨ (i = 2 ∧ j = 3) := by omega
    · exact ap d01
    · exact ap d02
    · exact ap d03
    · exact ap d12
    · exact ap d13
    · exact ap d23

/-- f at 0 to k - 1. -/
def rngm (f : Nat → Int) (k : Nat) : List Int := (List.range k).map f
theorem rngm_succ (f : Nat → Int) (k : Nat) : rngm f (k + 1) = rngm f k ++ [f k] := by simp [rngm, List.range_succ]
theorem rngm_len (f : Nat → Int) (k : Nat) : (rngm f k).length = k := by simp [rngm]

/-- The cells that lead to a tile. -/
theorem read_tile {w : World} {B' B'' : Nat} {A Br : Option Addr} {ts : List Tl} {rs : List (List Int)} (hA : TR w B' A ts) (hB : IRR w B'' Br rs) (hok : rowsOk ts rs = true) {y x : Nat} (hy : y < rs.length) (hx : x < (rs.getD y []).length) :
    ∃ bx ox bq oq q b o, ∃ j : Nat, Br = some ⟨bx, ox, none⟩ ∧ bx < B'' ∧ w.cell? ⟨bx, ox + y, none⟩ = some (.slice (some ⟨bq, oq, none⟩) (rs.getD y []).length q) ∧ bq < B'' ∧ w.cell? ⟨bq, oq + x, none⟩ = some (.int .i64 (j : Int)) ∧ j < ts.length ∧
      A = some ⟨b, o, none⟩ ∧ b < B' ∧ Cell4 w b (o + j * 4) (tat ts rs y x) := by
  have hin := rowsOk_in hok hy hx
  obtain ⟨bx, ox, e1, hbx, hr⟩ := hB (by omega)
  obtain ⟨Q, q, hc1, hq, hQ⟩ := hr y hy
  obtain ⟨bq, oq, e2, hbq, hc2⟩ := hQ (by omega)
  obtain ⟨b, o, e3, hb, hc3⟩ := hA (by omega)
  have h2 := hc2 x hx
  obtain ⟨j, hj⟩ : ∃ j : Nat, (rs.getD y []).getD x 0 = (j : Int) := ⟨((rs.getD y []).getD x 0).toNat, by omega⟩
  rw [e2] at hc1
  rw [hj] at h2
  have hjl : j < ts.length := by omega
  refine ⟨bx, ox, bq, oq, q, b, o, j, e1, hbx, hc1, hbq, h2, hjl, e3, hb, ?_⟩
  have := hc3 j hjl
  have et : tat ts rs y x = ts.getD j T0 := by unfold tat; rw [hj]; rfl
  rw [et]
  exact this
theorem read_row {w : World} {B' B'' b o bx ox : Nat} {ts : List Tl} {rs : List (List Int)} (hA : TR w B' (some ⟨b, o, none⟩) ts) (hB : IRR w B'' (some ⟨bx, ox, none⟩) rs) (hok : rowsOk ts rs = true) {y : Nat} (hy : y < rs.length) (hp : 0 < (rs.getD y []).length) :
    bx < B'' ∧ b < B' ∧ ∃ bq oq q, w.cell? ⟨bx, ox + y, none⟩ = some (.slice (some ⟨bq, oq, none⟩) (rs.getD y []).length q) ∧ bq < B'' ∧ ∀ x, x < (rs.getD y []).length → ∃ j : Nat, w.cell? ⟨bq, oq + x, none⟩ = some (.int .i64 (j : Int)) ∧ j < ts.length ∧ Cell4 w b (o + j * 4) (tat ts rs y x) := by
  obtain ⟨bx', ox', bq, oq, q, b', o', j, e1, h1, h2, h3, h4, h5, e2, h6, h7⟩ := read_tile hA hB hok hy hp
  cases e1
  cases e2
  refine ⟨h1, h6, bq, oq, q, h2, h3, fun x hx => ?_⟩
  obtain ⟨bx', ox', bq', oq', q', b', o', j', e1, k1, k2, k3, k4, k5, e2, k6, k7⟩ := read_tile hA hB hok hy hx
  cases e1
  cases e2
  rw [h2] at k2
  cases k2
  exact ⟨j', k4, k5, k7⟩
theorem read_at {w : World} {B' B'' b o bx ox : Nat} {ts : List Tl} {rs : List (List Int)} (hA : TR w B' (some ⟨b, o, none⟩) ts) (hB : IRR w B'' (some ⟨bx, ox, none⟩) rs) (hok : rowsOk ts rs = true) {y x : Nat} (hy : y < rs.length) (hx : x < (rs.getD y []).length) :
    bx < B'' ∧ b < B' ∧ ∃ bq oq q, ∃ j : Nat, w.cell? ⟨bx, ox + y, none⟩ = some (.slice (some ⟨bq, oq, none⟩) (rs.getD y []).length q) ∧ bq < B'' ∧ w.cell? ⟨bq, oq + x, none⟩ = some (.int .i64 (j : Int)) ∧ j < ts.length ∧ Cell4 w b (o + j * 4) (tat ts rs y x) := by
  obtain ⟨bx', ox', bq, oq, q, b', o', j, e1, h1, h2, h3, h4, h5, e2, h6, h7⟩ := read_tile hA hB hok hy hx
  cases e1
  cases e2
  exact ⟨h1, h6, bq, oq, q, j, h2, h3, h4, h5, h7⟩
end Go.Proofs.Ytjbnmkiidongmaa
