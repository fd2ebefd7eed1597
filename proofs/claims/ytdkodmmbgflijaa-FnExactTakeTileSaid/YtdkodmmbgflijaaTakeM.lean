/- A tile is taken out: the small functions, and the model's list without it. -/
import Derived.Test.YtdkodmmbgflijaaSChanged
import Derived.Test.YtdkodmmbgflijaaNumM
import Derived.Deep.RegionHeld3
namespace Go.Proofs.Ytdkodmmbgflijaa
set_option linter.unusedVariables false
set_option linter.unusedSimpArgs false
open Go.RowKit Go.Sort


/-- The list without the tile at a place. -/
def without (ts : List Tl) (k : Nat) : List Tl := ts.take k ++ ts.drop (k + 1)
set_option maxRecDepth 100000 in
set_option maxHeartbeats 2000000 in
theorem l01Without_any (c0 : Int) (A : Option Addr) (n c : Nat) (ts : List Tl) (k : Nat) (w : World) (hn : n ≤ 65536) (hk : k < n) (hnc : n ≤ c) (hl : ts.length = n) (hA : TR w w.heap.size A ts) :
    Calls Try.prog 70 #[.agg #[.int .i64 c0, .slice A n c], .int .i64 (k : Int)] w fun e w' => ∃ A' cap, e = .returned (.agg #[.int .i64 c0, .slice A' (without ts k).length cap]) ∧ Below w.heap.size w w' ∧ TW w' w.heap.size A' (without ts k) := by
  obtain ⟨i0, hi, hz0, hz1, hz2⟩ := info_parts info_tile
  have HI := Lib.hid (And.intro hi (And.intro hz0 (And.intro hz1 hz2)))
  clear hi hz0 hz1 hz2
  obtain ⟨b, off, rfl, -, -⟩ := hA (by omega)
  have hR := reads_of_tr hA hl
  have hk1 : (0 : Int) ≤ (k : Int) := by omega
  have hk2 : (k : Int) ≤ (n : Int) := by omega
  have hk3 : (k : Int) + 1 ≤ (n : Int) := by omega
  have hk4 : IntKind.i64.wrap ((k : Int) + 1) = (k : Int) + 1 := IntWalk.i64_in _ (by omega)
  have hk5 : (0 : Int) ≤ (k : Int) + 1 := by omega
  have hk6 : (k : Int) ≤ (c : Int) := by omega
  have hk7 : (n : Int) ≤ (c : Int) := by omega
  have HR := Lib.hid hR
  clear hR hA
  go_enter Try.func70, Try.ntmps70
  go_wp2_with fail
  have hE := ((Ext.refl w).alloc (Obj.cells #[.int .i64 c0, .slice (some ⟨b, off, none⟩) n c] 29)).alloc (Obj.cells #[.int .i64 0, .slice none 0 0] 29)
  have hB0 : Blk ((w.alloc (Obj.cells #[.int .i64 c0, .slice (some ⟨b, off, none⟩) n c] 29)).alloc (Obj.cells #[.int .i64 0, .slice none 0 0] 29)) w.heap.size 29 #[.int .i64 c0, .slice (some ⟨b, off, none⟩) n c] := (Blk.new w _ _).ext ((Ext.refl _).alloc _)
  have hQ0 : Blk ((w.alloc (Obj.cells #[.int .i64 c0, .slice (some ⟨b, off, none⟩) n c] 29)).alloc (Obj.cells #[.int .i64 0, .slice none 0 0] 29)) (w.heap.size + 1) 29 #[.int .i64 0, .slice none 0 0] := by have := Blk.new (w.alloc (Obj.cells #[.int .i64 c0, .slice (some ⟨b, off, none⟩) n c] 29)) 29 #[.int .i64 0, .slice none 0 0]; simpa using this
  have hz1 : w.heap.size + 2 ≤ ((w.alloc (Obj.cells #[.int .i64 c0, .slice (some ⟨b, off, none⟩) n c] 29)).alloc (Obj.cells #[.int .i64 0, .slice none 0 0] 29)).heap.size := by simp
  have b0 := hB0.rd 0 rfl
  have b1 := hB0.rd 1 rfl
  have HE := Lib.hid (And.intro hE (And.intro hB0 hQ0))
  clear hE hB0 hQ0
  generalize ((w.alloc (Obj.cells #[.int .i64 c0, .slice (some ⟨b, off, none⟩) n c] 29)).alloc (Obj.cells #[.int .i64 0, .slice none 0 0] 29)) = w1 at *
  have hlen : (without ts k).length = 0 + k + (n - (k + 1)) := by simp [without]; omega
  have e1 : [] ++ flat (ts.take k) ++ flat (ts.drop (k + 1)) = flat (without ts k) := by simp [without, flat_append]
  have hw1 := HE.out.1.below (Nat.le_refl _)
  by_cases hck : c = k + 1
  · have hk8 : (k : Int) ≤ (k : Int) + 1 := by omega
    have hk9 : (n : Int) ≤ (k : Int) + 1 := by omega
    go_region_held3 (fun w' => w'.cell? ⟨w.heap.size, 0, none⟩ = some (.int .i64 c0) ∧ w'.cell? ⟨w.heap.size, 1, none⟩ = some (.slice (some ⟨b, off, none⟩) n c))
      (first | go_keep | exact ⟨q0, q1⟩ | exact ⟨u0, u1⟩)
      (first
        | (refine step_append_any _ (by rfl) (.tmp 7) (.tmp 11) _ (by rfl) w1.heap.size 60 i0 _ 4 32 Try.underlying27 HI.out.1 HI.out.2.1 HI.out.2.2.1 HI.out.2.2.2 rfl (by decide) _ 0 [] (by rfl) (World.ownsRow_made (base := w1.heap.size) (e := 60) (size := 4) w1.drew #[] 0 (by simp) (by unfold maxLen; omega) rfl) w.heap.size (some ⟨b, off, none⟩) k _ (flat (ts.take k)) (by rfl) ((((HR.out.below (HE.out.1.below (Nat.le_refl _))).cut_lo (by omega) hl).alloc (by omega) _).drew) (flat_one _) (by unfold maxLen; omega) (by omega) (by simp) ?_; intro v2 w2 hown2 hgrow2 hat2
           have B2 := Lib.hid ((((Below.refl w1.heap.size w1).alloc (Nat.le_refl _) (Obj.cells #[] 60)).drew).grown hgrow2 (by simp) (by intro q hq; simp [Value.ownBlock] at hq; omega))
           obtain ⟨g2, hg2, hge2⟩ : ∃ g2, v2.ownBlock = some g2 ∧ w1.heap.size ≤ g2 := by rcases hat2 with h | h <;> exact ⟨_, h.trans rfl, by simp⟩
           obtain ⟨cap2, rfl, hc2, hb2, hl2⟩ := own_form hown2 hg2
           have O2 := Lib.hid hown2
           clear hown2 hgrow2 hat2
           have q0 := (HE.out.2.1.below B2.out (by omega)).rd 0 rfl
           have q1 := (HE.out.2.1.below B2.out (by omega)).rd 1 rfl)
        | (refine step_append_any _ (by rfl) (.tmp 12) (.tmp 17) _ (by rfl) w1.heap.size 60 i0 _ 4 32 Try.underlying27 HI.out.1 HI.out.2.1 HI.out.2.2.1 HI.out.2.2.2 rfl (by decide) _ (0 + k) ([] ++ flat (ts.take k)) (by rfl) O2.out w.heap.size (some ⟨b, off, none⟩) (n - (k + 1)) _ (flat (ts.drop (k + 1))) (by rfl) (⟨by rw [flat_len, List.length_drop]; omega, fun h => absurd h (by omega)⟩) (flat_one _) (by unfold maxLen; omega) (by omega) (by have := B2.out.size; omega) ?_; intro v3 w3 hown3 hgrow3 hat3
           have B3 := Lib.hid (B2.out.grown hgrow3 B2.out.size (by intro q hq; rw [hg2] at hq; cases hq; omega))
           obtain ⟨A3, cap3, rfl, htw3⟩ := own_tw (ts := without ts k) (n := 0 + k + (n - (k + 1))) (by rw [e1] at hown3; exact hown3) hlen
           have O3 := Lib.hid htw3
           clear hown3 hgrow3 hat3 htw3 q0 q1
           have u0 := (HE.out.2.1.below B3.out (by omega)).rd 0 rfl
           have u1 := (HE.out.2.1.below B3.out (by omega)).rd 1 rfl
           have p0 := (HE.out.2.2.below B3.out (by omega)).rd 0 rfl
           have p1 := (HE.out.2.2.below B3.out (by omega)).rd 1 rfl
           have z0 := (HE.out.2.2.below B3.out (by omega)).frozen 0
           have z1 := (HE.out.2.2.below B3.out (by omega)).frozen 1))
    clear u0 u1
    go_wp2_with fail
    refine bodyPost_ret (v := .agg #[.int .i64 c0, .slice A3 (k + (n - (k + 1))) cap3]) (by simp [results, Try.results70, go_sem, p0, p1, z0, z1]) rfl ⟨A3, cap3, by rw [hlen, Nat.zero_add], ?_, ?_⟩
    · exact ((hw1.trans (B3.out.mono hw1.size)).setCell (by simp) _).setCell (by simp) _
    · exact ((O3.out.far (by show _ < _; simp; omega) _).far (by show _ < _; simp; omega) _).low (by omega)
  · have hcut := (HR.out.cut (k := k + 1) (cap := c) (by omega) (by omega))
    rw [if_neg hck, flat_drop] at hcut
    have HCUT := Lib.hid (hcut.below hw1)
    clear hcut
    go_region_held3 (fun w' => w'.cell? ⟨w.heap.size, 0, none⟩ = some (.int .i64 c0) ∧ w'.cell? ⟨w.heap.size, 1, none⟩ = some (.slice (some ⟨b, off, none⟩) n c))
      (first | go_keep | exact ⟨q0, q1⟩ | exact ⟨u0, u1⟩)
      (first
        | (refine step_append_any _ (by rfl) (.tmp 7) (.tmp 11) _ (by rfl) w1.heap.size 60 i0 _ 4 32 Try.underlying27 HI.out.1 HI.out.2.1 HI.out.2.2.1 HI.out.2.2.2 rfl (by decide) _ 0 [] (by rfl) (World.ownsRow_made (base := w1.heap.size) (e := 60) (size := 4) w1.drew #[] 0 (by simp) (by unfold maxLen; omega) rfl) w.heap.size (some ⟨b, off, none⟩) k _ (flat (ts.take k)) (by rfl) ((((HR.out.below (HE.out.1.below (Nat.le_refl _))).cut_lo (by omega) hl).alloc (by omega) _).drew) (flat_one _) (by unfold maxLen; omega) (by omega) (by simp) ?_; intro v2 w2 hown2 hgrow2 hat2
           have B2 := Lib.hid ((((Below.refl w1.heap.size w1).alloc (Nat.le_refl _) (Obj.cells #[] 60)).drew).grown hgrow2 (by simp) (by intro q hq; simp [Value.ownBlock] at hq; omega))
           obtain ⟨g2, hg2, hge2⟩ : ∃ g2, v2.ownBlock = some g2 ∧ w1.heap.size ≤ g2 := by rcases hat2 with h | h <;> exact ⟨_, h.trans rfl, by simp⟩
           obtain ⟨cap2, rfl, hc2, hb2, hl2⟩ := own_form hown2 hg2
           have O2 := Lib.hid hown2
           clear hown2 hgrow2 hat2
           have q0 := (HE.out.2.1.below B2.out (by omega)).rd 0 rfl
           have q1 := (HE.out.2.1.below B2.out (by omega)).rd 1 rfl)
        | (refine step_append_any _ (by rfl) (.tmp 12) (.tmp 17) _ (by rfl) w1.heap.size 60 i0 _ 4 32 Try.underlying27 HI.out.1 HI.out.2.1 HI.out.2.2.1 HI.out.2.2.2 rfl (by decide) _ (0 + k) ([] ++ flat (ts.take k)) (by rfl) O2.out w.heap.size (some ⟨b, off + (k + 1) * 4, none⟩) (n - (k + 1)) _ (flat (ts.drop (k + 1))) (by rfl) (by have := HCUT.out.below (B2.out.mono hw1.size); rw [Option.map_some, Go.WideShapes.add_plain] at this; exact this) (flat_one _) (by unfold maxLen; omega) (by omega) (by have := B2.out.size; omega) ?_; intro v3 w3 hown3 hgrow3 hat3
           have B3 := Lib.hid (B2.out.grown hgrow3 B2.out.size (by intro q hq; rw [hg2] at hq; cases hq; omega))
           obtain ⟨A3, cap3, rfl, htw3⟩ := own_tw (ts := without ts k) (n := 0 + k + (n - (k + 1))) (by rw [e1] at hown3; exact hown3) hlen
           have O3 := Lib.hid htw3
           clear hown3 hgrow3 hat3 htw3 q0 q1
           have u0 := (HE.out.2.1.below B3.out (by omega)).rd 0 rfl
           have u1 := (HE.out.2.1.below B3.out (by omega)).rd 1 rfl
           have p0 := (HE.out.2.2.below B3.out (by omega)).rd 0 rfl
           have p1 := (HE.out.2.2.below B3.out (by omega)).rd 1 rfl
           have z0 := (HE.out.2.2.below B3.out (by omega)).frozen 0
           have z1 := (HE.out.2.2.below B3.out (by omega)).frozen 1))
    clear u0 u1
    go_wp2_with fail
    refine bodyPost_ret (v := .agg #[.int .i64 c0, .slice A3 (k + (n - (k + 1))) cap3]) (by simp [results, Try.results70, go_sem, p0, p1, z0, z1]) rfl ⟨A3, cap3, by rw [hlen, Nat.zero_add], ?_, ?_⟩
    · exact ((hw1.trans (B3.out.mono hw1.size)).setCell (by simp) _).setCell (by simp) _
    · exact ((O3.out.far (by show _ < _; simp; omega) _).far (by show _ < _; simp; omega) _).low (by omega)
end Go.Proofs.Ytdkodmmbgflijaa
