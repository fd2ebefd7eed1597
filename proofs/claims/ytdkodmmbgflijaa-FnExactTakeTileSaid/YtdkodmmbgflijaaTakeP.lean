/- TakeTile: the program's function. -/
import Derived.Test.YtdkodmmbgflijaaTakeI
import Derived.Test.YtdkodmmbgflijaaTakeS
namespace Go.Proofs.Ytdkodmmbgflijaa
set_option linter.unusedVariables false
set_option linter.unusedSimpArgs false
open Go.RowKit Go.Sort

theorem concatWithout_any (g cap : Nat) (A1 A2 : Option Addr) (c1 c2 : Nat) (ts : List Tl) (n k : Nat) (w : World) (hn : n ≤ 65536) (hk : k < n) (hl : ts.length = n)
    (hB : Blk w g 27 #[.slice A1 k c1, .slice A2 (n - (k + 1)) c2]) (hr1 : Reads w w.heap.size 4 A1 k (flat (ts.take k))) (hr2 : Reads w w.heap.size 4 A2 (n - (k + 1)) (flat (ts.drop (k + 1)))) :
    Calls Try.prog 72 #[.slice (some ⟨g, 0, none⟩) 2 cap] w fun e w' => ∃ A' cap', e = .returned (.slice A' (without ts k).length cap') ∧ Below w.heap.size w w' ∧ TW w' w.heap.size A' (without ts k) :=
  concatTiles_any g cap A1 A2 k c1 (n - (k + 1)) c2 (ts.take k) (ts.drop (k + 1)) w (by omega) (by simp; omega) (by simp; omega) hB hr1 hr2

set_option maxRecDepth 100000 in
set_option maxHeartbeats 4000000 in
theorem implTake_yes (c0 : Int) (A : Option Addr) (n c : Nat) (ts : List Tl) (k : Nat) (w : World) (hn : n ≤ 65536) (hk : k < n) (hnc : n ≤ c) (hl : ts.length = n) (hA : TR w w.heap.size A ts) (hs : isSet c0 ts = true) :
    Calls Try.prog 31 #[.agg #[.int .i64 c0, .slice A n c], .int .i64 (k : Int)] w (SetRes w c0 (without ts k) 0) := by
  have his : ∀ W, Ext w W → Calls Try.prog 18 #[.agg #[.int .i64 c0, .slice A n c]] W _ := fun W hW => isSet_any c0 A n c ts W (by omega) hl ((hA.ext hW (Nat.le_refl _)).more (hW.below (Nat.le_refl _)).size)
  have HI := Lib.hid his
  clear his
  rw [hs] at HI
  have hit : ∀ W, Calls Try.prog 71 #[.agg #[.int .i64 c0, .slice A n c], .int .i64 (k : Int)] W _ := fun W => isTileNumber_any c0 A n c (k : Int) W (by omega)
  rw [decide_eq_true (⟨by omega, by omega⟩ : 0 ≤ (k : Int) ∧ (k : Int) < n)] at hit
  have HT := Lib.hid hit
  clear hit hs
  obtain ⟨b, off, rfl, -, -⟩ := hA (by omega)
  have HR := Lib.hid (reads_of_tr hA hl)
  have hk1 : (0 : Int) ≤ (k : Int) := by omega
  have hk2 : (k : Int) ≤ (n : Int) := by omega
  have hk3 : (k : Int) + 1 ≤ (n : Int) := by omega
  have hk4 : IntKind.i64.wrap ((k : Int) + 1) = (k : Int) + 1 := IntWalk.i64_in _ (by omega)
  have hk5 : (0 : Int) ≤ (k : Int) + 1 := by omega
  have hk6 : (k : Int) ≤ (c : Int) := by omega
  have hk7 : (n : Int) ≤ (c : Int) := by omega
  have hlen : (ts.take k ++ ts.drop (k + 1)).length = (without ts k).length := rfl
  clear hA
  unfold SetRes
  go_enter Try.func31, Try.ntmps31
  go_wp2_with fail
  refine (HI.out _ (((Ext.refl w).alloc _).alloc _)).mono ?_
  rintro e w1 ⟨rfl, hx⟩
  have X1 := Lib.hid ((((Ext.refl w).alloc _).alloc _).trans hx)
  have hR := (((Blk.new w _ _).ext ((Ext.refl _).alloc (Obj.cells #[.int .i64 0, .slice none 0 0] 29))).ext hx : Blk w1 w.heap.size 29 #[.int .i64 c0, .slice (some ⟨b, off, none⟩) n c])
  have hQ : Blk w1 (w.heap.size + 1) 29 #[.int .i64 0, .slice none 0 0] := by have := (Blk.new (w.alloc (Obj.cells #[.int .i64 c0, .slice (some ⟨b, off, none⟩) n c] 29)) 29 #[.int .i64 0, .slice none 0 0]).ext hx; simpa using this
  have b0 := hR.rd 0 rfl
  have b1 := hR.rd 1 rfl
  have HE := Lib.hid (And.intro hR hQ)
  clear hx hR hQ
  go_wp2_with fail
  refine (HT.out _).mono ?_
  rintro e w2 ⟨rfl, hx⟩
  have X2 := Lib.hid (X1.out.trans hx)
  have HE2 := Lib.hid (And.intro (HE.out.1.ext hx) (HE.out.2.ext hx))
  clear hx b0 b1 HE HI HT X1
  have b0 := HE2.out.1.rd 0 rfl
  have b1 := HE2.out.1.rd 1 rfl
  have hw2 := X2.out.below (Nat.le_refl _)
  have hsz := HE2.out.2.lt
  go_wp2_with fail
  by_cases hck : c = k + 1
  · have hk8 : (k : Int) ≤ (k : Int) + 1 := by omega
    have hk9 : (n : Int) ≤ (k : Int) + 1 := by omega
    go_region_held3 (fun w' => w'.cell? ⟨w.heap.size, 0, none⟩ = some (.int .i64 c0) ∧ w'.cell? ⟨w.heap.size, 1, none⟩ = some (.slice (some ⟨b, off, none⟩) n c))
      (first | go_keep | exact ⟨u0, u1⟩)
      (first
        | (go_at_call 72
           refine (concatWithout_any w2.heap.size 2 (some ⟨b, off, none⟩) (some ⟨b, off, none⟩) _ _ ts n k _ hn hk hl (by exact Blk.new w2 _ _) ((((HR.out.below hw2).cut_lo (by omega) hl).alloc hw2.size _).drew.more (by have := hw2.size; simp; omega)) (⟨by rw [flat_len, List.length_drop]; omega, fun h => absurd h (by omega)⟩)).mono ?_
           rintro e w3 ⟨A3, cap3, rfl, hb, htw⟩
           have B3 := Lib.hid hb
           have T3 := Lib.hid htw
           have s3 := hb.size
           simp only [World.size_drew, World.size_alloc] at s3
           clear hb htw
           have u0 := (HE2.out.1.below (((Below.refl w2.heap.size w2).alloc (Nat.le_refl _) _).drew.trans (B3.out.mono (by simp))) (by omega)).rd 0 rfl
           have u1 := (HE2.out.1.below (((Below.refl w2.heap.size w2).alloc (Nat.le_refl _) _).drew.trans (B3.out.mono (by simp))) (by omega)).rd 1 rfl
           have hQ3 := HE2.out.2.below (((Below.refl w2.heap.size w2).alloc (Nat.le_refl _) _).drew.trans (B3.out.mono (by simp))) (by omega)
           have p0 := hQ3.rd 0 rfl
           have p1 := hQ3.rd 1 rfl
           have z0 := hQ3.frozen 0
           have z1 := hQ3.frozen 1
           clear hQ3)
        | fail)
    clear u0 u1
    go_wp2_with fail
    refine bodyPost_ret (v := .tuple #[.agg #[.int .i64 c0, .slice A3 (without ts k).length cap3], .int .i64 0]) (by simp [results, Try.results31, go_sem, p0, p1, z0, z1]) rfl ⟨A3, cap3, rfl, ?_, ?_⟩
    · have h0 : Below w.heap.size w w3 := hw2.trans (((((Below.refl w2.heap.size w2).alloc (Nat.le_refl _) _).drew.trans (B3.out.mono (by simp)))).mono hw2.size)
      exact (h0.setCell (by simp) _).setCell (by simp) _
    · exact ((T3.out.far (by show _ < _; simp; omega) _).far (by show _ < _; simp; omega) _).low (by have := hw2.size; simp; omega)
  · have hcut := (HR.out.cut (k := k + 1) (cap := c) (by omega) (by omega))
    rw [if_neg hck, flat_drop] at hcut
    have HCUT := Lib.hid (hcut.below hw2)
    clear hcut
    go_region_held3 (fun w' => w'.cell? ⟨w.heap.size, 0, none⟩ = some (.int .i64 c0) ∧ w'.cell? ⟨w.heap.size, 1, none⟩ = some (.slice (some ⟨b, off, none⟩) n c))
      (first | go_keep | exact ⟨u0, u1⟩)
      (first
        | (go_at_call 72
           refine (concatWithout_any w2.heap.size 2 (some ⟨b, off, none⟩) (some ⟨b, off + (k + 1) * 4, none⟩) _ _ ts n k _ hn hk hl (by exact Blk.new w2 _ _) ((((HR.out.below hw2).cut_lo (by omega) hl).alloc hw2.size _).drew.more (by have := hw2.size; simp; omega)) (by have := ((HCUT.out.alloc hw2.size (Obj.cells #[.slice (some ⟨b, off, none⟩) k c, .slice (some ⟨b, off + (k + 1) * 4, none⟩) (n - (k + 1)) (c - (k + 1))] 27)).drew).more (B' := w2.heap.size + 1) (by have := hw2.size; omega); rw [Option.map_some, Go.WideShapes.add_plain] at this; simpa using this)).mono ?_
           rintro e w3 ⟨A3, cap3, rfl, hb, htw⟩
           have B3 := Lib.hid hb
           have T3 := Lib.hid htw
           have s3 := hb.size
           simp only [World.size_drew, World.size_alloc] at s3
           clear hb htw
           have u0 := (HE2.out.1.below (((Below.refl w2.heap.size w2).alloc (Nat.le_refl _) _).drew.trans (B3.out.mono (by simp))) (by omega)).rd 0 rfl
           have u1 := (HE2.out.1.below (((Below.refl w2.heap.size w2).alloc (Nat.le_refl _) _).drew.trans (B3.out.mono (by simp))) (by omega)).rd 1 rfl
           have hQ3 := HE2.out.2.below (((Below.refl w2.heap.size w2).alloc (Nat.le_refl _) _).drew.trans (B3.out.mono (by simp))) (by omega)
           have p0 := hQ3.rd 0 rfl
           have p1 := hQ3.rd 1 rfl
           have z0 := hQ3.frozen 0
           have z1 := hQ3.frozen 1
           clear hQ3)
        | fail)
    clear u0 u1
    go_wp2_with fail
    refine bodyPost_ret (v := .tuple #[.agg #[.int .i64 c0, .slice A3 (without ts k).length cap3], .int .i64 0]) (by simp [results, Try.results31, go_sem, p0, p1, z0, z1]) rfl ⟨A3, cap3, rfl, ?_, ?_⟩
    · have h0 : Below w.heap.size w w3 := hw2.trans (((((Below.refl w2.heap.size w2).alloc (Nat.le_refl _) _).drew.trans (B3.out.mono (by simp)))).mono hw2.size)
      exact (h0.setCell (by simp) _).setCell (by simp) _
    · exact ((T3.out.far (by show _ < _; simp; omega) _).far (by show _ < _; simp; omega) _).low (by have := hw2.size; simp; omega)
end Go.Proofs.Ytdkodmmbgflijaa
