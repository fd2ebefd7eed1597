/- Neighbours: the program's lists. -/
import Derived.Test.YtpjlapialjjcdaaNb2
namespace Go.Proofs.Ytpjlapialjjcdaa
set_option linter.unusedVariables false
set_option linter.unusedSimpArgs false
open Go.RowKit Go.Shelf

attribute [local go_sem] Oper.semAt_some

theorem ownsRow_base {W : World} {base base' : Nat} {e : TypeId} {size : Nat} {v : Value} {k : Nat} {xs : List Value} (h : W.ownsRow base e size v k xs) (hb : base' ≤ base) : W.ownsRow base' e size v k xs := by
  refine ⟨h.1, ?_⟩
  rcases h.2 with hn | ⟨g, cap, cur, hv, hbg, rest⟩
  · exact .inl hn
  · exact .inr ⟨g, cap, cur, hv, Nat.le_trans hb hbg, rest⟩
theorem nb_stops (m B n₀ n c : Nat) (c0 i side : Int) (A : Option Addr) (fb : Nat → Bool) (hm : 1 ≤ m) (hn : n ≤ 1048576) (w : World) (hB : B + 3 ≤ w.heap.size) (hn0 : n₀ ≤ w.heap.size)
    (hb1 : Blk w B 31 #[.int .i64 c0, .slice A n c]) (hb2 : Blk w (B + 1) 2 #[.int .i64 i]) (hb3 : Blk w (B + 2) 3 #[.int .i64 side])
    (hfit : ∀ k, k < n → ∀ V, Below n₀ w V → Calls Try.prog 143 #[.agg #[.int .i64 c0, .slice A n c], .int .i64 i, .int .i64 side, .int .i64 (k : Int)] V fun e w' => e = .returned (.bool (fb k)) ∧ Ext V w') :
    SeqStopsK Fence.wide m Try.prog 142 #[.pointer (some ⟨B, 0, none⟩), .pointer (some ⟨B + 1, 0, none⟩), .pointer (some ⟨B + 2, 0, none⟩)] (fun x : Int => #[Value.int .i64 x]) (Keep3 n₀ B) (fun ys => ys = nbl fb n) (fun pre => pre <+: nbl fb n) n w := fun l J Jx W hW hJ hJx hY h0 => by
  have hle := hW.size
  exact nb1_in m l B n₀ n c c0 i side A fb hm hn J Jx hY W (by omega) (by omega) hJ (hb1.below hW hb1.lt) (hb2.below hW hb2.lt) (hb3.below hW hb3.lt)
    (fun k hk V hV => hfit k hk V ((hW.mono hn0).trans hV)) h0

theorem neighbours_in (m : Nat) (c0 : Int) (A : Option Addr) (n c : Nat) (i side : Int) (w : World) :
    CallsIn Fence.wide m Try.prog 126 #[.agg #[.int .i64 c0, .slice A n c], .int .i64 i, .int .i64 side] w fun e w' =>
      e = .returned (.func (.func 142) #[] #[.pointer (some ⟨w.heap.size, 0, none⟩), .pointer (some ⟨w.heap.size + 1, 0, none⟩), .pointer (some ⟨w.heap.size + 2, 0, none⟩)]) ∧
      w' = ((w.alloc (.cells #[.int .i64 c0, .slice A n c] 31)).alloc (.cells #[.int .i64 i] 2)).alloc (.cells #[.int .i64 side] 3) := by
  refine callsIn_of_wp Try.func126 rfl trivial ?_ rfl
  simp only [Try.ntmps126, List.size_toArray, List.length_cons, List.length_nil, Nat.reduceAdd, Nat.reduceSub, Array.replicate_succ, Array.replicate_zero, List.push_toArray, List.append_toArray, List.nil_append, List.cons_append]
  gi_wp2
  go_ret
  exact ⟨rfl, rfl⟩

end Go.Proofs.Ytpjlapialjjcdaa
