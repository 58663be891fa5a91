/-
  The contract of likely.
-/
import Derived.Test.YtmhhfopiaimhbaaSpan
import Derived.Test.YtmhhfopiaimhbaaReach
import Derived.Test.YtmhhfopiaimhbaaUpTo
import Derived.Maps.OwnIn
import Derived.Deep.AppendLies
namespace Go.Proofs.Ytmhhfopiaimhbaa
open Go.RowKit Go.Shelf
attribute [local go_sem] Oper.semAt_some

theorem infoInt : (Try.prog.info? 3).map (fun i => (i.zero, i.size, i.bytes)) = some (some (.int .i64 0), 1, 8) := by kernel_rfl
theorem cell_one (w : World) (v : Value) (t : TypeId) {b : Nat} (hb : b = w.heap.size) (j : Nat) (u : Value) (h : [v][j]? = some u) : (w.alloc (.cells #[v] t)).cell? ((⟨b, 0, none⟩ : Addr).add j) = some u := by
  match j, h with
  | 0, h =>
    simp at h
    subst h
    exact cell_top w v t hb

theorem row_mono {W : World} {base base' size n : Nat} {e : TypeId} {v : Value} {xs : List Value} (h : W.ownsRow base e size v n xs) (hb : base' ≤ base) : W.ownsRow base' e size v n xs := by
  refine ⟨h.1, ?_⟩
  rcases h.2 with h2 | ⟨g, cap, cur, hv, hg, r⟩
  · exact .inl h2
  · exact .inr ⟨g, cap, cur, hv, Nat.le_trans hb hg, r⟩

namespace Pure
def likely (b : Nat) (lo hi o f : Int) : List Int := best (fun x => ways b x o f) (nums b lo hi o f)
theorem prefix_length {α : Type} {l m : List α} (h : l <+: m) : l.length ≤ m.length := h.length_le
theorem nums_length (b : Nat) (lo hi o f : Int) : (nums b lo hi o f).length ≤ b + 1 := by
  unfold nums
  exact Nat.le_trans (List.length_filter_le _ _) (by rw [ints_length]; omega)
end Pure

end Go.Proofs.Ytmhhfopiaimhbaa
