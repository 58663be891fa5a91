/-
  Without any numbers to be struck, all weighings are left.
-/
import Derived.Test.YtmdmfiddabmaeaaQStrikeTop
namespace Go.Proofs.Ytmdmfiddabmaeaa
open Go.RowKit

namespace Pure
theorem keptW_none (L G : Nat → Int) (i : Nat) : keptW 0 L G i = true := by simp [keptW, inL]
theorem leftN_none (L G : Nat → Int) : ∀ i, leftN 0 L G i = i
  | 0 => rfl
  | i + 1 => by simp [leftN, keptW_none, leftN_none L G i]
theorem leftF_none (L G : Nat → Int) : ∀ i q, q < i * 5 → leftF 0 L G i q = G q
  | 0, q, h => by omega
  | i + 1, q, h => by
    simp only [leftF, keptW_none, if_true, leftN_none, joinF]
    by_cases h1 : q < i * 5
    · rw [if_pos h1, leftF_none L G i q h1]
    · rw [if_neg h1, show i * 5 + (q - i * 5) = q by omega]
end Pure
/-- Without at no numbers: the press in memory of the call's own. -/
theorem copy_any (a : Option Addr) (n c : Nat) (b : Option Addr) (m d : Nat) (F G : Nat → Int) (hn : n ≤ 40) (hm : m ≤ 60) (hnil : a = none → n = 0 ∧ c = 0) (wG : ∀ i, i < m → (Lit.int .i64 (G (i * 5))).wf = true) (w : World) (hF : NumsAt w a (n * 4) F) (hG : NumsAt w b (m * 5) G) :
    Calls Try.prog 17 #[pressV a n c b m d, .slice none 0 0] w fun e w' => ∃ a1 c1 a2 c2, e = .returned (pressV a1 n c1 a2 m c2) ∧ OwnNums w' w.heap.size 45 4 a1 n c1 F ∧ OwnNums w' w.heap.size 29 5 a2 m c2 G ∧ Apart a2 a1 ∧ Below w.heap.size w w' := by
  refine (without_any a n c b m d none 0 0 F G (fun _ => 0) hn hm (by omega) hnil wG (fun j hj => by omega) w hF hG (fun j hj => by omega)).mono ?_
  rintro e w' ⟨a1, c1, a2, c2, h1, h2, h3, h4, h5⟩
  rw [Pure.leftN_none] at h1 h3
  exact ⟨a1, c1, a2, c2, h1, h2, h3.congr (fun q hq => Pure.leftF_none _ _ _ q hq), h4, h5⟩
end Go.Proofs.Ytmdmfiddabmaeaa
