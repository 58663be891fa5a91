/-
  The contracts of slices.Clone at ricks, of copied, and of the specification's Twin and Great; append onto a slice of the call's own memory.
-/
import Derived.Test.YtiiekecohmaipaaVCheck
import Derived.Test.YtiiekecohmaipaaRest
import Derived.Maps.AppendAt
import Derived.Deep.Upon
namespace Go.Proofs.Ytiiekecohmaipaa
open Go.RowKit

/-- A copy in the call's own memory. -/
def CopyOut (t : TypeId) (k len : Nat) (F : Nat → Int) (w : World) (e : Ending) (w' : World) : Prop :=
  ∃ a cap, e = .returned (.slice a len cap) ∧ OwnNums w' w.heap.size t k a len cap F ∧ Below w.heap.size w w'
def joinF (F : Nat → Int) (n : Nat) (G : Nat → Int) : Nat → Int := fun q => if q < n then F q else G (q - n)
theorem numsCells_append (n m : Nat) (F G : Nat → Int) : numsCells n F ++ numsCells m G = numsCells (n + m) (joinF F n G) := by
  apply List.ext_getElem?
  intro i
  by_cases h1 : i < n
  · rw [List.getElem?_append_left (by rw [numsCells_length]; exact h1), numsCells_get h1, numsCells_get (by omega)]
    simp [joinF, h1]
  · rw [List.getElem?_append_right (by rw [numsCells_length]; omega), numsCells_length]
    by_cases h2 : i < n + m
    · rw [numsCells_get (by omega), numsCells_get h2]
      simp [joinF, h1]
    · rw [List.getElem?_eq_none (by rw [numsCells_length]; omega), List.getElem?_eq_none (by rw [numsCells_length]; omega)]
/-- All objects but the slice's own array are as they were. -/
def Alone (a : Option Addr) (w w' : World) : Prop := ∀ i, i < w.heap.size → (∀ x, a = some x → i ≠ x.block) → w'.heap[i]? = w.heap[i]?
theorem OwnNums.own_block {w : World} {base : Nat} {t : TypeId} {k : Nat} {a : Option Addr} {len cap : Nat} {F : Nat → Int} (h : OwnNums w base t k a len cap F) : (a = none ∧ len = 0 ∧ cap = 0) ∨ ∃ g, a = some ⟨g, 0, none⟩ ∧ base ≤ g := by
  obtain ⟨_, ⟨h1, h2⟩ | ⟨g, _, _, he, hb, _⟩⟩ := h
  · simp only [Value.slice.injEq] at h1
    exact .inl ⟨h1.1, h2, h1.2.2⟩
  · simp only [Value.slice.injEq] at he
    exact .inr ⟨g, he.1, hb⟩
theorem OwnNums.le_cap {w : World} {base : Nat} {t : TypeId} {k : Nat} {a : Option Addr} {len cap : Nat} {F : Nat → Int} (h : OwnNums w base t k a len cap F) : len ≤ cap := by
  obtain ⟨_, ⟨h1, h2⟩ | ⟨g, _, _, he, hb, _, hlc, _⟩⟩ := h
  · omega
  · simp only [Value.slice.injEq] at he
    omega
theorem OwnNums.congr {w : World} {base : Nat} {t : TypeId} {k : Nat} {a : Option Addr} {len cap : Nat} {F G : Nat → Int} (h : OwnNums w base t k a len cap F) (hFG : ∀ q, q < len * k → F q = G q) : OwnNums w base t k a len cap G := by
  unfold OwnNums at *
  rw [← numsCells_congr hFG]
  exact h
theorem app_own (w : World) (base : Nat) (T ST ty : TypeId) (k bytes : Nat) (i : TypeInfo) (z : Value) (hu : Try.prog.underlying ST = some (.slice T)) (hi : Try.prog.info? T = some i) (hz : i.zero = some z) (hz1 : i.size = k) (hz2 : i.bytes = bytes) (hzs : z.cells.size = k) (hk : 0 < k) (hb : bytes ≤ 64)
    {a : Option Addr} {len cap : Nat} {F : Nat → Int} (hown : OwnNums w base T k a len cap F) (src : Option Addr) (m c : Nat) (G : Nat → Int) (hs : NumsAt w src (m * k) G) (hnil : src = none → m = 0) (hl : len ≤ 200) (hm : m ≤ 100) (hbase : base ≤ w.heap.size) :
    ∃ a' cap' w', (Builtin.append_ #[ST, ST] ty #[.slice a len cap, .slice src m c]).run Try.prog w = .ok (.slice a' (len + m) cap') w' ∧ OwnNums w' base T k a' (len + m) cap' (joinF F (len * k) G) ∧ Alone a w w' ∧ Below base w w' ∧ (∀ x', a' = some x' → a = some x' ∨ w.heap.size ≤ x'.block) := by
  cases src with
  | none =>
    obtain rfl := hnil rfl
    refine ⟨a, cap, w, ?_, OwnNums.congr hown (fun q hq => by rw [joinF, if_pos (by simpa using hq)]), fun _ _ _ => rfl, Below.refl _ _, fun x' h => .inl h⟩
    exact run_append_nothing w ST ST ty T i hu hi a len cap hown.le_cap _ (Src.ofNil w hu c)
  | some ad =>
    obtain ⟨v', w', hr, h2, h3, h4, h5⟩ := run_append_own_at (P := Try.prog) (w := w) base ST ty T i z k bytes hu hi hz hz1 hz2 hzs hk (.slice a len cap) len (numsCells (len * k) F) hown ad m c (numsCells (m * k) G) (numsCells_length _ _)
      (fun j u hj => by
        obtain ⟨h1, rfl⟩ := numsCells_at hj
        obtain ⟨b, off, h6, h7⟩ := hs j h1
        cases h6
        rw [Go.WideShapes.add_plain]
        exact h7)
      (fun u hu => by
        obtain ⟨j, hj⟩ := List.getElem?_of_mem hu
        obtain ⟨_, rfl⟩ := numsCells_at hj
        rfl) (by unfold maxLen; omega) (Nat.le_trans (Nat.mul_le_mul (show len + m ≤ 300 by omega) hb) (by decide)) hbase
    have h2' : w'.ownsRow base T k v' (len + m) (numsCells ((len + m) * k) (joinF F (len * k) G)) := by
      rw [numsCells_append] at h2
      rw [Nat.add_mul]
      exact h2
    have hal : Alone a w w' := fun i hi hne => h3.block i hi (fun e => by
      cases a with
      | none => simp [Value.ownBlock] at e
      | some x => simp [Value.ownBlock] at e; exact hne x rfl e)
    have hbel : Below base w w' := (Below.refl _ _).grown h3 hbase (fun g hg => by
      obtain ⟨h1, _⟩ | ⟨g', h1, h6⟩ := hown.own_block
      · rw [h1] at hg; simp [Value.ownBlock] at hg
      · rw [h1] at hg; simp [Value.ownBlock] at hg; omega)
    have hsh : ∃ a' cap', v' = .slice a' (len + m) cap' := by
      obtain ⟨_, ⟨h6, h7⟩ | ⟨g, c', cur, h6, _⟩⟩ := h2'
      · exact ⟨none, 0, by rw [h6, h7]⟩
      · exact ⟨_, _, h6⟩
    obtain ⟨a', cap', rfl⟩ := hsh
    refine ⟨a', cap', w', hr, h2', hal, hbel, fun x' hx => ?_⟩
    subst hx
    obtain ⟨h8, _⟩ | ⟨g, h8, _⟩ := OwnNums.own_block (w := w') (F := joinF F (len * k) G) h2'
    · cases h8
    · cases h8
      rcases h5 with h5 | h5
      · left
        obtain ⟨h1, _⟩ | ⟨g', h1, _⟩ := hown.own_block
        · rw [h1] at h5; simp [Value.ownBlock] at h5
        · rw [h1] at h5 ⊢
          simp [Value.ownBlock] at h5
          rw [h5]
      · right
        simp [Value.ownBlock] at h5
        simp [h5]

end Go.Proofs.Ytiiekecohmaipaa
