/-
  What a list of pourings does, one after the other; the world that the iterator of play reads.
-/
import Derived.Test.YtjemcmehgkhhlaaCRange
namespace Go.Proofs.Ytjemcmehgkhhlaa
open Go.RowKit

instance (n : Nat) (f t : Int) : Decidable (validP n f t) := by unfold validP; infer_instance

/-- What play yields: a step and an error. -/
structure Yd where
  f : Int
  t : Int
  p : Fin 601
  S : Nat → Int
  e : Int
abbrev ydA (x : Yd) : Array Value := #[stepV x.f x.t (x.p.val : Int) x.S, .int .i64 x.e]

namespace Pure
/-- What is inside is within what cans hold, and all that is behind is small. -/
def Fine (n : Nat) (A S : Nat → Int) : Prop := Good n A S ∧ ∀ q, q < 4 → 0 ≤ S q ∧ S q ≤ 600
theorem Fine.moved {n : Nat} {A S : Nat → Int} (h : Fine n A S) {f t : Nat} (hf : f ≤ n) (ht : t ≤ n) (hne : f ≠ t) : Fine n A (movedS S f t (amt A S f t)) := by
  have hg := h.1.moved hf ht hne
  refine ⟨hg, fun q hq => ?_⟩
  by_cases hqn : q ≤ n
  · have := hg.most hqn; omega
  · have := h.2 q hq
    unfold movedS
    rw [if_neg (by omega), if_neg (by omega)]
    exact this
/-- What is inside behind i pourings. -/
def stS (A X S : Nat → Int) : Nat → Nat → Int
  | 0 => S
  | i + 1 => movedS (stS A X S i) (X (i * 2)).toNat (X (i * 2 + 1)).toNat (amt A (stS A X S i) (X (i * 2)).toNat (X (i * 2 + 1)).toNat)
def ptS (A X S : Nat → Int) (i : Nat) : Int := amt A (stS A X S i) (X (i * 2)).toNat (X (i * 2 + 1)).toNat
def okP (n : Nat) (A X S : Nat → Int) (i : Nat) : Prop := validP n (X (i * 2)) (X (i * 2 + 1)) ∧ canP A (stS A X S i) (X (i * 2)).toNat (X (i * 2 + 1)).toNat = true
instance (n : Nat) (A X S : Nat → Int) (i : Nat) : Decidable (okP n A X S i) := by unfold okP; infer_instance
def ydOk (A X S : Nat → Int) (i : Nat) : Yd := ⟨X (i * 2), X (i * 2 + 1), Fin.ofNat 601 (ptS A X S i).toNat, stS A X S (i + 1), 0⟩
def erP (n : Nat) (X : Nat → Int) (i : Nat) : Int := if validP n (X (i * 2)) (X (i * 2 + 1)) then 6 else 81
def ydBad (n : Nat) (X : Nat → Int) (i : Nat) : Yd := ⟨0, 0, 0, fun _ => 0, erP n X i⟩
/-- What has come when k rounds are over. -/
def ups {α : Type} (f : Nat → α) (k : Nat) : List α := (List.range k).map f
theorem ups_succ {α : Type} (f : Nat → α) (k : Nat) : ups f (k + 1) = ups f k ++ [f k] := by simp [ups, List.range_succ]
theorem ups_length {α : Type} (f : Nat → α) (k : Nat) : (ups f k).length = k := by simp [ups]
theorem fine_st {n : Nat} {A X S : Nat → Int} (h : Fine n A S) : ∀ i, (∀ j, j < i → okP n A X S j) → Fine n A (stS A X S i)
  | 0, _ => h
  | i + 1, hi => by
    have hv := (hi i (by omega)).1
    unfold validP at hv
    exact (fine_st h i fun j hj => hi j (by omega)).moved (by omega) (by omega) (by omega)
theorem pt_fine {n : Nat} {A X S : Nat → Int} {i : Nat} (h : Fine n A (stS A X S i)) (hv : validP n (X (i * 2)) (X (i * 2 + 1))) : 0 ≤ ptS A X S i ∧ ptS A X S i ≤ 600 := by
  unfold validP at hv
  have h1 := h.1.amt (f := (X (i * 2)).toNat) (t := (X (i * 2 + 1)).toNat) (by omega) (by omega)
  have h2 := h.1.most (q := (X (i * 2)).toNat) (by omega)
  unfold ptS
  omega
theorem pt_fin {n : Nat} {A X S : Nat → Int} {i : Nat} (h : Fine n A (stS A X S i)) (hv : validP n (X (i * 2)) (X (i * 2 + 1))) : (((ydOk A X S i).p.val : Nat) : Int) = ptS A X S i := by
  have := pt_fine h hv
  unfold ydOk
  simp only [Fin.ofNat]
  omega
end Pure

/-- A cell lies in a block of cells. -/
theorem cell_block {w : World} {b i : Nat} {v : Value} (h : w.cell? ⟨b, i, none⟩ = some v) : ∃ o, w.heap[b]? = some o ∧ o.isCells = true := by
  unfold World.cell? at h
  cases hb : w.heap[b]? with
  | none => simp [hb] at h
  | some o =>
    cases o with
    | cells arr t fr => exact ⟨_, rfl, rfl⟩
    | _ => simp [hb] at h
theorem cell_same {w w' : World} {b i : Nat} (h : w'.heap[b]? = w.heap[b]?) : w'.cell? ⟨b, i, none⟩ = w.cell? ⟨b, i, none⟩ := by
  unfold World.cell?
  rw [h]
theorem KeptC.obj {Bad : Nat → Prop} {W W' : World} (h : KeptC Bad W W') {i : Nat} {arr : Array Value} {t : TypeId} (hb : ¬ Bad i) (hi : W.heap[i]? = some (.cells arr t)) : W'.heap[i]? = some (.cells arr t) := h.cells i _ hb hi rfl
def Free (Bad : Nat → Prop) (a : Option Addr) : Prop := ∀ x, a = some x → ¬ Bad x.block
theorem NumsAt.kept {Bad : Nat → Prop} {w w' : World} {a : Option Addr} {len : Nat} {F : Nat → Int} (h : NumsAt w a len F) (hf : 0 < len → Free Bad a) (hk : KeptC Bad w w') : NumsAt w' a len F := fun j hj => by
  obtain ⟨b, off, h0, h1⟩ := h j hj
  obtain ⟨o, h2, h3⟩ := cell_block h1
  exact ⟨b, off, h0, (cell_same ((hk.cells b o (hf (by omega) _ h0) h2 h3).trans h2.symm)).trans h1⟩

/-- What the iterator of play reads. -/
structure PlayAt (Bad : Nat → Prop) (W : World) (Bb Bl Bn : Nat) (a : Option Addr) (n c : Nat) (b : Option Addr) (m d : Nat) (k : Int) (L : Option Addr) (ln lc : Nat) (la : Option Addr) (len cap : Nat) (A Y X : Nat → Int) : Prop where
  b1 : ¬ Bad Bb
  b2 : ¬ Bad Bl
  b3 : ¬ Bad Bn
  b4 : 0 < n → Free Bad a
  b5 : 0 < ln * 2 → Free Bad L
  b6 : 0 < len * 2 → Free Bad la
  w1 : W.heap[Bb]? = some (.cells #[.pointer (some ⟨Bn, 0, none⟩)] 48)
  w2 : W.heap[Bl]? = some (.cells #[.slice la len cap] 27)
  w3 : W.heap[Bn]? = some (benchB a n c b m d k L ln lc)
  w4 : NumsAt W a n A
  w5 : NumsAt W L (ln * 2) Y
  w6 : NumsAt W la (len * 2) X
theorem PlayAt.kept {Bad : Nat → Prop} {W V : World} {Bb Bl Bn : Nat} {a : Option Addr} {n c : Nat} {b : Option Addr} {m d : Nat} {k : Int} {L : Option Addr} {ln lc : Nat} {la : Option Addr} {len cap : Nat} {A Y X : Nat → Int}
    (h : PlayAt Bad W Bb Bl Bn a n c b m d k L ln lc la len cap A Y X) (hk : KeptC Bad W V) : PlayAt Bad V Bb Bl Bn a n c b m d k L ln lc la len cap A Y X :=
  { h with w1 := hk.obj h.b1 h.w1, w2 := hk.obj h.b2 h.w2, w3 := hk.obj h.b3 h.w3, w4 := h.w4.kept h.b4 hk, w5 := h.w5.kept h.b5 hk, w6 := h.w6.kept h.b6 hk }
theorem PlayAt.below {Bad : Nat → Prop} {W V : World} {Bb Bl Bn : Nat} {a : Option Addr} {n c : Nat} {b : Option Addr} {m d : Nat} {k : Int} {L : Option Addr} {ln lc : Nat} {la : Option Addr} {len cap : Nat} {A Y X : Nat → Int}
    (h : PlayAt Bad W Bb Bl Bn a n c b m d k L ln lc la len cap A Y X) (hk : Below W.heap.size W V) : PlayAt Bad V Bb Bl Bn a n c b m d k L ln lc la len cap A Y X := h.kept (KeptR.of_below hk).cells
theorem NumsAt.low {w u v : World} {a : Option Addr} {len : Nat} {F : Nat → Int} (h : NumsAt w a len F) (hu : NumsAt u a len F) (hb : Below w.heap.size u v) : NumsAt v a len F := fun j hj => by
  obtain ⟨b, off, h0, h1⟩ := h j hj
  obtain ⟨b', off', h0', h1'⟩ := hu j hj
  rw [h0] at h0'
  cases h0'
  exact ⟨b, off, h0, (hb.cell (World.block_lt_of_cell? _ _ h1)).trans h1'⟩
theorem PlayAt.low {Bad : Nat → Prop} {W U V : World} {Bb Bl Bn : Nat} {a : Option Addr} {n c : Nat} {b : Option Addr} {m d : Nat} {k : Int} {L : Option Addr} {ln lc : Nat} {la : Option Addr} {len cap : Nat} {A Y X : Nat → Int}
    (h : PlayAt Bad W Bb Bl Bn a n c b m d k L ln lc la len cap A Y X) (hu : PlayAt Bad U Bb Bl Bn a n c b m d k L ln lc la len cap A Y X) (hb : Below W.heap.size U V) : PlayAt Bad V Bb Bl Bn a n c b m d k L ln lc la len cap A Y X :=
  { hu with w1 := (hb.block _ (Array.getElem?_eq_some_iff.1 h.w1).1).trans hu.w1, w2 := (hb.block _ (Array.getElem?_eq_some_iff.1 h.w2).1).trans hu.w2, w3 := (hb.block _ (Array.getElem?_eq_some_iff.1 h.w3).1).trans hu.w3, w4 := h.w4.low hu.w4 hb, w5 := h.w5.low hu.w5 hb, w6 := h.w6.low hu.w6 hb }
end Go.Proofs.Ytjemcmehgkhhlaa
