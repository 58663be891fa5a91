/-
  The contract of work: a bench with all valid pourings.
-/
import Derived.Test.YtjemcmehgkhhlaaCCheck
import Derived.Lib.AppendZeros
namespace Go.Proofs.Ytjemcmehgkhhlaa
open Go.RowKit

/-- A list of pourings: those from cans before i, and from i to those before j. -/
def Lst (n i j ln : Nat) (X : Nat → Int) : Prop := ∀ f t : Int, (∃ q, q < ln ∧ X (q * 2) = f ∧ X (q * 2 + 1) = t) ↔ (0 ≤ f ∧ 0 ≤ t ∧ t ≤ n ∧ f ≠ t ∧ (f < i ∨ f = i ∧ t < j))
def validP (n : Nat) (f t : Int) : Prop := 0 ≤ f ∧ f ≤ n ∧ 0 ≤ t ∧ t ≤ n ∧ f ≠ t
def PourL (n ln : Nat) (X : Nat → Int) : Prop := ∀ f t : Int, (∃ q, q < ln ∧ X (q * 2) = f ∧ X (q * 2 + 1) = t) ↔ validP n f t
theorem Lst.all {n ln : Nat} {X : Nat → Int} (h : Lst n (n + 1) 0 ln X) : PourL n ln X := fun f t => (h f t).trans (by unfold validP; omega)
theorem Lst.next {n i ln : Nat} {X : Nat → Int} (h : Lst n i (n + 1) ln X) : Lst n (i + 1) 0 ln X := fun f t => (h f t).trans (by omega)
theorem Lst.skip {n i ln : Nat} {X : Nat → Int} (h : Lst n i i ln X) : Lst n i (i + 1) ln X := fun f t => (h f t).trans (by omega)
theorem Lst.more {n i j ln : Nat} {X : Nat → Int} (h : Lst n i j ln X) (hne : i ≠ j) (hj : j ≤ n) : Lst n i (j + 1) (ln + 1) (joinF X (ln * 2) (fun q => if q = 0 then (i : Int) else j)) := fun f t => by
  constructor
  · rintro ⟨q, hq, h1, h2⟩
    by_cases e : q < ln
    · have := (h f t).1 ⟨q, e, by simpa [joinF, show q * 2 < ln * 2 by omega] using h1, by simpa [joinF, show q * 2 + 1 < ln * 2 by omega] using h2⟩
      omega
    · obtain rfl : q = ln := by omega
      simp [joinF] at h1 h2
      omega
  · intro g
    by_cases e : f = i ∧ t = j
    · exact ⟨ln, by omega, by simp [joinF]; omega, by simp [joinF]; omega⟩
    · obtain ⟨q, h1, h2, h3⟩ := (h f t).2 (by omega)
      exact ⟨q, by omega, by simpa [joinF, show q * 2 < ln * 2 by omega] using h2, by simpa [joinF, show q * 2 + 1 < ln * 2 by omega] using h3⟩
theorem nums_pour {w : World} {v : Nat} {f t : Int} (h : w.heap[v]? = some (pourB f t)) : NumsAt w (some ⟨v, 0, none⟩) (1 * 2) (fun q => if q = 0 then f else t) := by
  intro q hq
  refine ⟨v, 0, rfl, ?_⟩
  have hq2 : q = 0 ∨ q = 1 := by omega
  rcases hq2 with rfl | rfl <;> exact heap_cell h rfl
/-- A bench as it stands in memory. -/
def BenchAt (w : World) (base B : Nat) (a : Option Addr) (n c : Nat) (b : Option Addr) (m d : Nat) (k : Int) : Prop :=
  ∃ l ln lc X, w.heap[B]? = some (benchB a n c b m d k l ln lc) ∧ OwnNums w base 26 2 l ln lc X ∧ PourL n ln X ∧ ln ≤ 16
theorem BenchAt.below {w w' : World} {base B : Nat} {a : Option Addr} {n c : Nat} {b : Option Addr} {m d : Nat} {k : Int} (h : BenchAt w base B a n c b m d k) (hb : Below w.heap.size w w') : BenchAt w' base B a n c b m d k := by
  obtain ⟨l, ln, lc, X, h1, h2, h3⟩ := h
  exact ⟨l, ln, lc, X, heap_lft h1 hb, h2.below hb, h3⟩
/-- What work gives. -/
def WorkOut (a : Option Addr) (n c : Nat) (b : Option Addr) (m d : Nat) (k : Int) (w : World) (e : Ending) (w' : World) : Prop :=
  ∃ B, e = .returned (.pointer (some ⟨B, 0, none⟩)) ∧ w.heap.size ≤ B ∧ BenchAt w' w.heap.size B a n c b m d k ∧ Below w.heap.size w w'

set_option maxHeartbeats 8000000 in
set_option maxRecDepth 100000 in
theorem work_any (a : Option Addr) (n c : Nat) (b : Option Addr) (m d : Nat) (k : Int) (hn : n ≤ 3) (w : World) :
    Calls Try.prog 18 #[cansV a n c b m d k] w (WorkOut a n c b m d k w) := by
  obtain ⟨W, hW⟩ : ∃ W, w.alloc (cansB a n c b m d k) = W := ⟨_, rfl⟩
  have HB : Hid (Below w.heap.size w W) := Lib.hid (by rw [← hW]; exact below_new _ _)
  have HX : Hid (W.heap[w.heap.size]? = some (cansB a n c b m d k)) := Lib.hid (by rw [← hW]; exact heap_top _ _ rfl)
  have HSZ : Hid (W.heap.size = w.heap.size + 1) := Lib.hid (by rw [← hW]; simp)
  have x0 := heap_cell HX.out (j := 0) rfl
  have x1 := heap_cell HX.out (j := 1) rfl
  have x2 := heap_cell HX.out (j := 2) rfl
  go_enter Try.func18, Try.ntmps18
  go_upto_region 1 with fail
  try rw [hW]
  clear hW
  go_upto_region 2 with fail
  clear x0 x1 x2
  obtain ⟨V, hV⟩ : ∃ V, W.alloc (benchB a n c b m d k none 0 0) = V := ⟨_, rfl⟩
  have HBV : Hid (Below W.heap.size W V) := Lib.hid (by rw [← hV]; exact below_new _ _)
  have HVX : Hid (V.heap[W.heap.size]? = some (benchB a n c b m d k none 0 0)) := Lib.hid (by rw [← hV]; exact heap_top _ _ rfl)
  try rw [hV]
  clear hV
  have hw1 : IntKind.i64.wrap ((n : Int) + 1) = ((n + 1 : Nat) : Int) := by rw [IntWalk.i64_in _ (by omega)]; omega
  have x0 := heap_cell (heap_lft HX.out HBV.out) (j := 0) rfl
  go_wp2_with fail
  clear x0
  have HBW := Lib.hid HB.out
  go_loopw [4, 5, 13] (fun _ _ ix wr => ∃ i : Nat, i ≤ n + 1 ∧ ix = .int .i64 i ∧ (∃ l ln lc X, wr.heap[W.heap.size]? = some (benchB a n c b m d k l ln lc) ∧ OwnNums wr W.heap.size 26 2 l ln lc X ∧ Lst n i 0 ln X ∧ ln ≤ i * (n + 1)) ∧ Below W.heap.size W wr) (fun _ _ ix _ => n + 1 - (intOf ix).toNat)
  case atStart => exact ⟨0, Nat.zero_le _, rfl, ⟨none, 0, 0, fun _ => 0, HVX.out, own_nil _ _ _ _ _, fun f t => ⟨fun ⟨q, hq, _⟩ => by omega, fun g => by omega⟩, by omega⟩, HBV.out⟩
  case round =>
    obtain ⟨i, hi, rfl, ⟨l, ln, lc, X, hv, ho, hL, hln⟩, hb⟩ := hrel
    have HV := Lib.hid hv
    have HO := Lib.hid ho
    have HL := Lib.hid hL
    have HLN := Lib.hid hln
    have HBr := Lib.hid hb
    clear hv ho hL hln hb
    by_cases hlt : i < n + 1
    · have n1 : (i : Int) < ((n + 1 : Nat) : Int) := by omega
      have n1' : (i : Int) < (n : Int) + 1 := by omega
      have x0 := heap_cell (heap_lft HX.out HBr.out) (j := 0) rfl
      go_wp2_with fail
      clear x0
      have HI := Lib.hid hlt
      clear hlt n1 n1'
      obtain ⟨wo, rfl⟩ : ∃ x, x = wr := ⟨_, rfl⟩
      go_loopw [5, 20] (fun _ jx wr => ∃ j : Nat, j ≤ n + 1 ∧ jx = .int .i64 j ∧ (∃ l ln lc X, wr.heap[W.heap.size]? = some (benchB a n c b m d k l ln lc) ∧ OwnNums wr W.heap.size 26 2 l ln lc X ∧ Lst n i j ln X ∧ ln ≤ i * (n + 1) + j) ∧ Below W.heap.size W wr) (fun _ jx _ => n + 1 - (intOf jx).toNat)
      case atStart => exact ⟨0, Nat.zero_le _, rfl, ⟨l, ln, lc, X, HV.out, HO.out, HL.out, by have := HLN.out; omega⟩, HBr.out⟩
      case round =>
        clear HV HO HL HLN l ln lc X
        obtain ⟨j, hj, rfl, ⟨l, ln, lc, X, hv, ho, hL, hln⟩, hb⟩ := hrel
        have HV := Lib.hid hv
        have HO := Lib.hid ho
        have HL := Lib.hid hL
        have HLN : Hid (ln ≤ 16) := Lib.hid (by
          have h1 := HI.out
          have h2 : i * (n + 1) ≤ 3 * 4 := Nat.mul_le_mul (by omega) (by omega)
          omega)
        have HLN0 := Lib.hid hln
        have HBs := Lib.hid hb
        clear hv ho hL hln hb
        by_cases hjt : j < n + 1
        · have HJ := Lib.hid hjt
          have n1 : (j : Int) < (n : Int) + 1 := by omega
          clear hjt
          by_cases hne : i = j
          · have ht : ((i : Int) != (j : Int)) = false := by rw [hne]; simp
            have HE := Lib.hid hne
            clear hne
            go_wp2_with fail
            go_roundw
            case rel => exact ⟨j + 1, by have := HJ.out; omega, by go_num, ⟨l, ln, lc, X, HV.out, HO.out, by have h := HL.out; have e := HE.out; subst e; exact h.skip, by have := HLN0.out; omega⟩, HBs.out⟩
            case measure => have := HJ.out; simp [intOf]; omega
          · have ht : ((i : Int) != (j : Int)) = true := by simp; omega
            have HE := Lib.hid hne
            clear hne
            have v3 := heap_cell HV.out (j := 3) rfl
            go_upto_region 9 with fail
            obtain ⟨Y, hY⟩ : ∃ Y, wr.alloc (pourB i j) = Y := ⟨_, rfl⟩
            have hby : Below wr.heap.size wr Y := by rw [← hY]; exact below_new _ _
            have hyx : Y.heap[wr.heap.size]? = some (pourB i j) := by rw [← hY]; exact heap_top _ _ rfl
            obtain ⟨i0, hi0, hz0, hz1, hz2⟩ := infoPour
            have hoa := HO.out.below hby
            have hqy := heap_lft HV.out hby
            have hsy : W.heap.size ≤ Y.heap.size := by have h1 := HBs.out.size; have h2 := hby.size; omega
            obtain ⟨a4, c4, Z, hr, ho4, hal, hbe, _⟩ := app_own Y W.heap.size 26 27 27 2 16 i0 _ Try.underlying27 hi0 hz0 hz1 hz2 rfl (by decide) (by decide) hoa (some ⟨wr.heap.size, 0, none⟩) 1 1 (fun q => if q = 0 then (i : Int) else j) (nums_pour hyx) (fun e => by cases e) (by have := HLN.out; omega) (by omega) hsy
            have HQZ : Hid (Z.heap[W.heap.size]? = some (benchB a n c b m d k l ln lc)) := Lib.hid ((hal _ (Array.getElem?_eq_some_iff.1 hqy).1 (fun x hx e => hoa.ne hqy (by decide) x hx e.symm)).trans hqy)
            have HOZ := Lib.hid ho4
            have HBZ : Hid (Below W.heap.size W Z) := Lib.hid ((below_thn HBs.out hby).trans hbe)
            rw [← hY] at hr
            have HAR := Lib.hid hr
            clear hby hyx hi0 hz0 hz1 hz2 hoa hqy hsy hr ho4 hal hbe hY
            have z3 := heap_cell HQZ.out (j := 3) rfl
            have zf := heap_frozen HQZ.out 3
            go_wp2_with (first | (at_builtin; refine Lib.wpList_append_run _ rfl _ _ _ _ rfl _ _ rfl rfl _ _ HAR.out ?_) | go_in)
            go_roundw
            case rel => exact ⟨j + 1, by have := HJ.out; omega, by go_num, ⟨a4, ln + 1, c4, _, heap_set HQZ.out 3 _, HOZ.out.kept (fun x hx => setCell_other (HOZ.out.ne HQZ.out (by decide) x hx)), HL.out.more HE.out (by have := HJ.out; omega), by have := HLN0.out; omega⟩, HBZ.out.setCell (Nat.le_refl _) _⟩
            case measure => have := HJ.out; simp [intOf]; omega
        · obtain rfl : j = n + 1 := by omega
          go_wp2_with fail
          go_roundw
          case rel => exact ⟨i + 1, by have := HI.out; omega, by go_num, ⟨l, ln, lc, X, HV.out, HO.out, HL.out.next, by have := HLN0.out; rw [Nat.add_mul]; omega⟩, HBs.out⟩
          case measure => have := HI.out; simp [intOf]; omega
    · obtain rfl : i = n + 1 := by omega
      go_wp2_with fail
      go_ret
      have hs := HSZ.out
      exact ⟨W.heap.size, rfl, by omega, ⟨l, ln, lc, X, HV.out, OwnNums.base HO.out (by omega), HL.out.all, by
        have h1 := HLN.out
        have h2 : (n + 1) * (n + 1) ≤ 4 * 4 := Nat.mul_le_mul (by omega) (by omega)
        omega⟩, below_thn HB.out HBr.out⟩
end Go.Proofs.Ytjemcmehgkhhlaa
