/-
  The contracts of slices.Clone at pressings, of firstError at two codes, and of valid.
-/
import Derived.Test.YtijfdfplebbaaaaGreatQApp
import Derived.ArgAppend
import Derived.Lib.SliceRun
namespace Go.Proofs.YtijfdfplebbaaaaGreat
open Go.RowKit

def CopyOut (t : TypeId) (k len : Nat) (F : Nat → Int) (w : World) (e : Ending) (w' : World) : Prop :=
  ∃ a cap, e = .returned (.slice a len cap) ∧ OwnNums w' w.heap.size t k a len cap F ∧ Below w.heap.size w w'
set_option maxHeartbeats 1000000 in
set_option maxRecDepth 100000 in
theorem cloneRing_any (a : Option Addr) (len cap : Nat) (F : Nat → Int) (hl : len ≤ 40) (hnil : a = none → len = 0 ∧ cap = 0) (w : World) (h : NumsAt w a (len * 4) F) :
    Calls Tryz.prog 32 #[.slice a len cap] w (CopyOut 49 4 len F w) := by
  cases a with
  | none =>
    obtain ⟨rfl, rfl⟩ := hnil rfl
    have hnl := Lib.run_eql_slice_nil (P := Tryz.prog) w 22 49 none 0 0 0 0 Tryz.underlying22
    simp only [Option.isNone_none] at hnl
    go_enter Tryz.func32, Tryz.ntmps32
    go_wp2_with fail
    go_ret
    exact ⟨none, 0, rfl, own_nil _ _ _ _ _, Below.refl _ _⟩
  | some b0 =>
    clear hnil
    by_cases h0 : len = 0
    · subst h0
      clear h
      have hnl := Lib.run_eql_slice_nil (P := Tryz.prog) w 22 49 (some b0) 0 cap 0 0 Tryz.underlying22
      simp only [Option.isNone_some] at hnl
      go_enter Tryz.func32, Tryz.ntmps32
      go_wp2_with fail
      go_ret
      exact ⟨_, _, rfl, own_empty _ _ _ rfl (Nat.le_refl _) _, below_new _ _⟩
    · obtain ⟨b, off, hb0, _⟩ := h 0 (by omega)
      cases hb0
      have HN : Hid (NumsAt (w.alloc (.cells #[] 49)) (some ⟨b, off, none⟩) (len * 4) F) := Lib.hid (h.alloc _)
      clear h
      obtain ⟨i0, hi, hz0, hz1, hz2⟩ := infoRing
      have hnl := Lib.run_eql_slice_nil (P := Tryz.prog) w 22 49 (some ⟨b, off, none⟩) len cap 0 0 Tryz.underlying22
      simp only [Option.isNone_some] at hnl
      go_enter Tryz.func32, Tryz.ntmps32
      go_wp2_with (at_builtin; refine wpList_append_grows _ rfl (.tmp 5) (.tmp 6) 22 rfl 49 i0 (.agg #[.int .i64 0, .int .i64 0, .int .i64 0, .int .i64 0]) 4 32 Tryz.underlying22 hi hz0 hz1 hz2 rfl (by decide) (some ⟨w.heap.size, 0, none⟩) 0 0 [] rfl (by simp) rfl (by intro _ _ _ _ h; simp at h) ⟨b, off, none⟩ len cap (numsCells (len * 4) F) rfl (numsCells_length _ _) (fun j v h => numsCells_hold HN.out h) ?c2 (by omega) (by unfold maxLen; omega) (by omega) ?grow)
      case c2 =>
        intro v hv
        obtain ⟨j, hj⟩ := List.getElem?_of_mem hv
        obtain ⟨_, rfl⟩ := numsCells_at hj
        rfl
      case grow =>
        intro v' w' hown hgrow
        have hown : w'.ownsRow (w.alloc (.cells #[] 49)).heap.size 49 4 v' len (numsCells (len * 4) F) := by simpa using hown
        obtain ⟨a', cap', rfl⟩ : ∃ a' cap', v' = .slice a' len cap' := by
          obtain ⟨_, ⟨rfl, h⟩ | ⟨g, c, cur, rfl, _⟩⟩ := hown
          · exact absurd h h0
          · exact ⟨_, _, rfl⟩
        have HO : Hid (OwnNums w' w.heap.size 49 4 a' len cap' F) := Lib.hid (OwnNums.base hown (by simp))
        have HB : Hid (Below w.heap.size w w') := Lib.hid (((Below.refl _ _).alloc (Nat.le_refl _) _).grown hgrow (by simp) (fun k h => by cases h))
        clear hown hgrow
        go_wp2_with fail
        go_ret
        exact ⟨_, _, rfl, HO.out, HB.out⟩


end Go.Proofs.YtijfdfplebbaaaaGreat
