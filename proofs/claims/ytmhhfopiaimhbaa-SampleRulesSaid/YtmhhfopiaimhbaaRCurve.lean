/-
  The contracts of the specification's own Curve and SameParts.
-/
import Derived.Test.YtmhhfopiaimhbaaRRules
import Derived.Test.YtmhhfopiaimhbaaTerms
import Derived.Test.YtmhhfopiaimhbaaLikely
import Derived.Deep.AppendLies
import Derived.Deep.RegionHeld3
namespace Go.Proofs.Ytmhhfopiaimhbaa
open Go.RowKit Go.Shelf

namespace Pure
def curveE (b lo hi x y : Int) : Int := if okCargo b lo hi then (if okDraw b x y then 0 else 13) else 10
/-- The chances of a curve, in lowest terms. -/
def curveN (b lo x y : Int) (j : Nat) : Int := few b (lo + j) x y / gcd (few b (lo + j) x y) (sets b x)
def curveD (b lo x y : Int) (j : Nat) : Int := sets b x / gcd (few b (lo + j) x y) (sets b x)
end Pure
theorem infoPart : (Try.prog.info? 31).map (fun i => (i.zero, i.size, i.bytes)) = some (some (.agg #[.int .i64 0, .int .i64 0]), 2, 16) := by kernel_rfl
/-- The cells of fractions one behind the other. -/
def cells2 (F P : Nat → Int) : Nat → List Value
  | 0 => []
  | k + 1 => cells2 F P k ++ [.int .i64 (F k), .int .i64 (P k)]
theorem cells2_length (F P : Nat → Int) : ∀ k : Nat, (cells2 F P k).length = k * 2
  | 0 => rfl
  | k + 1 => by
    show (cells2 F P k ++ _).length = _
    rw [List.length_append, cells2_length F P k, List.length_cons, List.length_cons, List.length_nil]
    omega
theorem cells2_get (F P : Nat → Int) {j : Nat} : ∀ {k : Nat}, j < k → (cells2 F P k)[j * 2]? = some (.int .i64 (F j)) ∧ (cells2 F P k)[j * 2 + 1]? = some (.int .i64 (P j))
  | 0, h => absurd h (Nat.not_lt_zero _)
  | k + 1, h => by
    show (cells2 F P k ++ _)[j * 2]? = _ ∧ (cells2 F P k ++ _)[j * 2 + 1]? = _
    have hl := cells2_length F P k
    by_cases e : j < k
    · have ih := cells2_get F P (k := k) e
      rw [List.getElem?_append_left (by omega), List.getElem?_append_left (by omega)]
      exact ih
    · obtain rfl : j = k := by omega
      rw [List.getElem?_append_right (by omega), List.getElem?_append_right (by omega), hl]
      simp
theorem parts_of_row {w : World} {base : Nat} {t : TypeId} {v : Value} {len : Nat} {F P : Nat → Int} (h : w.ownsRow base t 2 v len (cells2 F P len)) (h0 : 0 < len) :
    ∃ a cap, v = .slice a len cap ∧ TermsAt w a len F P := by
  obtain ⟨_, hn | ⟨g, cap, cur, rfl, _, hg, _, _, _, ht⟩⟩ := h
  · omega
  · refine ⟨_, cap, rfl, fun j hj => ⟨g, 0, rfl, ?_⟩⟩
    obtain ⟨h1, h2⟩ := cells2_get F P hj
    rw [← ht, List.getElem?_take_of_lt (by omega)] at h1 h2
    constructor
    · unfold World.cell?
      simp only [hg]
      simpa using h1
    · unfold World.cell?
      simp only [hg]
      simpa using h2
theorem cell_two (w : World) (u v : Value) (t : TypeId) {b : Nat} (hb : b = w.heap.size) (j : Nat) (z : Value) (h : [u, v][j]? = some z) : (w.alloc (.cells #[u, v] t)).cell? ((⟨b, 0, none⟩ : Addr).add j) = some z := by
  rw [Go.WideShapes.add_plain, Nat.zero_add]
  exact (cells_top w #[u, v] t hb j).trans (by simpa using h)
theorem row_blw {w w' : World} {base size n : Nat} {e : TypeId} {v : Value} {xs : List Value} (h : w.ownsRow base e size v n xs) (k : Below w.heap.size w w') : w'.ownsRow base e size v n xs :=
  ⟨h.1, h.2.imp id (fun ⟨g, cap, cur, hv, hb, hg, r⟩ => ⟨g, cap, cur, hv, hb, heap_lft hg k, r⟩)⟩
theorem row_drw {w : World} {base size n : Nat} {e : TypeId} {v : Value} {xs : List Value} (h : w.ownsRow base e size v n xs) : w.drew.ownsRow base e size v n xs := h
theorem chooseEq {n k F : Int} (h36 : n ≤ 36) (h : Hid (Pure.sets n k = F)) (w : World) :
    Calls Try.prog 26 #[.int .i64 n, .int .i64 k] w fun e w' => e = .returned (.int .i64 F) ∧ w = w' :=
  (choose_any n k h36 w).mono fun _ _ g => ⟨g.1.trans (by rw [h.out]), g.2⟩
theorem leastQ {n d : Int} {v : Value} (hn : 0 ≤ n) (hn1 : n ≤ 9223372036854775807) (hd : 0 < d) (hd1 : d ≤ 9223372036854775807) (h : Hid (partV n d = v)) (w : World) :
    Calls Try.prog 24 #[.int .i64 n, .int .i64 d] w fun e w' => e = .returned v ∧ Below w.heap.size w w' :=
  (rLeast_any n d hn hn1 hd hd1 w).mono fun _ _ g => ⟨g.1.trans (by rw [h.out]), g.2⟩
/-- What Curve answers: a code, and a slice of fractions. -/
def CurveOut (code : Int) (len : Nat) (F P : Nat → Int) (w : World) (e : Ending) (w' : World) : Prop :=
  ∃ a n cap, e = .returned (.tuple #[.slice a n cap, .int .i64 code]) ∧ n = (if code = 0 then len else 0) ∧ TermsAt w' a n F P ∧ Below w.heap.size w w'

set_option maxHeartbeats 4000000 in
set_option maxRecDepth 100000 in
theorem rCurve_any (b lo hi x y : Int) (w : World) :
    Calls Try.prog 7 #[cargoV b lo hi, .agg #[.int .i64 x, .int .i64 y]] w (CurveOut (Pure.curveE b lo hi x y) (hi - lo + 1).toNat (Pure.curveN b lo x y) (Pure.curveD b lo x y) w) := by
  obtain ⟨k1, h1⟩ : ∃ z, Pure.okCargo b lo hi = z := ⟨_, rfl⟩
  obtain ⟨k2, h2⟩ : ∃ z, Pure.okDraw b x y = z := ⟨_, rfl⟩
  have HE : Hid (Pure.curveE b lo hi x y = if k1 then (if k2 then 0 else 13) else 10) := Lib.hid (by unfold Pure.curveE; rw [h1, h2])
  have H1 := Lib.hid h1
  have H2 := Lib.hid h2
  clear h1 h2
  go_enter Try.func7, Try.ntmps7
  go_wp2_with fail
  obtain ⟨W1, hW1⟩ : ∃ v, (w.alloc (.cells #[.int .i64 b, .int .i64 lo, .int .i64 hi] 25)).alloc (.cells #[.int .i64 x, .int .i64 y] 27) = v := ⟨_, rfl⟩
  have HA : Hid (W1.heap[w.heap.size]? = some (.cells #[.int .i64 b, .int .i64 lo, .int .i64 hi] 25) ∧ W1.heap[w.heap.size + 1]? = some (.cells #[.int .i64 x, .int .i64 y] 27)) := by rw [← hW1]; exact Lib.hid ⟨heap_up (heap_top w _ rfl) _, heap_top _ _ (by simp)⟩
  have HB : Hid (Below w.heap.size w W1) := by rw [← hW1]; exact Lib.hid (((Below.refl _ _).alloc (Nat.le_refl _) _).alloc (by simp; try omega) _)
  rw [hW1]
  clear hW1
  refine (rCargo_any b lo hi _).mono ?_
  rintro e w' ⟨rfl, hw1⟩
  obtain ⟨HA1, HB1⟩ : Hid (w'.heap[w.heap.size]? = some (.cells #[.int .i64 b, .int .i64 lo, .int .i64 hi] 25) ∧ w'.heap[w.heap.size + 1]? = some (.cells #[.int .i64 x, .int .i64 y] 27)) ∧ Hid (Below w.heap.size w w') := by
    rw [hw1]
    have hb := (Below.refl W1.heap.size W1).alloc (Nat.le_refl _) (.cells #[.int .i64 b, .int .i64 lo, .int .i64 hi] 25)
    exact ⟨Lib.hid ⟨heap_lft HA.out.1 hb, heap_lft HA.out.2 hb⟩, Lib.hid (below_thn HB.out hb)⟩
  clear hw1
  obtain ⟨w1, rfl⟩ : ∃ v, v = w' := ⟨_, rfl⟩
  rw [H1.out]
  have e0 := heap_cell HA1.out.1 (j := 0) rfl
  have e1 := heap_cell HA1.out.1 (j := 1) rfl
  have e2 := heap_cell HA1.out.1 (j := 2) rfl
  have g0 := heap_cell HA1.out.2 (j := 0) rfl
  have g1 := heap_cell HA1.out.2 (j := 1) rfl
  cases k1
  · go_wp2_with fail
    go_ret2
    exact ⟨none, 0, 0, by rw [HE.out]; rfl, by rw [HE.out]; rfl, fun j hj => absurd hj (Nat.not_lt_zero j), HB1.out⟩
  · go_wp2_with fail
    clear e0 e1 e2 g0 g1
    refine (rRule_any b lo hi x y _).mono ?_
    rintro e w' ⟨rfl, hw1⟩
    obtain ⟨HA2, HB2⟩ : Hid (w'.heap[w.heap.size]? = some (.cells #[.int .i64 b, .int .i64 lo, .int .i64 hi] 25) ∧ w'.heap[w.heap.size + 1]? = some (.cells #[.int .i64 x, .int .i64 y] 27)) ∧ Hid (Below w.heap.size w w') := by
      rw [hw1]
      have hb := ((Below.refl w1.heap.size w1).alloc (Nat.le_refl _) (.cells #[.int .i64 b, .int .i64 lo, .int .i64 hi] 25)).alloc (by simp) (.cells #[.int .i64 x, .int .i64 y] 27)
      exact ⟨Lib.hid ⟨heap_lft HA1.out.1 hb, heap_lft HA1.out.2 hb⟩, Lib.hid (below_thn HB1.out hb)⟩
    clear hw1
    obtain ⟨w2, rfl⟩ : ∃ v, v = w' := ⟨_, rfl⟩
    rw [H2.out]
    have e0 := heap_cell HA2.out.1 (j := 0) rfl
    have e1 := heap_cell HA2.out.1 (j := 1) rfl
    have e2 := heap_cell HA2.out.1 (j := 2) rfl
    have g0 := heap_cell HA2.out.2 (j := 0) rfl
    have g1 := heap_cell HA2.out.2 (j := 1) rfl
    cases k2
    · go_wp2_with fail
      go_ret2
      exact ⟨none, 0, 0, by rw [HE.out]; rfl, by rw [HE.out]; rfl, fun j hj => absurd hj (Nat.not_lt_zero j), HB2.out⟩
    · have m1 := H1.out
      have m2 := H2.out
      unfold Pure.okCargo at m1
      unfold Pure.okDraw at m2
      simp only [decide_eq_true_eq] at m1 m2
      obtain ⟨b1, b2, l0, l1, hb⟩ := m1
      obtain ⟨x0, x1, y0, y1⟩ := m2
      replace HE : Hid (Pure.curveE b lo hi x y = 0) := Lib.hid (by rw [HE.out]; rfl)
      obtain ⟨S, hS⟩ : ∃ S, Pure.sets b x = S := ⟨_, rfl⟩
      have s0 : 0 < S := by rw [← hS]; exact Pure.sets_pos x0 x1
      have s1 : S ≤ 68719476736 := by rw [← hS]; exact Pure.sets_le b2
      obtain ⟨Fn, hFn⟩ : ∃ f : Nat → Int, Pure.curveN b lo x y = f := ⟨_, rfl⟩
      obtain ⟨Fd, hFd⟩ : ∃ f : Nat → Int, Pure.curveD b lo x y = f := ⟨_, rfl⟩
      have HF : Hid (∀ k : Nat, Fn k = Pure.few b (lo + k) x y / Pure.gcd (Pure.few b (lo + k) x y) S ∧ Fd k = S / Pure.gcd (Pure.few b (lo + k) x y) S) := Lib.hid (fun k => by rw [← hFn, ← hFd, ← hS]; exact ⟨rfl, rfl⟩)
      have HFN := Lib.hid hFn
      have HFD := Lib.hid hFd
      have HS := Lib.hid hS
      clear hS hFn hFd
      obtain ⟨i0, hi0, hz0, hz1, hz2⟩ := info_parts infoPart
      go_wp2_with fail
      clear e0 e1 e2 g0 g1
      go_loopw [6, 7] (fun v i wr => ∃ k : Nat, (k : Int) ≤ hi - lo + 1 ∧ i = .int .i64 (lo + k) ∧ wr.ownsRow w2.heap.size 31 2 v k (cells2 Fn Fd k) ∧ Below w2.heap.size w2 wr) (fun _ i _ => (hi + 1 - intOf i).toNat)
      case atStart => exact ⟨0, by omega, by simp, World.ownsRow_nil _ _ _ _, Below.refl _ _⟩
      case round =>
        obtain ⟨k, hk, rfl, hown, hbr⟩ := hrel
        have HOWN := Lib.hid hown
        have HBR := Lib.hid hbr
        have HA6 : Hid (wr.heap[w.heap.size]? = some (.cells #[.int .i64 b, .int .i64 lo, .int .i64 hi] 25) ∧ wr.heap[w.heap.size + 1]? = some (.cells #[.int .i64 x, .int .i64 y] 27)) := Lib.hid ⟨heap_lft HA2.out.1 hbr, heap_lft HA2.out.2 hbr⟩
        clear hown hbr
        have e0 := heap_cell HA6.out.1 (j := 0) rfl
        have e1 := heap_cell HA6.out.1 (j := 1) rfl
        have e2 := heap_cell HA6.out.1 (j := 2) rfl
        have g0 := heap_cell HA6.out.2 (j := 0) rfl
        have g1 := heap_cell HA6.out.2 (j := 1) rfl
        by_cases hlt : lo + (k : Int) ≤ hi
        · obtain ⟨n, hn⟩ : ∃ n, lo + (k : Int) = n := ⟨_, rfl⟩
          have HNS : Hid (lo + ((k + 1 : Nat) : Int) = n + 1) := Lib.hid (by rw [← hn]; omega)
          have n0 : 0 ≤ n := by omega
          have n1 : n ≤ b := by omega
          have hk37 : k ≤ 36 := by omega
          obtain ⟨M, hM⟩ : ∃ M, Pure.few b n x y = M := ⟨_, rfl⟩
          have M0 : 0 ≤ M := by rw [← hM]; exact Pure.few_nonneg
          have M1 : M ≤ S := by rw [← hM, ← HS.out]; exact Pure.few_le_all n0 n1 x0 y0 y1
          have HFK : Hid (Fn k = M / Pure.gcd M S ∧ Fd k = S / Pure.gcd M S) := Lib.hid (by
            have h := HF.out k
            rw [hn, hM] at h
            exact h)
          obtain ⟨fn, hfn⟩ : ∃ z, Fn k = z := ⟨_, rfl⟩
          obtain ⟨fd, hfd⟩ : ∃ z, Fd k = z := ⟨_, rfl⟩
          have HPV : Hid (partV M S = .agg #[.int .i64 fn, .int .i64 fd]) := Lib.hid (by
            show Value.agg #[.int .i64 _, .int .i64 _] = _
            rw [← hfn, ← hfd, HFK.out.1, HFK.out.2])
          have HC2 : Hid (cells2 Fn Fd (k + 1) = cells2 Fn Fd k ++ [.int .i64 fn, .int .i64 fd]) := Lib.hid (by rw [← hfn, ← hfd]; rfl)
          have HM := Lib.hid hM
          rw [hn]
          rw [hn] at hlt
          clear hfn hfd hM hn HFK
          have HK : Hid (∀ v : World, Below w2.heap.size w2 v → (v.cell? ⟨w.heap.size, 0, none⟩ = some (.int .i64 b) ∧ v.cell? ⟨(w.heap.size + 1), 0, none⟩ = some (.int .i64 x) ∧ v.cell? ⟨(w.heap.size + 1), 1, none⟩ = some (.int .i64 y) ∧ Below w2.heap.size w2 v)) := Lib.hid (fun v k => ⟨below_cell k (heap_cell HA2.out.1 (j := 0) rfl), below_cell k (heap_cell HA2.out.2 (j := 0) rfl), below_cell k (heap_cell HA2.out.2 (j := 1) rfl), k⟩)
          have HBRD : Hid (Below w2.heap.size w2 wr.drew) := Lib.hid HBR.out.drew
          have HOWND := Lib.hid (row_drw HOWN.out)
          go_wp2_with fail
          clear e0 e1 e2 g0 g1
          go_region_held3 (fun v => v.cell? ⟨w.heap.size, 0, none⟩ = some (.int .i64 b) ∧ v.cell? ⟨(w.heap.size + 1), 0, none⟩ = some (.int .i64 x) ∧ v.cell? ⟨(w.heap.size + 1), 1, none⟩ = some (.int .i64 y) ∧ Below w2.heap.size w2 v)
            (first | exact HK.out _ HBRD.out | with_reducible exact HK.out _ hqu3 | with_reducible exact HK.out _ hqu1 | with_reducible exact HK.out _ (Below.alloc hqu3 hsz3 _) | with_reducible exact HK.out _ hq5)
            (first
              | (go_at_call 25; with_reducible refine (rFewB (show 0 ≤ b by omega) b2 n0 n1 x0 x1 y0 y1 HM _).mono ?_; rintro e u1 ⟨rfl, hbu1⟩; have hqu1 : Below w2.heap.size w2 u1 := below_thn HBRD.out hbu1; have hown1 := row_blw HOWND.out hbu1)
              | (go_at_call 26; with_reducible refine (chooseEq b2 HS _).mono ?_; rintro e u2 ⟨rfl, rfl⟩)
              | (go_at_call 24; with_reducible refine (leastQ M0 (by omega) s0 (by omega) HPV _).mono ?_; rintro e u3 ⟨rfl, hbu3⟩; have hqu3 : Below w2.heap.size w2 u3 := below_thn hqu1 hbu3; have hsz3 := hqu3.size; have hown3 := row_blw hown1 hbu3)
              | (refine step_append_lies _ rfl _ _ 37 rfl w2.heap.size 31 i0 (.agg #[.int .i64 0, .int .i64 0]) 2 16 Try.underlying37 hi0 hz0 hz1 hz2 rfl (by decide) _ _ _ rfl (World.ownsRow.alloc hown3 _) ⟨u3.heap.size, 0, none⟩ 1 1 [.int .i64 fn, .int .i64 fd] rfl rfl (cell_two _ _ _ _ rfl) (by simp [Value.oneCell']) (by decide) (by unfold maxLen; omega) (by omega) (by simp; omega) _ rfl ?_; intro g cap w5 hown' hgrow hgv hlt5; have hlt6 := hown3.lt; have hq5 : Below w2.heap.size w2 w5 := (Below.alloc hqu3 hsz3 _).grown hgrow (by simp; omega) (fun k e => (hlt6 k e).1)))
          have HOWN5 := Lib.hid hown'
          have HB5 := Lib.hid hq5
          clear hown' hgrow hlt5 hlt6 hq5 hqu3 hqu1 hown1 hown3 hsz3
          go_wp2_with fail
          go_roundw
          case rel => exact ⟨k + 1, by have := HNS.out; omega, by rw [HNS.out], by rw [HC2.out]; exact HOWN5.out, HB5.out⟩
          case measure => (simp [intOf] <;> omega)
        · obtain ⟨n, hn⟩ : ∃ n : Nat, hi - lo + 1 = n := ⟨(hi - lo + 1).toNat, by omega⟩
          obtain rfl : k = n := by omega
          obtain ⟨a, cap, rfl, hta⟩ := parts_of_row HOWN.out (by omega)
          have HTA := Lib.hid hta
          clear hta
          have HB9 := Lib.hid (below_thn HB2.out HBR.out)
          go_wp2_with fail
          go_ret2
          exact ⟨a, k, cap, by rw [HE.out]; rfl, by rw [HE.out]; simp, by rw [HFN.out, HFD.out]; exact HTA.out, HB9.out⟩

set_option maxHeartbeats 2000000 in
set_option maxRecDepth 100000 in
/-- **SameParts**. -/
theorem sameParts_any (a a' : Option Addr) (len cap cap' : Nat) (F P : Nat → Int) (hl : len ≤ 37) (w : World) (ht : TermsAt w a len F P) (ht' : TermsAt w a' len F P) :
    Calls Try.prog 8 #[.slice a len cap, .slice a' len cap'] w fun e w' => e = .returned (.bool true) ∧ Below w.heap.size w w' := by
  have HT := Lib.hid ht
  have HT' := Lib.hid ht'
  clear ht ht'
  go_enter Try.func8, Try.ntmps8
  go_wp2_with fail
  go_loopw [5] (fun i wr => ∃ k : Nat, k ≤ len ∧ i = .int .i64 k ∧ Below w.heap.size w wr) (fun i _ => len - (intOf i).toNat)
  case atStart => exact ⟨0, Nat.zero_le _, rfl, Below.refl _ _⟩
  case round =>
    obtain ⟨k, hk, rfl, hB⟩ := hrel
    by_cases hk1 : k < len
    · obtain ⟨b, off, rfl, g0, g1⟩ := HT.out k hk1
      obtain ⟨b', off', rfl, g2, g3⟩ := HT'.out k hk1
      have e0 := below_cell hB g0
      have e1 := below_cell hB g1
      have e2 := below_cell hB g2
      have e3 := below_cell hB g3
      have hk2 : (k : Int) < len := by omega
      have x0 := among_below e0
      have x1 := among_below e1
      have x2 := among_below e2
      have x3 := among_below e3
      have HB := Lib.hid hB
      have HSt : Hid (Below wr.heap.size wr wr.drew) := Lib.hid (Below.refl _ _).drew
      have hne : Nonempty (Among (Below wr.heap.size wr)) := ⟨⟨_, HSt.out⟩⟩
      clear hB g0 g1 g2 g3 e0 e1 e2 e3
      go_wp2_with fail
      refine wp_region_class (Below wr.heap.size wr) (by kernel_rfl) (by kernel_rfl) HSt.out ?_
      repeat (go_big_quiet_step (fail))
      refine wpQuiet_nil ?_
      intro w3 hx
      have hB3 := among_out hx
      clear hx hne x0 x1 x2 x3
      have HB3 : Hid (Below w.heap.size w w3) := Lib.hid (HB.out.trans (hB3.mono HB.out.size))
      clear hB3
      go_wp2_with fail
      go_roundw
      case rel => exact ⟨k + 1, by omega, by go_num, HB3.out⟩
      case measure => simp [intOf]; omega
    · obtain rfl : k = len := by omega
      go_wp2_with fail
      go_ret
      exact ⟨rfl, hB⟩


end Go.Proofs.Ytmhhfopiaimhbaa
