/-
  The contracts of played, Hot, since, After, repeats and Repeats.
-/
import Derived.Test.YteoakchcomodgaaWPlay
namespace Go.Proofs.Yteoakchcomodgaa
open Go.RowKit

namespace Pure
theorem both_zero {h : Int} {n : Nat} {F : Nat → Int} {m : Nat} {L : Nat → Nat} {G : Nat → Nat → Int} (e : bothE h n F m L G = 0) : watch h n F = true ∧ daysOk h n F m L G = true := by
  unfold bothE at e
  by_cases hw : watch h n F = true
  · rw [if_pos hw] at e
    refine ⟨hw, ?_⟩
    cases hd : daysOk h n F m L G with
    | true => rfl
    | false => rw [hd] at e; simp [err] at e
  · rw [if_neg hw] at e
    omega
theorem watch_facts {h : Int} {n : Nat} {F : Nat → Int} (hw : watch h n F = true) : 0 ≤ h ∧ h ≤ 3 ∧ n ≤ 4 ∧ ∀ q, q < n → 1 ≤ F (q * 3 + 1) ∧ F (q * 3 + 1) ≤ 6 ∧ 0 ≤ F (q * 3 + 2) ∧ F (q * 3 + 2) ≤ F (q * 3 + 1) - 1 := by
  obtain ⟨h1, h2, h3, _⟩ := watch_iff.1 hw
  refine ⟨h1.1, h1.2, by omega, fun q hq => ?_⟩
  have := wrongR_no.1 (h3 q hq)
  omega
theorem days_facts {h : Int} {n : Nat} {F : Nat → Int} {m : Nat} {L : Nat → Nat} {G : Nat → Nat → Int} (hd : daysOk h n F m L G = true) : m ≤ 60 := by
  unfold daysOk at hd
  simp only [Bool.and_eq_true, decide_eq_true_eq] at hd
  omega
theorem now_span {h : Int} {n : Nat} {F : Nat → Int} (hw : watch h n F = true) : ∀ q, q < n → 0 ≤ nowS n F q ∧ nowS n F q ≤ 900000 := fun q hq => by
  have := (watch_facts hw).2.2.2 q hq
  unfold nowS
  rw [if_pos hq]
  omega
/-- What ricks have waited after days; nothing with an error. -/
def playedS (h : Int) (n : Nat) (F : Nat → Int) (m : Nat) (L : Nat → Nat) (G : Nat → Nat → Int) : Nat → Int := if bothE h n F m L G = 0 then st n F L G (nowS n F) m else fun _ => 0
def playedL (h : Int) (n : Nat) (F : Nat → Int) (m : Nat) (L : Nat → Nat) (G : Nat → Nat → Int) : List (Int × Int) := if bothE h n F m L G = 0 then hots n F L G (nowS n F) m else []
end Pure
def PlayedOut (h : Int) (n : Nat) (F : Nat → Int) (m : Nat) (L : Nat → Nat) (G : Nat → Nat → Int) (w : World) (e : Ending) (w' : World) : Prop :=
  ∃ a cap, e = .returned (.tuple #[waitV (Pure.playedS h n F m L G), .slice a (Pure.playedL h n F m L G).length cap, .int .i64 (Pure.bothE h n F m L G)]) ∧ OwnHeats w' w.heap.size a cap (Pure.playedL h n F m L G) ∧ Below w.heap.size w w'
def HotOut (h : Int) (n : Nat) (F : Nat → Int) (m : Nat) (L : Nat → Nat) (G : Nat → Nat → Int) (w : World) (e : Ending) (w' : World) : Prop :=
  ∃ a cap, e = .returned (.tuple #[.slice a (Pure.playedL h n F m L G).length cap, .int .i64 (Pure.bothE h n F m L G)]) ∧ OwnHeats w' w.heap.size a cap (Pure.playedL h n F m L G) ∧ Below w.heap.size w w'

set_option maxHeartbeats 4000000 in
set_option maxRecDepth 100000 in
theorem played_any (h : Int) (a : Option Addr) (n c : Nat) (F : Nat → Int) (s : Option Addr) (m mc : Nat) (L : Nat → Nat) (G : Nat → Nat → Int) (hn : n ≤ 40) (hm : m ≤ 1000000) (hL : ∀ j, j < m → L j ≤ 1000000) (w : World) (hF : NumsAt w a (n * 3) F) (hG : DaysAt w s m L G) :
    Calls Try.prog 17 #[watchV h a n c, .slice s m mc] w (PlayedOut h n F m L G w) := by
  obtain ⟨W, hW⟩ : ∃ W, (w.alloc (watchB h a n c)).alloc (waitB (fun _ => 0)) = W := ⟨_, rfl⟩
  have HB : Hid (Below w.heap.size w W) := Lib.hid (by rw [← hW]; exact (below_new _ _).alloc (by simp; try omega) _)
  have HX : Hid (W.heap[w.heap.size]? = some (watchB h a n c)) := Lib.hid (by rw [← hW]; exact heap_up (heap_top _ _ rfl) _)
  have HY : Hid (W.heap[w.heap.size + 1]? = some (waitB (fun _ => 0))) := Lib.hid (by rw [← hW]; exact heap_top _ _ (by simp))
  have HSZ : Hid (W.heap.size = w.heap.size + 2) := Lib.hid (by rw [← hW]; simp)
  have HF := Lib.hid (hF.below HB.out)
  have HG := Lib.hid (hG.below HB.out)
  have HL := Lib.hid hL
  clear hF hG hL
  have x0 := heap_cell HX.out (j := 0) rfl
  have x1 := heap_cell HX.out (j := 1) rfl
  go_enter Try.func17, Try.ntmps17
  go_upto_region 1 with fail
  try rw [hW]
  clear hW
  go_wp2_with fail
  refine (checkBoth_any h a n c F s m mc L G hn hm HL.out _ HF.out HG.out).mono ?_
  rintro e W1 ⟨rfl, hb⟩
  have HX1 := Lib.hid (heap_lft HX.out hb)
  have HY1 := Lib.hid (heap_lft HY.out hb)
  have HF1 := Lib.hid ((HF.out.below hb))
  have HG1 := Lib.hid ((HG.out.below hb))
  have HB1 := Lib.hid ((below_thn HB.out hb))
  have HSZ1 : Hid (w.heap.size + 2 ≤ W1.heap.size) := Lib.hid (by have := hb.size; have := HSZ.out; omega)
  clear hb x0 x1
  obtain ⟨q, hq⟩ : ∃ q, Pure.bothE h n F m L G = q := ⟨_, rfl⟩
  have HQ := Lib.hid hq
  rw [hq]
  clear hq
  by_cases h0 : q = 0
  · subst h0
    have hbz := Pure.both_zero HQ.out
    have hwf := Pure.watch_facts hbz.1
    have HWF := Lib.hid hwf
    have HWT := Lib.hid hbz.1
    have HMM := Lib.hid (Pure.days_facts hbz.2)
    clear hbz hwf
    have e1 : ((0 : Int) != 0) = false := rfl
    have x0 := heap_cell HX1.out (j := 0) rfl
    have x1 := heap_cell HX1.out (j := 1) rfl
    go_wp2_with fail
    refine (work_any h a n c HWF.out.2.2.1 HWF.out.1 HWF.out.2.1 _).mono ?_
    rintro e W2 ⟨B, l, ln, lc, rfl, hd, hb⟩
    have HY2 := Lib.hid (heap_lft HY1.out hb)
    have HF2 := Lib.hid ((HF1.out.below hb))
    have HG2 := Lib.hid ((HG1.out.below hb))
    have HB2 := Lib.hid ((below_thn HB1.out hb))
    have HD2 := Lib.hid hd
    have HSZ2 : Hid (w.heap.size + 2 ≤ W2.heap.size) := Lib.hid (by have := hb.size; have := HSZ1.out; omega)
    clear hb hd x0 x1
    go_wp2_with fail
    refine (now_any B h a n c l ln lc F HWF.out.2.2.1 _ HD2.out HF2.out).mono ?_
    rintro e W3 ⟨rfl, hb⟩
    have HY3 := Lib.hid (heap_lft HY2.out hb)
    have HF3 := Lib.hid ((HF2.out.below hb))
    have HG3 := Lib.hid ((HG2.out.below hb))
    have HB3 := Lib.hid ((below_thn HB2.out hb))
    have HD3 := Lib.hid (heap_lft HD2.out hb)
    have HSZ3 : Hid (w.heap.size + 2 ≤ W3.heap.size) := Lib.hid (by have := hb.size; have := HSZ2.out; omega)
    clear hb
    go_wp2_with fail
    refine (play_any B h a n c l ln lc F (Pure.nowS n F) s m mc L G HWF.out.2.2.1 HMM.out HL.out (Pure.now_span HWT.out) _ HD3.out HF3.out HG3.out).mono ?_
    rintro e W4 ⟨a', cap', rfl, ho, hb⟩
    have HY4 := Lib.hid (heap_lft HY3.out hb)
    have HB4 := Lib.hid ((below_thn HB3.out hb))
    have HO4 := Lib.hid ho
    clear hb ho
    have HPS : Hid (Pure.playedS h n F m L G = Pure.st n F L G (Pure.nowS n F) m) := Lib.hid (by unfold Pure.playedS; rw [if_pos HQ.out])
    have HPL : Hid (Pure.playedL h n F m L G = Pure.hots n F L G (Pure.nowS n F) m) := Lib.hid (by unfold Pure.playedL; rw [if_pos HQ.out])
    obtain ⟨S, hS⟩ : ∃ S, Pure.st n F L G (Pure.nowS n F) m = S := ⟨_, rfl⟩
    obtain ⟨l4, hl4⟩ : ∃ x, Pure.hots n F L G (Pure.nowS n F) m = x := ⟨_, rfl⟩
    rw [hS] at HPS ⊢
    rw [hl4] at HPL HO4 ⊢
    clear hS hl4
    obtain ⟨V, hV⟩ : ∃ V, W4.alloc (waitB S) = V := ⟨_, rfl⟩
    have hbv : Below W4.heap.size W4 V := by rw [← hV]; exact below_new _ _
    have HS5 : Hid (V.heap[W4.heap.size]? = some (waitB S)) := Lib.hid (by rw [← hV]; exact heap_top _ _ rfl)
    have HY5 := Lib.hid (heap_lft HY4.out hbv)
    have HB5 := Lib.hid (below_thn HB4.out hbv)
    have HO5 := Lib.hid (HO4.out.below hbv)
    clear hbv
    go_upto_region 6 with fail
    try rw [hV]
    clear hV
    have s0 := heap_cell HS5.out (j := 0) rfl
    have s1 := heap_cell HS5.out (j := 1) rfl
    have s2 := heap_cell HS5.out (j := 2) rfl
    have s3 := heap_cell HS5.out (j := 3) rfl
    have r0 := heap_cell HY5.out (j := 0) rfl
    have r1 := heap_cell HY5.out (j := 1) rfl
    have r2 := heap_cell HY5.out (j := 2) rfl
    have r3 := heap_cell HY5.out (j := 3) rfl
    have fr0 := heap_frozen HY5.out 0
    have fr1 := heap_frozen HY5.out 1
    have fr2 := heap_frozen HY5.out 2
    have fr3 := heap_frozen HY5.out 3
    go_wp2_with fail
    have hs3 := HSZ3.out
    refine bodyPost_ret (v := .tuple #[waitV S, .slice a' l4.length cap', .int .i64 0]) (by simp [results, Try.results17, go_sem, r0, r1, r2, r3]; try rfl) rfl ⟨a', cap', by rw [HPS.out, HPL.out, HQ.out], ?_, ?_⟩
    · rw [HPL.out]
      refine OwnHeats.base (base := W3.heap.size) ?_ (by omega)
      repeat (first | with_reducible exact HO5.out | with_reducible refine OwnHeats.set ?_ (by first | (simp; done) | (dsimp only; omega)) _)
    · repeat (first | with_reducible exact HB5.out | with_reducible refine Below.setCell ?_ (by first | (simp; done) | (dsimp only; omega)) _)
  · have e1 : (q != 0) = true := by simpa using h0
    have HQ0 := Lib.hid h0
    clear h0
    have r0 := heap_cell HY1.out (j := 0) rfl
    have r1 := heap_cell HY1.out (j := 1) rfl
    have r2 := heap_cell HY1.out (j := 2) rfl
    have r3 := heap_cell HY1.out (j := 3) rfl
    have fr0 := heap_frozen HY1.out 0
    have fr1 := heap_frozen HY1.out 1
    have fr2 := heap_frozen HY1.out 2
    have fr3 := heap_frozen HY1.out 3
    go_wp2_with fail
    have HPS : Pure.playedS h n F m L G = fun _ => 0 := by unfold Pure.playedS; rw [if_neg (by rw [HQ.out]; exact HQ0.out)]
    have HPL : Pure.playedL h n F m L G = [] := by unfold Pure.playedL; rw [if_neg (by rw [HQ.out]; exact HQ0.out)]
    refine bodyPost_ret (v := .tuple #[waitV (fun _ => 0), .slice none 0 0, .int .i64 q]) (by simp [results, Try.results17, go_sem, r0, r1, r2, r3]; try rfl) rfl ⟨none, 0, by rw [HPS, HPL, HQ.out]; rfl, by rw [HPL]; exact cells_nil _ _ _ _, ?_⟩
    repeat (first | with_reducible exact HB1.out | with_reducible refine Below.setCell ?_ (by first | (simp; done) | (dsimp only; omega)) _)

set_option maxHeartbeats 4000000 in
set_option maxRecDepth 100000 in
theorem hot_any (h : Int) (a : Option Addr) (n c : Nat) (F : Nat → Int) (s : Option Addr) (m mc : Nat) (L : Nat → Nat) (G : Nat → Nat → Int) (hn : n ≤ 40) (hm : m ≤ 1000000) (hL : ∀ j, j < m → L j ≤ 1000000) (w : World) (hF : NumsAt w a (n * 3) F) (hG : DaysAt w s m L G) :
    Calls Try.prog 8 #[watchV h a n c, .slice s m mc] w (HotOut h n F m L G w) := by
  obtain ⟨W, hW⟩ : ∃ W, w.alloc (watchB h a n c) = W := ⟨_, rfl⟩
  have HB : Hid (Below w.heap.size w W) := Lib.hid (by rw [← hW]; exact below_new _ _)
  have HX : Hid (W.heap[w.heap.size]? = some (watchB h a n c)) := Lib.hid (by rw [← hW]; exact heap_top _ _ rfl)
  have HSZ : Hid (W.heap.size = w.heap.size + 1) := Lib.hid (by rw [← hW]; simp)
  have HF := Lib.hid (hF.below HB.out)
  have HG := Lib.hid (hG.below HB.out)
  have HL := Lib.hid hL
  clear hF hG hL
  have x0 := heap_cell HX.out (j := 0) rfl
  have x1 := heap_cell HX.out (j := 1) rfl
  go_enter Try.func8, Try.ntmps8
  go_upto_region 1 with fail
  try rw [hW]
  clear hW
  go_wp2_with fail
  refine (played_any h a n c F s m mc L G hn hm HL.out _ HF.out HG.out).mono ?_
  rintro e W1 ⟨a', cap', rfl, ho, hb⟩
  have HB1 := Lib.hid ((below_thn HB.out hb))
  have HO1 := Lib.hid ho
  have hsz := HSZ.out
  clear hb ho x0 x1
  obtain ⟨S, hS⟩ : ∃ S, Pure.playedS h n F m L G = S := ⟨_, rfl⟩
  obtain ⟨l4, hl4⟩ : ∃ x, Pure.playedL h n F m L G = x := ⟨_, rfl⟩
  obtain ⟨q, hq⟩ : ∃ q, Pure.bothE h n F m L G = q := ⟨_, rfl⟩
  have HPL := Lib.hid hl4
  have HQ := Lib.hid hq
  rw [hl4] at HO1
  rw [hS, hl4, hq]
  clear hS hl4 hq hsz
  go_wp2_with fail
  go_ret2
  have hsz := HSZ.out
  exact ⟨a', cap', by rw [HPL.out, HQ.out]; rfl, by rw [HPL.out]; exact OwnHeats.base (HO1.out.below (below_new _ _)) (by omega), below_thn HB1.out (below_new _ _)⟩

theorem OwnNums.put {w : World} {base : Nat} {t : TypeId} {k : Nat} {g len cap : Nat} {F F' : Nat → Int} (h : OwnNums w base t k (some ⟨g, 0, none⟩) len cap F) {i : Nat} {z : Int} (hi : i < len * k) (hF : F' = fun q => if q = i then z else F q) : OwnNums (w.setCell ⟨g, i, none⟩ (.int .i64 z)) base t k (some ⟨g, 0, none⟩) len cap F' := by
  obtain ⟨h0, ⟨h1, _⟩ | ⟨g', cap', cur, he, hbase, hg, h2, h3, h4, h5⟩⟩ := h
  · cases h1
  · simp only [Value.slice.injEq, Option.some.injEq, Addr.mk.injEq] at he
    obtain ⟨⟨rfl, _⟩, _, rfl⟩ := he
    refine ⟨numsCells_length _ _, .inr ⟨g, cap, cur.setIfInBounds i (.int .i64 z), rfl, hbase, heap_set hg i _, h2, h3, by simpa using h4, ?_⟩⟩
    apply List.ext_getElem?
    intro j
    by_cases hj : j < len * k
    · rw [List.getElem?_take_of_lt hj, numsCells_get hj]
      have h6 := numsCells_get (F := F) hj
      rw [← h5, List.getElem?_take_of_lt hj] at h6
      have hcs : i < cur.size := by rw [h4]; exact Nat.lt_of_lt_of_le hi (Nat.mul_le_mul_right _ h2)
      subst hF
      by_cases e : j = i
      · subst e
        simp [hcs]
      · simp only [Array.toList_setIfInBounds, e, if_false]
        rw [List.getElem?_set_ne (Ne.symm e)]
        exact h6
    · rw [List.getElem?_eq_none (by simp; omega), List.getElem?_eq_none (by rw [numsCells_length]; omega)]
theorem OwnNums.at {w : World} {base : Nat} {t : TypeId} {k : Nat} {a : Option Addr} {len cap : Nat} {F : Nat → Int} (h : OwnNums w base t k a len cap F) (h0 : 0 < len) : ∃ g arr, a = some ⟨g, 0, none⟩ ∧ base ≤ g ∧ w.heap[g]? = some (.cells arr t) := by
  obtain ⟨_, ⟨_, h1⟩ | ⟨g', cap', cur, he, hbase, hg, _⟩⟩ := h
  · omega
  · simp only [Value.slice.injEq] at he
    obtain ⟨rfl, _⟩ := he
    exact ⟨g', cur, rfl, hbase, hg⟩

namespace Pure
def sinceF (F S : Nat → Int) : Nat → Int := fun q => if q % 3 = 2 then S (q / 3) else F q
def sinceK (F S : Nat → Int) (k : Nat) : Nat → Int := fun q => if q % 3 = 2 ∧ q / 3 < k then S (q / 3) else F q
theorem sinceK_next {F S : Nat → Int} {k : Nat} : sinceK F S (k + 1) = fun q => if q = k * 3 + 2 then S k else sinceK F S k q := by
  funext q
  unfold sinceK
  by_cases e : q = k * 3 + 2
  · subst e
    rw [if_pos rfl, if_pos ⟨by omega, by omega⟩]
    congr 1
    omega
  · rw [if_neg e]
    by_cases h : q % 3 = 2
    · have e2 : (q / 3 < k + 1) = (q / 3 < k) := by apply propext; omega
      simp only [h, true_and, e2]
    · simp only [h, false_and, if_false]
/-- The error of After. -/
def afterE (h : Int) (n : Nat) (F : Nat → Int) (m : Nat) (L : Nat → Nat) (G : Nat → Nat → Int) : Int := if bothE h n F m L G = 0 then err (playedL h n F m L G).isEmpty 73 else bothE h n F m L G
/-- What ricks have waited after days that are done so many times. -/
def it (n : Nat) (F : Nat → Int) (m : Nat) (L : Nat → Nat) (G : Nat → Nat → Int) (S : Nat → Int) : Nat → Nat → Int
  | 0 => S
  | p + 1 => st n F L G (it n F m L G S p) m
theorem st_bound (n : Nat) (F : Nat → Int) (L : Nat → Nat) (G : Nat → Nat → Int) (S : Nat → Int) (b : Int) (h : ∀ q, q < n → 0 ≤ S q ∧ S q ≤ b) : ∀ k q, q < n → 0 ≤ st n F L G S k q ∧ st n F L G S k q ≤ b + k
  | 0, q, hq => by have := h q hq; unfold st; omega
  | k + 1, q, hq => by
    have := st_bound n F L G S b h k q hq
    have h2 := h q hq
    unfold st turnedS
    rw [if_pos hq]
    split <;> omega
theorem it_span {h : Int} {n : Nat} {F : Nat → Int} {m : Nat} {L : Nat → Nat} {G : Nat → Nat → Int} (hw : watch h n F = true) (hm : m ≤ 60) : ∀ p, p ≤ 10 → ∀ q, q < n → 0 ≤ it n F m L G (nowS n F) p q ∧ it n F m L G (nowS n F) p q ≤ 5 + p * 60
  | 0, _, q, hq => by
    have := (watch_facts hw).2.2.2 q hq
    unfold it nowS
    rw [if_pos hq]
    omega
  | p + 1, hp, q, hq => by
    have := st_bound n F L G _ _ (it_span (L := L) (G := G) hw hm p (by omega)) m q hq
    unfold it
    omega
theorem it_span' {h : Int} {n : Nat} {F : Nat → Int} {m : Nat} {L : Nat → Nat} {G : Nat → Nat → Int} (hw : watch h n F = true) (hm : m ≤ 60) (p : Nat) (hp : p ≤ 10) (q : Nat) (hq : q < n) : 0 ≤ it n F m L G (nowS n F) p q ∧ it n F m L G (nowS n F) p q ≤ 900000 := by
  have := it_span (L := L) (G := G) hw hm p hp q hq
  omega
/-- Whether nothing becomes hot if days are done so many times. -/
def rep (n : Nat) (F : Nat → Int) (m : Nat) (L : Nat → Nat) (G : Nat → Nat → Int) (k : Nat) : Bool := decide (∀ p, p < k → (hots n F L G (it n F m L G (nowS n F) p) m).length = 0)
def repE (h : Int) (n : Nat) (F : Nat → Int) (m : Nat) (L : Nat → Nat) (G : Nat → Nat → Int) : Int := if bothE h n F m L G = 0 then err (decide (0 < m)) 72 else bothE h n F m L G
end Pure
def SinceOut (h : Int) (n : Nat) (F S : Nat → Int) (w : World) (e : Ending) (w' : World) : Prop :=
  ∃ a1 c1, e = .returned (watchV h a1 n c1) ∧ OwnNums w' w.heap.size 47 3 a1 n c1 (Pure.sinceF F S) ∧ Below w.heap.size w w'
def AfterOut (h : Int) (n : Nat) (F : Nat → Int) (m : Nat) (L : Nat → Nat) (G : Nat → Nat → Int) (w : World) (e : Ending) (w' : World) : Prop :=
  ∃ h1 a1 n1 c1, e = .returned (.tuple #[watchV h1 a1 n1 c1, .int .i64 (Pure.afterE h n F m L G)]) ∧ Below w.heap.size w w' ∧
    ((Pure.afterE h n F m L G = 0 ∧ h1 = h ∧ n1 = n ∧ n ≤ 4 ∧ OwnNums w' w.heap.size 47 3 a1 n1 c1 (Pure.sinceF F (Pure.playedS h n F m L G))) ∨ (Pure.afterE h n F m L G ≠ 0 ∧ h1 = 0 ∧ a1 = none ∧ n1 = 0 ∧ c1 = 0))
def RepeatsOut (k : Nat) (h : Int) (n : Nat) (F : Nat → Int) (m : Nat) (L : Nat → Nat) (G : Nat → Nat → Int) (w : World) (e : Ending) (w' : World) : Prop :=
  e = .returned (.tuple #[.bool (decide (Pure.repE h n F m L G = 0) && Pure.rep n F m L G k), .int .i64 (Pure.repE h n F m L G)]) ∧ Below w.heap.size w w'

set_option maxHeartbeats 4000000 in
set_option maxRecDepth 100000 in
theorem since_any (h : Int) (a : Option Addr) (n c : Nat) (F S : Nat → Int) (hn : n ≤ 4) (hnil : a = none → n = 0 ∧ c = 0) (w : World) (hF : NumsAt w a (n * 3) F) :
    Calls Try.prog 22 #[watchV h a n c, waitV S] w (SinceOut h n F S w) := by
  obtain ⟨W, hW⟩ : ∃ W, ((w.alloc (watchB h a n c)).alloc (waitB S)).alloc (watchB 0 none 0 0) = W := ⟨_, rfl⟩
  have HB : Hid (Below w.heap.size w W) := Lib.hid (by rw [← hW]; exact ((below_new _ _).alloc (by simp; try omega) _).alloc (by simp; try omega) _)
  have HX : Hid (W.heap[w.heap.size]? = some (watchB h a n c)) := Lib.hid (by rw [← hW]; exact heap_up (heap_up (heap_top _ _ rfl) _) _)
  have HY : Hid (W.heap[w.heap.size + 1]? = some (waitB S)) := Lib.hid (by rw [← hW]; exact heap_up (heap_top _ _ (by simp)) _)
  have HZ : Hid (W.heap[w.heap.size + 1 + 1]? = some (watchB 0 none 0 0)) := Lib.hid (by rw [← hW]; exact heap_top _ _ (by simp))
  have HSZ : Hid (W.heap.size = w.heap.size + 3) := Lib.hid (by rw [← hW]; simp)
  have HF := Lib.hid (hF.below HB.out)
  clear hF
  have x0 := heap_cell HX.out (j := 0) rfl
  have x1 := heap_cell HX.out (j := 1) rfl
  go_enter Try.func22, Try.ntmps22
  go_upto_region 1 with fail
  try rw [hW]
  clear hW
  go_wp2_with fail
  refine (copied_any h a n c F (by omega) hnil _ HF.out).mono ?_
  rintro e W1 ⟨a1, c1, rfl, ho, hb⟩
  clear x0 x1
  have HX1 := Lib.hid (heap_lft HX.out hb)
  have HY1 := Lib.hid (heap_lft HY.out hb)
  have HZ1 := Lib.hid (heap_lft HZ.out hb)
  have HB1 := Lib.hid ((below_thn HB.out hb))
  have HO1 := Lib.hid ho
  have HSZ1 : Hid (w.heap.size + 3 ≤ W1.heap.size) := Lib.hid (by have := hb.size; have := HSZ.out; omega)
  clear ho hb
  have x0 := heap_cell HX1.out (j := 0) rfl
  have x1 := heap_cell HX1.out (j := 1) rfl
  have fx0 := heap_frozen HX1.out 0
  have fx1 := heap_frozen HX1.out 1
  go_upto_region 2 with fail
  obtain ⟨Y, hY⟩ : ∃ Y, (W1.setCell ⟨w.heap.size, 0, none⟩ (.int .i64 h)).setCell ⟨w.heap.size, 1, none⟩ (.slice a1 n c1) = Y := ⟨_, rfl⟩
  have hsz := HSZ.out
  have HX2 : Hid (Y.heap[w.heap.size]? = some (watchB h a1 n c1)) := Lib.hid (by rw [← hY]; exact heap_set (heap_set HX1.out 0 _) 1 _)
  have HY2 : Hid (Y.heap[w.heap.size + 1]? = some (waitB S)) := Lib.hid (by rw [← hY]; exact (setCell_other (by simp)).trans ((setCell_other (by simp)).trans HY1.out))
  have HZ2 : Hid (Y.heap[w.heap.size + 1 + 1]? = some (watchB 0 none 0 0)) := Lib.hid (by rw [← hY]; exact (setCell_other (by dsimp only; omega)).trans ((setCell_other (by dsimp only; omega)).trans HZ1.out))
  have HB2 : Hid (Below w.heap.size w Y) := Lib.hid (by rw [← hY]; exact (HB1.out.setCell (Nat.le_refl _) _).setCell (Nat.le_refl _) _)
  have HO2 : Hid (OwnNums Y W.heap.size 47 3 a1 n c1 (Pure.sinceK F S 0)) := Lib.hid (by
    rw [← hY]
    refine ((HO1.out.set (by dsimp only; omega) _).set (by dsimp only; omega) _).congr (fun q hq => ?_)
    simp [Pure.sinceK])
  try rw [hY]
  clear hY hsz x0 x1 fx0 fx1
  have x1 := heap_cell HX2.out (j := 1) rfl
  go_wp2_with fail
  clear x1
  go_loopw [5, 11] (fun _ ix wr => ∃ k : Nat, k ≤ n ∧ ix = .int .i64 k ∧ OwnNums wr W.heap.size 47 3 a1 n c1 (Pure.sinceK F S k) ∧ wr.heap[w.heap.size]? = some (watchB h a1 n c1) ∧ wr.heap[w.heap.size + 1]? = some (waitB S) ∧ wr.heap[w.heap.size + 1 + 1]? = some (watchB 0 none 0 0) ∧ Below w.heap.size w wr) (fun _ ix _ => n - (intOf ix).toNat)
  case atStart => exact ⟨0, Nat.zero_le _, rfl, HO2.out, HX2.out, HY2.out, HZ2.out, HB2.out⟩
  case round =>
    clear HO2 HX2 HY2 HZ2 HB2 HO1 HX1 HY1 HZ1 HB1
    obtain ⟨k, hk, rfl, ho, hx, hy, hz, hb⟩ := hrel
    have HO := Lib.hid ho
    have HXr := Lib.hid hx
    have HYr := Lib.hid hy
    have HZr := Lib.hid hz
    have HBr := Lib.hid hb
    clear ho hx hy hz hb
    by_cases hk1 : k < n
    · have HK := Lib.hid hk1
      obtain ⟨g, arr, rfl, hg, hga⟩ := HO.out.at (by omega)
      have HG := Lib.hid hg
      have x1 := heap_cell HXr.out (j := 1) rfl
      have s1 := wait_cell HYr.out (show k < 4 by omega)
      have n1 : (k : Int) < 4 := by omega
      have n2 : (k : Int) < n := by omega
      have c2 := nums_row (w := wr) HO.out.nums (show k * 3 + 2 < n * 3 by omega)
      have f2 := heap_frozen hga (k * 3 + 2)
      simp only [Nat.zero_add] at c2
      clear hga hg
      go_upto_region 5 with fail
      go_region
      go_wp2_with fail
      have hsz := HSZ.out
      have hgg := HG.out
      go_roundw
      case rel => exact ⟨k + 1, HK.out, by go_num, (HO.out.put (by have := HK.out; omega) Pure.sinceK_next).below (Below.refl _ _).drew, (setCell_other (by dsimp only; omega)).trans HXr.out, (setCell_other (by dsimp only; omega)).trans HYr.out, (setCell_other (by dsimp only; omega)).trans HZr.out, (HBr.out.setCell (by dsimp only; omega) _).drew⟩
      case measure => have := HK.out; simp [intOf]; omega
    · obtain rfl : k = n := by omega
      have x0 := heap_cell HXr.out (j := 0) rfl
      have x1 := heap_cell HXr.out (j := 1) rfl
      have z0 := heap_cell HZr.out (j := 0) rfl
      have z1 := heap_cell HZr.out (j := 1) rfl
      have fz0 := heap_frozen HZr.out 0
      have fz1 := heap_frozen HZr.out 1
      go_wp2_with fail
      have hsz := HSZ.out
      refine bodyPost_ret (v := watchV h a1 k c1) (by simp [results, Try.results22, go_sem, z0, z1]; try rfl) rfl ⟨a1, c1, rfl, ?_, ?_⟩
      · have ho : OwnNums wr W.heap.size 47 3 a1 k c1 (Pure.sinceF F S) := HO.out.congr (fun q hq => by
          unfold Pure.sinceK Pure.sinceF
          have : q / 3 < k := by omega
          simp only [this, and_true])
        refine OwnNums.base (base := W.heap.size) ?_ (by omega)
        repeat (first | with_reducible exact ho | with_reducible refine OwnNums.set ?_ (by first | (simp; done) | (dsimp only; omega)) _)
      · repeat (first | with_reducible exact HBr.out | with_reducible refine Below.setCell ?_ (by first | (simp; done) | (dsimp only; omega)) _)

set_option maxHeartbeats 4000000 in
set_option maxRecDepth 100000 in
theorem after_any (h : Int) (a : Option Addr) (n c : Nat) (F : Nat → Int) (s : Option Addr) (m mc : Nat) (L : Nat → Nat) (G : Nat → Nat → Int) (hn : n ≤ 40) (hm : m ≤ 1000000) (hL : ∀ j, j < m → L j ≤ 1000000) (hnil : a = none → n = 0 ∧ c = 0) (w : World) (hF : NumsAt w a (n * 3) F) (hG : DaysAt w s m L G) :
    Calls Try.prog 10 #[watchV h a n c, .slice s m mc] w (AfterOut h n F m L G w) := by
  obtain ⟨W, hW⟩ : ∃ W, (w.alloc (watchB h a n c)).alloc (watchB 0 none 0 0) = W := ⟨_, rfl⟩
  have HB : Hid (Below w.heap.size w W) := Lib.hid (by rw [← hW]; exact (below_new _ _).alloc (by simp; try omega) _)
  have HX : Hid (W.heap[w.heap.size]? = some (watchB h a n c)) := Lib.hid (by rw [← hW]; exact heap_up (heap_top _ _ rfl) _)
  have HY : Hid (W.heap[w.heap.size + 1]? = some (watchB 0 none 0 0)) := Lib.hid (by rw [← hW]; exact heap_top _ _ (by simp))
  have HSZ : Hid (W.heap.size = w.heap.size + 2) := Lib.hid (by rw [← hW]; simp)
  have HF := Lib.hid (hF.below HB.out)
  have HG := Lib.hid (hG.below HB.out)
  have HL := Lib.hid hL
  clear hF hG hL
  have x0 := heap_cell HX.out (j := 0) rfl
  have x1 := heap_cell HX.out (j := 1) rfl
  go_enter Try.func10, Try.ntmps10
  go_upto_region 1 with fail
  try rw [hW]
  clear hW
  go_wp2_with fail
  refine (played_any h a n c F s m mc L G hn hm HL.out _ HF.out HG.out).mono ?_
  rintro e W1 ⟨a', cap', rfl, ho, hb⟩
  have HX1 := Lib.hid (heap_lft HX.out hb)
  have HY1 := Lib.hid (heap_lft HY.out hb)
  have HF1 := Lib.hid ((HF.out.below hb))
  have HB1 := Lib.hid ((below_thn HB.out hb))
  have HSZ1 : Hid (w.heap.size + 2 ≤ W1.heap.size) := Lib.hid (by have := hb.size; have := HSZ.out; omega)
  clear hb ho x0 x1
  obtain ⟨S, hS⟩ : ∃ S, Pure.playedS h n F m L G = S := ⟨_, rfl⟩
  obtain ⟨l4, hl4⟩ : ∃ x, Pure.playedL h n F m L G = x := ⟨_, rfl⟩
  obtain ⟨q, hq⟩ : ∃ q, Pure.bothE h n F m L G = q := ⟨_, rfl⟩
  have HPS := Lib.hid hS
  have HPL := Lib.hid hl4
  have HQ := Lib.hid hq
  rw [hS, hl4, hq]
  clear hS hl4 hq
  obtain ⟨V, hV⟩ : ∃ V, W1.alloc (waitB S) = V := ⟨_, rfl⟩
  have hb : Below W1.heap.size W1 V := by rw [← hV]; exact below_new _ _
  have HS2 : Hid (V.heap[W1.heap.size]? = some (waitB S)) := Lib.hid (by rw [← hV]; exact heap_top _ _ rfl)
  have HX2 := Lib.hid (heap_lft HX1.out hb)
  have HY2 := Lib.hid (heap_lft HY1.out hb)
  have HF2 := Lib.hid ((HF1.out.below hb))
  have HB2 := Lib.hid ((below_thn HB1.out hb))
  clear hb
  have HSV : Hid (V.heap.size = W1.heap.size + 1) := Lib.hid (by rw [← hV]; simp)
  have hem : ((l4.length : Int) == 0) = l4.isEmpty := by cases l4 with | nil => rfl | cons x r => simp; omega
  go_upto_region 2 with fail
  try rw [hV]
  clear hV
  obtain ⟨b, hbe⟩ : ∃ b, l4.isEmpty = b := ⟨_, rfl⟩
  rw [hbe] at hem
  have HBE := Lib.hid hbe
  clear hbe
  go_wp2_with fail
  refine (unless_any b 73 _).mono ?_
  rintro e _ ⟨rfl, rfl⟩
  obtain ⟨u, hu⟩ : ∃ u, Pure.err b 73 = u := ⟨_, rfl⟩
  have HU := Lib.hid hu
  rw [hu]
  clear hu hem
  go_wp2_with fail
  have k0 := cells_top V #[.int .i64 q, .int .i64 u] 31 rfl 0
  have k1 := cells_top V #[.int .i64 q, .int .i64 u] 31 rfl 1
  refine (firstError2 q u V.heap.size 2 _ (by first | exact k0 | simpa using k0) (by first | exact k1 | simpa using k1)).mono ?_
  rintro e V3 ⟨rfl, hb0⟩
  have hb := (below_new V (.cells #[.int .i64 q, .int .i64 u] 31)).trans (hb0.mono (by simp))
  have HS3 := Lib.hid (heap_lft HS2.out hb)
  have HX3 := Lib.hid (heap_lft HX2.out hb)
  have HY3 := Lib.hid (heap_lft HY2.out hb)
  have HF3 := Lib.hid ((HF2.out.below hb))
  have HB3 := Lib.hid ((below_thn HB2.out hb))
  have HSZ3 : Hid (w.heap.size + 3 ≤ V3.heap.size) := Lib.hid (by have := hb.size; have := HSV.out; have := HSZ1.out; omega)
  have HAE : Hid (Pure.afterE h n F m L G = if q = 0 then u else q) := Lib.hid (by unfold Pure.afterE; rw [HQ.out, HPL.out, HBE.out, HU.out])
  clear hb hb0 k0 k1
  obtain ⟨z, hz⟩ : ∃ z, (if q = 0 then u else q) = z := ⟨_, rfl⟩
  rw [hz] at HAE ⊢
  have HZE := Lib.hid hz
  clear hz
  by_cases h0 : z = 0
  · subst h0
    have hq0 : q = 0 := by
      have h1 := HZE.out
      by_cases e : q = 0
      · exact e
      · rw [if_neg e] at h1; exact h1
    have hwf := Pure.watch_facts (Pure.both_zero (HQ.out.trans hq0)).1
    have HWF := Lib.hid hwf
    have e1 : ((0 : Int) != 0) = false := rfl
    clear hq0 hwf
    have x0 := heap_cell HX3.out (j := 0) rfl
    have x1 := heap_cell HX3.out (j := 1) rfl
    have s0 := heap_cell HS3.out (j := 0) rfl
    have s1 := heap_cell HS3.out (j := 1) rfl
    have s2 := heap_cell HS3.out (j := 2) rfl
    have s3 := heap_cell HS3.out (j := 3) rfl
    go_wp2_with fail
    refine (since_any h a n c F S HWF.out.2.2.1 hnil _ HF3.out).mono ?_
    rintro e V4 ⟨a1, c1, rfl, ho, hb⟩
    have HY4 := Lib.hid (heap_lft HY3.out hb)
    have HB4 := Lib.hid ((below_thn HB3.out hb))
    have HO4 := Lib.hid ho
    clear ho hb x0 x1 s0 s1 s2 s3
    have y0 := heap_cell HY4.out (j := 0) rfl
    have y1 := heap_cell HY4.out (j := 1) rfl
    have fy0 := heap_frozen HY4.out 0
    have fy1 := heap_frozen HY4.out 1
    go_wp2_with fail
    have hsz := HSZ3.out
    refine bodyPost_ret (v := .tuple #[watchV h a1 n c1, .int .i64 0]) (by simp [results, Try.results10, go_sem, y0, y1]; try rfl) rfl ⟨h, a1, n, c1, by rw [HAE.out], ?_, .inl ⟨HAE.out, rfl, rfl, HWF.out.2.2.1, ?_⟩⟩
    · repeat (first | with_reducible exact HB4.out | with_reducible refine Below.setCell ?_ (by first | (simp; done) | (dsimp only; omega)) _)
    · rw [HPS.out]
      refine OwnNums.base (base := V3.heap.size) ?_ (by omega)
      repeat (first | with_reducible exact HO4.out | with_reducible refine OwnNums.set ?_ (by first | (simp; done) | (dsimp only; omega)) _)
  · have e1 : (z != 0) = true := by simpa using h0
    have H0 := Lib.hid h0
    clear h0
    have y0 := heap_cell HY3.out (j := 0) rfl
    have y1 := heap_cell HY3.out (j := 1) rfl
    have fy0 := heap_frozen HY3.out 0
    have fy1 := heap_frozen HY3.out 1
    go_wp2_with fail
    refine bodyPost_ret (v := .tuple #[watchV 0 none 0 0, .int .i64 z]) (by simp [results, Try.results10, go_sem, y0, y1]; try rfl) rfl ⟨0, none, 0, 0, by rw [HAE.out], ?_, .inr ⟨by rw [HAE.out]; exact H0.out, rfl, rfl, rfl, rfl⟩⟩
    repeat (first | with_reducible exact HB3.out | with_reducible refine Below.setCell ?_ (by first | (simp; done) | (dsimp only; omega)) _)

set_option maxHeartbeats 4000000 in
set_option maxRecDepth 100000 in
theorem repeats_any (B : Nat) (h : Int) (a : Option Addr) (n c : Nat) (l : Option Addr) (ln lc : Nat) (F : Nat → Int) (s : Option Addr) (m mc : Nat) (L : Nat → Nat) (G : Nat → Nat → Int) (hwt : Pure.watch h n F = true) (hm : m ≤ 60) (hL : ∀ j, j < m → L j ≤ 1000000) (w : World) (hX : w.heap[B]? = some (dayB h a n c l ln lc)) (hF : NumsAt w a (n * 3) F) (hG : DaysAt w s m L G) :
    Calls Try.prog 25 #[.pointer (some ⟨B, 0, none⟩), .slice s m mc] w fun e w' => e = .returned (.bool (Pure.rep n F m L G 6)) ∧ Below w.heap.size w w' := by
  have hn := (Pure.watch_facts hwt).2.2.1
  have HX := Lib.hid hX
  have HF := Lib.hid hF
  have HG := Lib.hid hG
  have HL := Lib.hid hL
  have HWT := Lib.hid hwt
  clear hX hF hG hL hwt
  go_enter Try.func25, Try.ntmps25
  go_wp2_with fail
  refine (now_any B h a n c l ln lc F hn _ HX.out HF.out).mono ?_
  rintro e W1 ⟨rfl, hb⟩
  obtain ⟨W, hW⟩ : ∃ W, W1.alloc (waitB (Pure.nowS n F)) = W := ⟨_, rfl⟩
  have hbw : Below W1.heap.size W1 W := by rw [← hW]; exact below_new _ _
  have HS : Hid (W.heap[W1.heap.size]? = some (waitB (Pure.nowS n F))) := Lib.hid (by rw [← hW]; exact heap_top _ _ rfl)
  have HB : Hid (Below w.heap.size w W) := Lib.hid (hb.trans (hbw.mono hb.size))
  have HSZ : Hid (w.heap.size ≤ W1.heap.size) := Lib.hid hb.size
  clear hb hbw
  go_upto_region 2 with fail
  try rw [hW]
  clear hW
  go_wp2_with fail
  go_loopw [6, 7, 10] (fun _ _ ix wr => ∃ k : Nat, k ≤ 6 ∧ ix = .int .i64 k ∧ (∀ p, p < k → (Pure.hots n F L G (Pure.it n F m L G (Pure.nowS n F) p) m).length = 0) ∧ wr.heap[W1.heap.size]? = some (waitB (Pure.it n F m L G (Pure.nowS n F) k)) ∧ Below w.heap.size w wr) (fun _ _ ix _ => 6 - (intOf ix).toNat)
  case atStart => exact ⟨0, by omega, rfl, fun p hp => by omega, HS.out, HB.out⟩
  case round =>
    obtain ⟨k, hk, rfl, hq, hs, hb⟩ := hrel
    have HQ := Lib.hid hq
    have HSr := Lib.hid hs
    have HBr := Lib.hid hb
    have HKK := Lib.hid hk
    clear hq hs hb
    by_cases hk1 : k < 6
    · have HK := Lib.hid hk1
      have n1 : (k : Int) < 6 := by omega
      obtain ⟨S, hS⟩ : ∃ S, Pure.it n F m L G (Pure.nowS n F) k = S := ⟨_, rfl⟩
      have HIS := Lib.hid hS
      have HSP : Hid (∀ q, q < n → 0 ≤ S q ∧ S q ≤ 900000) := Lib.hid (fun q hq => by rw [← hS]; exact Pure.it_span' HWT.out hm k (by omega) q hq)
      rw [hS] at HSr
      clear hS hk1
      have s0 := heap_cell HSr.out (j := 0) rfl
      have s1 := heap_cell HSr.out (j := 1) rfl
      have s2 := heap_cell HSr.out (j := 2) rfl
      have s3 := heap_cell HSr.out (j := 3) rfl
      go_wp2_with fail
      refine (play_any B h a n c l ln lc F S s m mc L G hn hm HL.out HSP.out _ (heap_lft HX.out HBr.out) (HF.out.below HBr.out) (HG.out.below HBr.out)).mono ?_
      rintro e W4 ⟨a', cap', rfl, ho, hb⟩
      obtain ⟨S', hS'⟩ : ∃ S', Pure.st n F L G S m = S' := ⟨_, rfl⟩
      obtain ⟨l4, hl4⟩ : ∃ x, Pure.hots n F L G S m = x := ⟨_, rfl⟩
      rw [hS', hl4]
      have HIN : Hid (Pure.it n F m L G (Pure.nowS n F) (k + 1) = S') := Lib.hid (by rw [Pure.it, HIS.out, hS'])
      have HL4 : Hid (Pure.hots n F L G (Pure.it n F m L G (Pure.nowS n F) k) m = l4) := Lib.hid (by rw [HIS.out, hl4])
      have HS4 := Lib.hid (heap_lft HSr.out hb)
      have HB4 := Lib.hid (below_thn HBr.out hb)
      clear s0 s1 s2 s3 hS' hl4 ho hb
      obtain ⟨V, hV⟩ : ∃ V, W4.alloc (waitB S') = V := ⟨_, rfl⟩
      have hbv : Below W4.heap.size W4 V := by rw [← hV]; exact below_new _ _
      have HV : Hid (V.heap[W4.heap.size]? = some (waitB S')) := Lib.hid (by rw [← hV]; exact heap_top _ _ rfl)
      have HS5 := Lib.hid (heap_lft HS4.out hbv)
      have HB5 := Lib.hid (below_thn HB4.out hbv)
      clear hbv
      by_cases h0 : l4.length = 0
      · have e1 : ¬ (0 : Int) < (l4.length : Int) := by omega
        have H0 := Lib.hid h0
        clear h0
        go_upto_region 5 with fail
        try rw [hV]
        clear hV
        have v0 := heap_cell HV.out (j := 0) rfl
        have v1 := heap_cell HV.out (j := 1) rfl
        have v2 := heap_cell HV.out (j := 2) rfl
        have v3 := heap_cell HV.out (j := 3) rfl
        have s0 := heap_cell HS5.out (j := 0) rfl
        have s1 := heap_cell HS5.out (j := 1) rfl
        have s2 := heap_cell HS5.out (j := 2) rfl
        have s3 := heap_cell HS5.out (j := 3) rfl
        have fs0 := heap_frozen HS5.out 0
        have fs1 := heap_frozen HS5.out 1
        have fs2 := heap_frozen HS5.out 2
        have fs3 := heap_frozen HS5.out 3
        go_wp2_with fail
        have hsz := HSZ.out
        go_roundw
        case rel => exact ⟨k + 1, HK.out, by go_num, fun p hp => by
          by_cases e : p = k
          · subst e; rw [HL4.out]; exact H0.out
          · exact HQ.out p (by omega), by rw [HIN.out]; exact heap_set (heap_set (heap_set (heap_set HS5.out 0 _) 1 _) 2 _) 3 _, (((HB5.out.setCell (by dsimp only; omega) _).setCell (by dsimp only; omega) _).setCell (by dsimp only; omega) _).setCell (by dsimp only; omega) _⟩
        case measure => have := HK.out; simp [intOf]; omega
      · have e1 : (0 : Int) < (l4.length : Int) := by omega
        have H0 := Lib.hid h0
        clear h0
        go_upto_region 5 with fail
        try rw [hV]
        clear hV
        go_wp2_with fail
        go_ret
        exact ⟨ret_bool (decide_eq_false (fun g => H0.out (by have := g k HK.out; rw [HL4.out] at this; exact this))).symm, HB5.out⟩
    · obtain rfl : k = 6 := by omega
      go_wp2_with fail
      go_ret
      exact ⟨ret_bool (decide_eq_true HQ.out).symm, HBr.out⟩

set_option maxHeartbeats 4000000 in
set_option maxRecDepth 100000 in
theorem repeatsTop_any (h : Int) (a : Option Addr) (n c : Nat) (F : Nat → Int) (s : Option Addr) (m mc : Nat) (L : Nat → Nat) (G : Nat → Nat → Int) (hn : n ≤ 40) (hm : m ≤ 1000000) (hL : ∀ j, j < m → L j ≤ 1000000) (w : World) (hF : NumsAt w a (n * 3) F) (hG : DaysAt w s m L G) :
    Calls Try.prog 12 #[watchV h a n c, .slice s m mc] w (RepeatsOut 6 h n F m L G w) := by
  obtain ⟨W, hW⟩ : ∃ W, w.alloc (watchB h a n c) = W := ⟨_, rfl⟩
  have HB : Hid (Below w.heap.size w W) := Lib.hid (by rw [← hW]; exact below_new _ _)
  have HX : Hid (W.heap[w.heap.size]? = some (watchB h a n c)) := Lib.hid (by rw [← hW]; exact heap_top _ _ rfl)
  have HSZ : Hid (W.heap.size = w.heap.size + 1) := Lib.hid (by rw [← hW]; simp)
  have HF := Lib.hid (hF.below HB.out)
  have HG := Lib.hid (hG.below HB.out)
  have HL := Lib.hid hL
  clear hF hG hL
  have x0 := heap_cell HX.out (j := 0) rfl
  have x1 := heap_cell HX.out (j := 1) rfl
  go_enter Try.func12, Try.ntmps12
  go_upto_region 1 with fail
  try rw [hW]
  clear hW
  go_wp2_with fail
  refine (checkBoth_any h a n c F s m mc L G hn hm HL.out _ HF.out HG.out).mono ?_
  rintro e W1 ⟨rfl, hb⟩
  have HX1 := Lib.hid (heap_lft HX.out hb)
  have HF1 := Lib.hid ((HF.out.below hb))
  have HG1 := Lib.hid ((HG.out.below hb))
  have HB1 := Lib.hid ((below_thn HB.out hb))
  clear hb x0 x1
  obtain ⟨q, hq⟩ : ∃ q, Pure.bothE h n F m L G = q := ⟨_, rfl⟩
  have HQ := Lib.hid hq
  rw [hq]
  clear hq
  obtain ⟨b, hbe⟩ : ∃ b, decide (0 < m) = b := ⟨_, rfl⟩
  have HBE := Lib.hid hbe
  clear hbe
  go_wp2_with fail
  rw [HBE.out]
  refine (unless_any b 72 _).mono ?_
  rintro e _ ⟨rfl, rfl⟩
  obtain ⟨u, hu⟩ : ∃ u, Pure.err b 72 = u := ⟨_, rfl⟩
  have HU := Lib.hid hu
  rw [hu]
  clear hu
  go_wp2_with fail
  have k0 := cells_top W1 #[.int .i64 q, .int .i64 u] 31 rfl 0
  have k1 := cells_top W1 #[.int .i64 q, .int .i64 u] 31 rfl 1
  refine (firstError2 q u W1.heap.size 2 _ (by first | exact k0 | simpa using k0) (by first | exact k1 | simpa using k1)).mono ?_
  rintro e V3 ⟨rfl, hb0⟩
  have hb := (below_new W1 (.cells #[.int .i64 q, .int .i64 u] 31)).trans (hb0.mono (by simp))
  have HX3 := Lib.hid (heap_lft HX1.out hb)
  have HF3 := Lib.hid ((HF1.out.below hb))
  have HG3 := Lib.hid ((HG1.out.below hb))
  have HB3 := Lib.hid ((below_thn HB1.out hb))
  have HAE : Hid (Pure.repE h n F m L G = if q = 0 then u else q) := Lib.hid (by unfold Pure.repE; rw [HQ.out, HBE.out, HU.out])
  clear hb hb0 k0 k1
  obtain ⟨z, hz⟩ : ∃ z, (if q = 0 then u else q) = z := ⟨_, rfl⟩
  rw [hz] at HAE ⊢
  have HZE := Lib.hid hz
  clear hz
  by_cases h0 : z = 0
  · subst h0
    have hq0 : q = 0 := by
      have h1 := HZE.out
      by_cases e : q = 0
      · exact e
      · rw [if_neg e] at h1; exact h1
    have hbz := Pure.both_zero (HQ.out.trans hq0)
    have hwf := Pure.watch_facts hbz.1
    have HWF := Lib.hid hwf
    have HWT := Lib.hid hbz.1
    have HMM := Lib.hid (Pure.days_facts hbz.2)
    have e1 : ((0 : Int) != 0) = false := rfl
    clear hq0 hwf hbz
    have x0 := heap_cell HX3.out (j := 0) rfl
    have x1 := heap_cell HX3.out (j := 1) rfl
    go_wp2_with fail
    refine (work_any h a n c HWF.out.2.2.1 HWF.out.1 HWF.out.2.1 _).mono ?_
    rintro e W4 ⟨B, l, ln, lc, rfl, hd, hb⟩
    have HF4 := Lib.hid ((HF3.out.below hb))
    have HG4 := Lib.hid ((HG3.out.below hb))
    have HB4 := Lib.hid ((below_thn HB3.out hb))
    have HD4 := Lib.hid hd
    clear hd hb x0 x1
    go_wp2_with fail
    refine (repeats_any B h a n c l ln lc F s m mc L G HWT.out HMM.out HL.out _ HD4.out HF4.out HG4.out).mono ?_
    rintro e W5 ⟨rfl, hb⟩
    have HB5 := Lib.hid (below_thn HB4.out hb)
    clear hb
    obtain ⟨r, hr⟩ : ∃ r, Pure.rep n F m L G 6 = r := ⟨_, rfl⟩
    rw [hr]
    have HR := Lib.hid hr
    clear hr
    go_wp2_with fail
    go_ret2
    exact ⟨by rw [HAE.out, HR.out]; rfl, HB5.out⟩
  · have e1 : (z != 0) = true := by simpa using h0
    have H0 := Lib.hid h0
    clear h0
    go_wp2_with fail
    go_ret2
    exact ⟨by rw [HAE.out, decide_eq_false H0.out]; rfl, HB3.out⟩


end Go.Proofs.Yteoakchcomodgaa
