/-
  The contracts of the specification's Hot, After and Repeats.
-/
import Derived.Test.YteoakchcomodgaaWRPlay
namespace Go.Proofs.Yteoakchcomodgaa
open Go.RowKit

theorem Pure.since_now {n : Nat} {F : Nat → Int} : ∀ q, q < n * 3 → F q = Pure.sinceF F (Pure.nowS n F) q := fun q hq => by
  unfold Pure.sinceF Pure.nowS
  split
  · rw [if_pos (by omega)]
    congr 1
    omega
  · rfl
theorem NumsAt.congr {w : World} {a : Option Addr} {len : Nat} {F G : Nat → Int} (h : NumsAt w a len F) (hFG : ∀ q, q < len → F q = G q) : NumsAt w a len G := fun j hj => by
  obtain ⟨b, off, h0, h1⟩ := h j hj
  exact ⟨b, off, h0, by rw [← hFG j hj]; exact h1⟩
def RAfterOut (h : Int) (n : Nat) (F : Nat → Int) (m : Nat) (L : Nat → Nat) (G : Nat → Nat → Int) (w : World) (e : Ending) (w' : World) : Prop :=
  ∃ h1 a1 n1 c1, e = .returned (.tuple #[watchV h1 a1 n1 c1, .int .i64 (Pure.afterE h n F m L G)]) ∧ Below w.heap.size w w' ∧
    ((Pure.afterE h n F m L G = 0 ∧ h1 = h ∧ n1 = n ∧ n ≤ 4 ∧ NumsAt w' a1 (n1 * 3) (Pure.sinceF F (Pure.playedS h n F m L G))) ∨ (Pure.afterE h n F m L G ≠ 0 ∧ h1 = 0 ∧ a1 = none ∧ n1 = 0 ∧ c1 = 0))

set_option maxHeartbeats 8000000 in
set_option maxRecDepth 100000 in
theorem rHot_any (h : Int) (a : Option Addr) (n c : Nat) (F : Nat → Int) (s : Option Addr) (m mc : Nat) (L : Nat → Nat) (G : Nat → Nat → Int) (hn : n ≤ 40) (hm : m ≤ 1000000) (hL : ∀ j, j < m → L j ≤ 1000000) (w : World) (hF : NumsAt w a (n * 3) F) (hG : DaysAt w s m L G) :
    Calls Try.prog 9 #[watchV h a n c, .slice s m mc] w (HotOut h n F m L G w) := by
  obtain ⟨W, hW⟩ : ∃ W, w.alloc (watchB h a n c) = W := ⟨_, rfl⟩
  have HB : Hid (Below w.heap.size w W) := Lib.hid (by rw [← hW]; exact below_new _ _)
  have HX : Hid (W.heap[w.heap.size]? = some (watchB h a n c)) := Lib.hid (by rw [← hW]; exact heap_top _ _ rfl)
  have HSZ : Hid (W.heap.size = w.heap.size + 1) := Lib.hid (by rw [← hW]; simp)
  have HF := Lib.hid (hF.below HB.out)
  have HG := Lib.hid (hG.below HB.out)
  have HL := Lib.hid hL
  have HBK : Hid (∀ x, 0 < n * 3 → a = some x → x.block < w.heap.size) := Lib.hid (fun x h0 hx => by
    obtain ⟨b, off, h1, h2⟩ := hF 0 h0
    rw [hx] at h1
    cases h1
    exact World.block_lt_of_cell? w _ h2)
  clear hF hG hL
  have x0 := heap_cell HX.out (j := 0) rfl
  have x1 := heap_cell HX.out (j := 1) rfl
  go_enter Try.func9, Try.ntmps9
  go_upto_region 1 with fail
  try rw [hW]
  clear hW
  go_wp2_with fail
  refine (rAsked_any h a n c F s m mc L G hn hm HL.out _ HF.out HG.out).mono ?_
  rintro e W1 ⟨rfl, hb⟩
  have HX1 := Lib.hid (heap_lft HX.out hb)
  have HF1 := Lib.hid ((HF.out.below hb))
  have HG1 := Lib.hid ((HG.out.below hb))
  have HB1 := Lib.hid ((below_thn HB.out hb))
  have HSZ1 : Hid (w.heap.size + 1 ≤ W1.heap.size) := Lib.hid (by have := hb.size; have := HSZ.out; omega)
  clear hb x0 x1
  obtain ⟨q, hq⟩ : ∃ q, Pure.bothE h n F m L G = q := ⟨_, rfl⟩
  have HQ := Lib.hid hq
  rw [hq]
  clear hq
  by_cases h0 : q = 0
  · subst h0
    have hbz := Pure.both_zero HQ.out
    have hwf := Pure.watch_facts hbz.1
    have HWF := Lib.hid hwf
    have HWT := Lib.hid hbz.1
    have HMM := Lib.hid (Pure.days_facts hbz.2)
    clear hbz hwf
    have e1 : ((0 : Int) != 0) = false := rfl
    have x0 := heap_cell HX1.out (j := 0) rfl
    have x1 := heap_cell HX1.out (j := 1) rfl
    go_wp2_with fail
    refine (rPlayed_any h a n c F (Pure.nowS n F) s m mc L G HWF.out.2.2.1 HMM.out HL.out (Pure.now_span HWT.out) _ (HF1.out.congr Pure.since_now) HG1.out).mono ?_
    rintro e W2 ⟨a1, c1, ha, hc, rfl, hna, hnil, ho, hb⟩
    have HB2 := Lib.hid ((below_thn HB1.out hb))
    have HO2 := Lib.hid ho
    have HPL : Hid (Pure.playedL h n F m L G = Pure.hots n F L G (Pure.nowS n F) m) := Lib.hid (by unfold Pure.playedL; rw [if_pos HQ.out])
    obtain ⟨l4, hl4⟩ : ∃ x, Pure.hots n F L G (Pure.nowS n F) m = x := ⟨_, rfl⟩
    rw [hl4] at HPL HO2 ⊢
    clear hl4 hna hnil ho hb x0 x1
    go_wp2_with fail
    go_ret2
    have hsz := HSZ1.out
    exact ⟨ha, hc, by rw [HPL.out, HQ.out]; rfl, by rw [HPL.out]; exact OwnHeats.base (HO2.out.below (below_new _ _)) (by omega), below_thn HB2.out (below_new _ _)⟩
  · have e1 : (q != 0) = true := by simpa using h0
    have HQ0 := Lib.hid h0
    clear h0
    go_wp2_with fail
    go_ret2
    have HPL : Pure.playedL h n F m L G = [] := by unfold Pure.playedL; rw [if_neg (by rw [HQ.out]; exact HQ0.out)]
    exact ⟨none, 0, by rw [HPL, HQ.out]; rfl, by rw [HPL]; exact cells_nil _ _ _ _, HB1.out⟩

set_option maxHeartbeats 8000000 in
set_option maxRecDepth 100000 in
theorem rAfter_any (h : Int) (a : Option Addr) (n c : Nat) (F : Nat → Int) (s : Option Addr) (m mc : Nat) (L : Nat → Nat) (G : Nat → Nat → Int) (hn : n ≤ 40) (hm : m ≤ 1000000) (hL : ∀ j, j < m → L j ≤ 1000000) (hnil : a = none → n = 0) (w : World) (hF : NumsAt w a (n * 3) F) (hG : DaysAt w s m L G) :
    Calls Try.prog 11 #[watchV h a n c, .slice s m mc] w (RAfterOut h n F m L G w) := by
  obtain ⟨W, hW⟩ : ∃ W, (w.alloc (watchB h a n c)).alloc (watchB 0 none 0 0) = W := ⟨_, rfl⟩
  have HB : Hid (Below w.heap.size w W) := Lib.hid (by rw [← hW]; exact (below_new _ _).alloc (by simp; try omega) _)
  have HX : Hid (W.heap[w.heap.size]? = some (watchB h a n c)) := Lib.hid (by rw [← hW]; exact heap_up (heap_top _ _ rfl) _)
  have HY : Hid (W.heap[w.heap.size + 1]? = some (watchB 0 none 0 0)) := Lib.hid (by rw [← hW]; exact heap_top _ _ (by simp))
  have HSZ : Hid (W.heap.size = w.heap.size + 2) := Lib.hid (by rw [← hW]; simp)
  have HF := Lib.hid (hF.below HB.out)
  have HG := Lib.hid (hG.below HB.out)
  have HL := Lib.hid hL
  have HBK : Hid (∀ x, 0 < n * 3 → a = some x → x.block < w.heap.size) := Lib.hid (fun x h0 hx => by
    obtain ⟨b, off, h1, h2⟩ := hF 0 h0
    rw [hx] at h1
    cases h1
    exact World.block_lt_of_cell? w _ h2)
  clear hF hG hL
  have x0 := heap_cell HX.out (j := 0) rfl
  have x1 := heap_cell HX.out (j := 1) rfl
  go_enter Try.func11, Try.ntmps11
  go_upto_region 1 with fail
  try rw [hW]
  clear hW
  go_wp2_with fail
  refine (rAsked_any h a n c F s m mc L G hn hm HL.out _ HF.out HG.out).mono ?_
  rintro e W1 ⟨rfl, hb⟩
  have HX1 := Lib.hid (heap_lft HX.out hb)
  have HY1 := Lib.hid (heap_lft HY.out hb)
  have HF1 := Lib.hid ((HF.out.below hb))
  have HG1 := Lib.hid ((HG.out.below hb))
  have HB1 := Lib.hid ((below_thn HB.out hb))
  have HSZ1 : Hid (w.heap.size + 2 ≤ W1.heap.size) := Lib.hid (by have := hb.size; have := HSZ.out; omega)
  clear hb x0 x1
  obtain ⟨q, hq⟩ : ∃ q, Pure.bothE h n F m L G = q := ⟨_, rfl⟩
  have HQ := Lib.hid hq
  rw [hq]
  clear hq
  by_cases h0 : q = 0
  · subst h0
    have hbz := Pure.both_zero HQ.out
    have hwf := Pure.watch_facts hbz.1
    have HWF := Lib.hid hwf
    have HWT := Lib.hid hbz.1
    have HMM := Lib.hid (Pure.days_facts hbz.2)
    clear hbz hwf
    have e1 : ((0 : Int) != 0) = false := rfl
    have x0 := heap_cell HX1.out (j := 0) rfl
    have x1 := heap_cell HX1.out (j := 1) rfl
    go_wp2_with fail
    refine (twin_any h a n c F hn hnil _ HF1.out).mono ?_
    rintro e V ⟨av, cv, rfl, hov, hb⟩
    have HXv := Lib.hid (heap_lft HX1.out hb)
    have HYv := Lib.hid (heap_lft HY1.out hb)
    have HGv := Lib.hid ((HG1.out.below hb))
    have HBv := Lib.hid ((below_thn HB1.out hb))
    have HOV := Lib.hid hov
    have HSZV : Hid (w.heap.size + 2 ≤ V.heap.size) := Lib.hid (by have := hb.size; have := HSZ1.out; omega)
    clear hov hb x0 x1
    go_wp2_with fail
    refine (rPlayed_any h av n cv F (Pure.nowS n F) s m mc L G HWF.out.2.2.1 HMM.out HL.out (Pure.now_span HWT.out) _ (HOV.out.nums.congr Pure.since_now) HGv.out).mono ?_
    rintro e W2 ⟨a1, c1, ha, hc, rfl, hna, hnw, _, hb⟩
    have HY2 := Lib.hid (heap_lft HYv.out hb)
    have HB2 := Lib.hid ((below_thn HBv.out hb))
    have HN2 := Lib.hid hna
    have HCL2 : Hid (∀ x, 0 < n * 3 → a1 = some x → x.block ≠ w.heap.size + 1) := Lib.hid (fun x h0 hx => by
      rcases hnw x h0 hx with g | g
      · have h1 := (HOV.out.lt x g).1
        have h2 := HSZ1.out
        omega
      · have h2 := HSZV.out
        omega)
    clear hnw
    have HPL : Hid (Pure.playedL h n F m L G = Pure.hots n F L G (Pure.nowS n F) m) := Lib.hid (by unfold Pure.playedL; rw [if_pos HQ.out])
    have HPS : Hid (Pure.playedS h n F m L G = Pure.st n F L G (Pure.nowS n F) m) := Lib.hid (by unfold Pure.playedS; rw [if_pos HQ.out])
    obtain ⟨l4, hl4⟩ : ∃ x, Pure.hots n F L G (Pure.nowS n F) m = x := ⟨_, rfl⟩
    rw [hl4] at HPL ⊢
    rw [← HPS.out] at HN2
    clear hl4 hna hb
    obtain ⟨U, hU⟩ : ∃ U, W2.alloc (watchB h a1 n c1) = U := ⟨_, rfl⟩
    have hb : Below W2.heap.size W2 U := by rw [← hU]; exact below_new _ _
    have HTU : Hid (U.heap[W2.heap.size]? = some (watchB h a1 n c1)) := Lib.hid (by rw [← hU]; exact heap_top _ _ rfl)
    have HY3 := Lib.hid (heap_lft HY2.out hb)
    have HB3 := Lib.hid ((below_thn HB2.out hb))
    have HN3 := Lib.hid (HN2.out.below hb)
    clear hb
    have HSU : Hid (w.heap.size + 2 ≤ W2.heap.size) := Lib.hid (by have h1 := HSZV.out; have h2 := HB2.out.size; have h3 := (Array.getElem?_eq_some_iff.1 HY2.out).1; omega)
    go_upto_region 5 with fail
    try rw [hU]
    clear hU
    by_cases h4 : l4.length = 0
    · have n1 : ¬ (0 : Int) < (l4.length : Int) := by omega
      have HAE : Hid (Pure.afterE h n F m L G = 0) := Lib.hid (by
        unfold Pure.afterE
        rw [if_pos HQ.out, HPL.out, List.eq_nil_of_length_eq_zero h4]
        rfl)
      clear h4
      have t0 := heap_cell HTU.out (j := 0) rfl
      have t1 := heap_cell HTU.out (j := 1) rfl
      have y0 := heap_cell HY3.out (j := 0) rfl
      have y1 := heap_cell HY3.out (j := 1) rfl
      have fy0 := heap_frozen HY3.out 0
      have fy1 := heap_frozen HY3.out 1
      go_wp2_with fail
      have hsz := HSU.out
      refine bodyPost_ret (v := .tuple #[watchV h a1 n c1, .int .i64 0]) (by simp [results, Try.results11, go_sem, y0, y1]; try rfl) rfl ⟨h, a1, n, c1, by rw [HAE.out], ?_, .inl ⟨HAE.out, rfl, rfl, HWF.out.2.2.1, ?_⟩⟩
      · repeat (first | with_reducible exact HB3.out | with_reducible refine Below.setCell ?_ (by first | (simp; done) | (dsimp only; omega)) _)
      · have hcl := HCL2.out
        exact nums_keep (nums_keep HN3.out (fun x h0 hx => hcl x h0 hx) _) (fun x h0 hx => hcl x h0 hx) _
    · have n1 : (0 : Int) < (l4.length : Int) := by omega
      have HAE : Hid (Pure.afterE h n F m L G = 73) := Lib.hid (by
        unfold Pure.afterE
        rw [if_pos HQ.out, HPL.out]
        cases l4 with
        | nil => simp at h4
        | cons x r => rfl)
      clear h4
      have y0 := heap_cell HY3.out (j := 0) rfl
      have y1 := heap_cell HY3.out (j := 1) rfl
      have fy0 := heap_frozen HY3.out 0
      have fy1 := heap_frozen HY3.out 1
      go_wp2_with fail
      refine bodyPost_ret (v := .tuple #[watchV 0 none 0 0, .int .i64 73]) (by simp [results, Try.results11, go_sem, y0, y1]; try rfl) rfl ⟨0, none, 0, 0, by rw [HAE.out], ?_, .inr ⟨by rw [HAE.out]; decide, rfl, rfl, rfl, rfl⟩⟩
      repeat (first | with_reducible exact HB3.out | with_reducible refine Below.setCell ?_ (by first | (simp; done) | (dsimp only; omega)) _)
  · have e1 : (q != 0) = true := by simpa using h0
    have HQ0 := Lib.hid h0
    clear h0
    have y0 := heap_cell HY1.out (j := 0) rfl
    have y1 := heap_cell HY1.out (j := 1) rfl
    have fy0 := heap_frozen HY1.out 0
    have fy1 := heap_frozen HY1.out 1
    go_wp2_with fail
    have HAE : Pure.afterE h n F m L G = q := by unfold Pure.afterE; rw [if_neg (by rw [HQ.out]; exact HQ0.out), HQ.out]
    refine bodyPost_ret (v := .tuple #[watchV 0 none 0 0, .int .i64 q]) (by simp [results, Try.results11, go_sem, y0, y1]; try rfl) rfl ⟨0, none, 0, 0, by rw [HAE], ?_, .inr ⟨by rw [HAE]; exact HQ0.out, rfl, rfl, rfl, rfl⟩⟩
    repeat (first | with_reducible exact HB1.out | with_reducible refine Below.setCell ?_ (by first | (simp; done) | (dsimp only; omega)) _)

namespace Pure
theorem len_zero {α : Type} {l : List α} (h : l.length = 0) : l = [] := List.eq_nil_of_length_eq_zero h
theorem hotI_nil (F : Nat → Int) (d : Nat) (S : Nat → Int) : ∀ i, (hotI F d S i).length = 0 ↔ ∀ j, j < i → S j ≠ F (j * 3 + 1)
  | 0 => by simp [hotI]
  | i + 1 => by
    have ih := hotI_nil F d S i
    rw [hotI, List.length_append]
    constructor
    · intro h j hj
      have h1 : (hotI F d S i).length = 0 := by omega
      by_cases e : j = i
      · subst e
        intro g
        rw [if_pos (by simpa using g)] at h
        simp at h
      · exact ih.1 h1 j (by omega)
    · intro h
      have h1 := ih.2 (fun j hj => h j (by omega))
      have h2 := h i (by omega)
      rw [if_neg (by simpa using h2)]
      simpa using h1
theorem hots_nil (n : Nat) (F : Nat → Int) (L : Nat → Nat) (G : Nat → Nat → Int) (S : Nat → Int) : ∀ m, (hots n F L G S m).length = 0 ↔ ∀ k, k < m → ∀ i, i < n → st n F L G S (k + 1) i ≠ F (i * 3 + 1)
  | 0 => by simp [hots]
  | m + 1 => by
    have ih := hots_nil n F L G S m
    have h2 := hotI_nil F m (st n F L G S (m + 1)) n
    rw [hots, List.length_append]
    constructor
    · intro h k hk
      by_cases e : k = m
      · subst e
        exact h2.1 (by omega)
      · exact ih.1 (by omega) k (by omega)
    · intro h
      have a1 := ih.2 (fun k hk => h k (by omega))
      have a2 := h2.2 (h m (by omega))
      omega
theorem st_never {n : Nat} {F : Nat → Int} {L : Nat → Nat} {G : Nat → Nat → Int} {S : Nat → Int} {i : Nat} (hi : i < n) : ∀ k, (∀ j, j < k → has (L j) (G j) (F (i * 3)) = false) → st n F L G S k i = S i + k
  | 0, _ => by simp [st]
  | k + 1, h => by
    have ih := st_never (S := S) hi k (fun j hj => h j (by omega))
    rw [st, turnedS, if_pos hi, turnT, if_pos hi, h k (by omega), ih]
    simp
    omega
theorem st_agree {n : Nat} {F : Nat → Int} {L : Nat → Nat} {G : Nat → Nat → Int} {S S' : Nat → Int} {i : Nat} (hi : i < n) (e : S i = S' i) : ∀ k, st n F L G S k i = st n F L G S' k i
  | 0 => e
  | k + 1 => by
    have ih := st_agree (L := L) (G := G) (F := F) hi e k
    rw [st, st, turnedS, turnedS, if_pos hi, if_pos hi, ih]
theorem st_some {n : Nat} {F : Nat → Int} {L : Nat → Nat} {G : Nat → Nat → Int} (S S' : Nat → Int) {i : Nat} (hi : i < n) : ∀ k, (∃ j, j < k ∧ has (L j) (G j) (F (i * 3)) = true) → st n F L G S k i = st n F L G S' k i
  | 0, ⟨j, hj, _⟩ => by omega
  | k + 1, ⟨j, hj, h⟩ => by
    rw [st, st, turnedS, turnedS, if_pos hi, if_pos hi]
    by_cases e : j = k
    · subst e
      rw [turnT, if_pos hi, h, if_pos rfl, if_pos rfl]
    · rw [st_some S S' hi k ⟨j, by omega, h⟩]
theorem it_never {n : Nat} {F : Nat → Int} {m : Nat} {L : Nat → Nat} {G : Nat → Nat → Int} {S : Nat → Int} {i : Nat} (hi : i < n) (h : ∀ j, j < m → has (L j) (G j) (F (i * 3)) = false) : ∀ p, it n F m L G S p i = S i + ((p * m : Nat) : Int)
  | 0 => by simp [it]
  | p + 1 => by
    have ih := it_never (S := S) hi h p
    rw [it, st_never hi m h, ih, Nat.add_mul]
    omega
theorem rep_same {h : Int} {n : Nat} {F : Nat → Int} {m : Nat} {L : Nat → Nat} {G : Nat → Nat → Int} (hw : watch h n F = true) (hm : 0 < m) : rep n F m L G 7 = rep n F m L G 6 := by
  unfold rep
  rw [decide_eq_decide]
  refine ⟨fun g p hp => g p (by omega), fun g p hp => ?_⟩
  by_cases e : p < 6
  · exact g p e
  · obtain rfl : p = 6 := by omega
    refine (hots_nil n F L G _ m).2 (fun k hk i hi => ?_)
    by_cases ht : ∃ j, j < m ∧ has (L j) (G j) (F (i * 3)) = true
    · have e6 : it n F m L G (nowS n F) 6 i = it n F m L G (nowS n F) 1 i := st_some _ _ hi m ht
      rw [st_agree hi e6]
      exact (hots_nil n F L G _ m).1 (g 1 (by omega)) k hk i hi
    · exfalso
      have hf : ∀ j, j < m → has (L j) (G j) (F (i * 3)) = false := fun j hj => by
        cases c : has (L j) (G j) (F (i * 3)) with
        | false => rfl
        | true => exact absurd ⟨j, hj, c⟩ ht
      have hq := (watch_facts hw).2.2.2 i hi
      have hn : nowS n F i = F (i * 3 + 2) := by unfold nowS; rw [if_pos hi]
      obtain ⟨d, hd⟩ : ∃ d : Nat, F (i * 3 + 1) - F (i * 3 + 2) = ((d + 1 : Nat) : Int) := ⟨(F (i * 3 + 1) - F (i * 3 + 2) - 1).toNat, by omega⟩
      have hd6 : d < 6 := by omega
      have h1 := Nat.div_add_mod d m
      have h2 := Nat.mod_lt d hm
      have h3 : d / m < 6 := Nat.lt_of_le_of_lt (Nat.div_le_self d m) hd6
      refine (hots_nil n F L G _ m).1 (g (d / m) h3) (d % m) h2 i hi ?_
      rw [st_never hi _ (fun j hj => hf j (by omega)), it_never hi hf, hn]
      rw [Nat.mul_comm] at h1
      omega
end Pure

set_option maxHeartbeats 8000000 in
set_option maxRecDepth 100000 in
theorem rRepeats_any (h : Int) (a : Option Addr) (n c : Nat) (F : Nat → Int) (s : Option Addr) (m mc : Nat) (L : Nat → Nat) (G : Nat → Nat → Int) (hn : n ≤ 40) (hm : m ≤ 1000000) (hL : ∀ j, j < m → L j ≤ 1000000) (w : World) (hF : NumsAt w a (n * 3) F) (hG : DaysAt w s m L G) :
    Calls Try.prog 13 #[watchV h a n c, .slice s m mc] w (RepeatsOut 7 h n F m L G w) := by
  obtain ⟨W, hW⟩ : ∃ W, w.alloc (watchB h a n c) = W := ⟨_, rfl⟩
  have HB : Hid (Below w.heap.size w W) := Lib.hid (by rw [← hW]; exact below_new _ _)
  have HX : Hid (W.heap[w.heap.size]? = some (watchB h a n c)) := Lib.hid (by rw [← hW]; exact heap_top _ _ rfl)
  have HSZ : Hid (W.heap.size = w.heap.size + 1) := Lib.hid (by rw [← hW]; simp)
  have HF := Lib.hid (hF.below HB.out)
  have HG := Lib.hid (hG.below HB.out)
  have HGW := Lib.hid hG
  have HL := Lib.hid hL
  have HBK : Hid (∀ x, 0 < n * 3 → a = some x → x.block < w.heap.size) := Lib.hid (fun x h0 hx => by
    obtain ⟨b, off, h1, h2⟩ := hF 0 h0
    rw [hx] at h1
    cases h1
    exact World.block_lt_of_cell? w _ h2)
  clear hF hG hL
  have x0 := heap_cell HX.out (j := 0) rfl
  have x1 := heap_cell HX.out (j := 1) rfl
  go_enter Try.func13, Try.ntmps13
  go_upto_region 1 with fail
  try rw [hW]
  clear hW
  go_wp2_with fail
  refine (rAsked_any h a n c F s m mc L G hn hm HL.out _ HF.out HG.out).mono ?_
  rintro e W1 ⟨rfl, hb⟩
  have HX1 := Lib.hid (heap_lft HX.out hb)
  have HF1 := Lib.hid ((HF.out.below hb))
  have HG1 := Lib.hid ((HG.out.below hb))
  have HB1 := Lib.hid ((below_thn HB.out hb))
  have HSZ1 : Hid (w.heap.size + 1 ≤ W1.heap.size) := Lib.hid (by have := hb.size; have := HSZ.out; omega)
  clear hb x0 x1
  obtain ⟨q, hq⟩ : ∃ q, Pure.bothE h n F m L G = q := ⟨_, rfl⟩
  have HQ := Lib.hid hq
  rw [hq]
  clear hq
  by_cases h0 : q = 0
  · subst h0
    have hbz := Pure.both_zero HQ.out
    have hwf := Pure.watch_facts hbz.1
    have HWF := Lib.hid hwf
    have HWT := Lib.hid hbz.1
    have HMM := Lib.hid (Pure.days_facts hbz.2)
    clear hbz hwf
    have e1 : ((0 : Int) != 0) = false := rfl
    by_cases hm0 : m = 0
    · have z1 : ((m : Int) == 0) = true := by rw [hm0]; rfl
      have HAE : Hid (Pure.repE h n F m L G = 72) := Lib.hid (by unfold Pure.repE; rw [if_pos HQ.out, decide_eq_false (by omega)]; rfl)
      clear hm0
      go_wp2_with fail
      go_ret2
      exact ⟨by rw [HAE.out]; rfl, HB1.out⟩
    · have z1 : ((m : Int) == 0) = false := beq_eq_false_iff_ne.2 (by omega)
      have HAE : Hid (Pure.repE h n F m L G = 0) := Lib.hid (by unfold Pure.repE; rw [if_pos HQ.out, decide_eq_true (by omega)]; rfl)
      clear hm0
      go_wp2_with fail
      go_loopw [7, 8, 9] (fun ix _ _ wr => ∃ k : Nat, k ≤ 7 ∧ ix = .int .i64 k ∧ (∀ p, p < k → (Pure.hots n F L G (Pure.it n F m L G (Pure.nowS n F) p) m).length = 0) ∧ (∃ ak ck, wr.heap[w.heap.size]? = some (watchB h ak n ck) ∧ NumsAt wr ak (n * 3) (Pure.sinceF F (Pure.it n F m L G (Pure.nowS n F) k)) ∧ ∀ x, 0 < n * 3 → ak = some x → x.block ≠ w.heap.size) ∧ Below w.heap.size w wr ∧ W1.heap.size ≤ wr.heap.size) (fun ix _ _ _ => 7 - (intOf ix).toNat)
      case atStart => exact ⟨0, by omega, rfl, fun p hp => by omega, ⟨a, c, HX1.out, HF1.out.congr Pure.since_now, fun x h0 hx => by have := HBK.out x h0 hx; omega⟩, HB1.out, Nat.le_refl _⟩
      case round =>
        obtain ⟨k, hk, rfl, hq, ⟨ak, ck, hx, hn', hcl⟩, hb, hzz⟩ := hrel
        have HQQ := Lib.hid hq
        have HXr := Lib.hid hx
        have HNr := Lib.hid hn'
        have HCr := Lib.hid hcl
        have HBr := Lib.hid hb
        have HZr := Lib.hid hzz
        clear hq hx hn' hcl hb hzz
        by_cases hk1 : k < 7
        · have HK := Lib.hid hk1
          have n1 : (k : Int) < 7 := by omega
          have hsp := fun q hq => Pure.it_span' (L := L) (G := G) HWT.out HMM.out k (by omega) q hq
          obtain ⟨S, hS⟩ : ∃ S, Pure.it n F m L G (Pure.nowS n F) k = S := ⟨_, rfl⟩
          rw [hS] at HNr hsp
          have HIS := Lib.hid hS
          have HSP := Lib.hid hsp
          clear hS hsp hk1
          have x0 := heap_cell HXr.out (j := 0) rfl
          have x1 := heap_cell HXr.out (j := 1) rfl
          go_wp2_with fail
          refine (rPlayed_any h ak n ck F S s m mc L G HWF.out.2.2.1 HMM.out HL.out HSP.out _ HNr.out (HGW.out.below HBr.out)).mono ?_
          rintro e W2 ⟨a1, c1, ha, hc, rfl, hna, hnw, _, hb⟩
          have HX2 := Lib.hid (heap_lft HXr.out hb)
          have HB2 := Lib.hid (below_thn HBr.out hb)
          obtain ⟨S', hS'⟩ : ∃ S', Pure.st n F L G S m = S' := ⟨_, rfl⟩
          obtain ⟨l4, hl4⟩ : ∃ x, Pure.hots n F L G S m = x := ⟨_, rfl⟩
          rw [hS'] at hna
          rw [hl4]
          have HIN : Hid (Pure.it n F m L G (Pure.nowS n F) (k + 1) = S') := Lib.hid (by rw [Pure.it, HIS.out, hS'])
          have HL4 : Hid (Pure.hots n F L G (Pure.it n F m L G (Pure.nowS n F) k) m = l4) := Lib.hid (by rw [HIS.out, hl4])
          have HN2 := Lib.hid hna
          have HC2 : Hid (∀ x, 0 < n * 3 → a1 = some x → x.block ≠ w.heap.size) := Lib.hid (fun x h0 hx => by
            rcases hnw x h0 hx with g | g
            · exact HCr.out x h0 g
            · have h1 := HZr.out
              have h2 := HSZ1.out
              omega)
          have HZ2 : Hid (W1.heap.size ≤ W2.heap.size) := Lib.hid (by have h1 := HZr.out; have h2 := hb.size; omega)
          clear x0 x1 hS' hl4 hna hnw hb
          obtain ⟨V, hV⟩ : ∃ V, W2.alloc (watchB h a1 n c1) = V := ⟨_, rfl⟩
          have hbv : Below W2.heap.size W2 V := by rw [← hV]; exact below_new _ _
          have HTV : Hid (V.heap[W2.heap.size]? = some (watchB h a1 n c1)) := Lib.hid (by rw [← hV]; exact heap_top _ _ rfl)
          have HXV := Lib.hid (heap_lft HX2.out hbv)
          have HBV := Lib.hid (below_thn HB2.out hbv)
          have HNV := Lib.hid (HN2.out.below hbv)
          have HZV : Hid (W1.heap.size ≤ V.heap.size) := Lib.hid (by have h1 := HZ2.out; have h2 := hbv.size; omega)
          clear hbv
          go_upto_region 10 with fail
          try rw [hV]
          clear hV
          by_cases h4 : l4.length = 0
          · have n2 : ¬ (0 : Int) < (l4.length : Int) := by omega
            have H4 := Lib.hid h4
            clear h4
            have t0 := heap_cell HTV.out (j := 0) rfl
            have t1 := heap_cell HTV.out (j := 1) rfl
            have x0 := heap_cell HXV.out (j := 0) rfl
            have x1 := heap_cell HXV.out (j := 1) rfl
            have fx0 := heap_frozen HXV.out 0
            have fx1 := heap_frozen HXV.out 1
            go_wp2_with fail
            have hsz := HSZ1.out
            go_roundw
            case rel => exact ⟨k + 1, HK.out, by go_num, fun p hp => by
              by_cases e : p = k
              · subst e; rw [HL4.out]; exact H4.out
              · exact HQQ.out p (by omega), ⟨a1, c1, heap_set (heap_set HXV.out 0 _) 1 _, by rw [HIN.out]; exact nums_keep (nums_keep HNV.out (fun x h0 hx => HC2.out x h0 hx) _) (fun x h0 hx => HC2.out x h0 hx) _, HC2.out⟩, (HBV.out.setCell (Nat.le_refl _) _).setCell (Nat.le_refl _) _, by simpa using HZV.out⟩
            case measure => have := HK.out; simp [intOf]; omega
          · have n2 : (0 : Int) < (l4.length : Int) := by omega
            have H4 := Lib.hid h4
            clear h4
            go_wp2_with fail
            go_ret2
            exact ⟨by
              rw [HAE.out, show Pure.rep n F m L G 7 = false from decide_eq_false (fun g => H4.out (by have := g k HK.out; rw [HL4.out] at this; exact this))]
              rfl, HBV.out⟩
        · obtain rfl : k = 7 := by omega
          go_wp2_with fail
          go_ret2
          exact ⟨by
            rw [HAE.out, show Pure.rep n F m L G 7 = true from decide_eq_true HQQ.out]
            rfl, HBr.out⟩
  · have e1 : (q != 0) = true := by simpa using h0
    have HQ0 := Lib.hid h0
    clear h0
    go_wp2_with fail
    go_ret2
    have HAE : Pure.repE h n F m L G = q := by unfold Pure.repE; rw [if_neg (by rw [HQ.out]; exact HQ0.out), HQ.out]
    exact ⟨by rw [HAE, decide_eq_false HQ0.out]; rfl, HB1.out⟩


end Go.Proofs.Yteoakchcomodgaa
