/-
  The iterator of play: what each pouring does, one after the other, up to the first one that is at fault.
-/
import Derived.Test.YtjemcmehgkhhlaaCSteps
namespace Go.Proofs.Ytjemcmehgkhhlaa
open Go.RowKit
attribute [local go_sem] Oper.semAt_some

/-- How far a list is played. -/
def AllOk (n : Nat) (A X S : Nat → Int) (k : Nat) : Prop := ∀ j, j < k → Pure.okP n A X S j
/-- All that can come. -/
def CameAll (n len : Nat) (A X S : Nat → Int) (ys : List Yd) : Prop := ∃ k, k ≤ len ∧ AllOk n A X S k ∧ (k = len ∧ ys = Pure.ups (Pure.ydOk A X S) k ∨ k < len ∧ ¬ Pure.okP n A X S k ∧ ys = Pure.ups (Pure.ydOk A X S) k ++ [Pure.ydBad n X k])
/-- A part that can have come. -/
def CamePart (n len : Nat) (A X S : Nat → Int) (ys : List Yd) : Prop := ∃ k, k ≤ len ∧ AllOk n A X S k ∧ (ys = Pure.ups (Pure.ydOk A X S) k ∨ k < len ∧ ¬ Pure.okP n A X S k ∧ ys = Pure.ups (Pure.ydOk A X S) k ++ [Pure.ydBad n X k])

theorem pour_at (Bn : Nat) (a : Option Addr) (n c : Nat) (b : Option Addr) (m d : Nat) (k : Int) (l : Option Addr) (ln lc : Nat) (A S : Nat → Int) (f t : Int) (hv : validP n f t) (hn : n ≤ 3) (hS : Pure.Fine n A S) (w : World) (hX : w.heap[Bn]? = some (benchB a n c b m d k l ln lc)) (hA : NumsAt w a n A) :
    Calls Try.prog 28 #[.pointer (some ⟨Bn, 0, none⟩), insV S, pourV f t] w fun e w' => e = .returned (.tuple #[stepV f t (Pure.amt A S f.toNat t.toNat) (Pure.movedS S f.toNat t.toNat (Pure.amt A S f.toNat t.toNat)), .bool (Pure.canP A S f.toNat t.toNat)]) ∧ Below w.heap.size w w' := by
  unfold validP at hv
  have h := pour_any Bn a n c b m d k l ln lc A S f.toNat t.toNat (by omega) (by omega) (by omega) hn hS.2 hS.1 w hX hA
  rw [Int.toNat_of_nonneg hv.1, Int.toNat_of_nonneg hv.2.2.1] at h
  exact h

set_option maxRecDepth 100000 in
set_option maxHeartbeats 4000000 in
theorem play1_in (N l : Nat) (Bad : Nat → Prop) (W : World) (Bb Bl Bn : Nat) (a : Option Addr) (n c : Nat) (b : Option Addr) (d : Nat) (k : Int) (L : Option Addr) (ln lc : Nat) (la : Option Addr) (len cap : Nat) (A B Y X : Nat → Int)
    (hbad : ∀ i, Bad i → i < W.heap.size) (hp : PlayAt Bad W Bb Bl Bn a n c b n d k L ln lc la len cap A Y X) (hB : NumsAt W b n B) (h1 : 1 ≤ n) (hn : n ≤ 3) (hP : PourL n ln Y) (hln : ln ≤ 16) (hlen : len ≤ 100) (hF : Pure.Fine n A (startS k n B))
    (J Jx : List Yd → World → Prop) (hJ : Stays W.heap.size J) (h0 : J [] W)
    (hY : ∀ pre x V, J pre V → pre.length < len → YieldAt Fence.wide N Try.prog l (ydA x) V fun e V' => (e = .returned (.bool true) ∧ J (pre ++ [x]) V' ∧ KeptC Bad V V') ∨ (e = .returned (.bool false) ∧ Jx (pre ++ [x]) V')) :
    CallsIn Fence.wide (N + 1) Try.prog 26 #[.func (.yield l) #[] #[], .pointer (some ⟨Bb, 0, none⟩), .pointer (some ⟨Bl, 0, none⟩)] W fun e V => (∃ v, e = .returned v) ∧
      ((∃ ys, CameAll n len A X (startS k n B) ys ∧ J ys V) ∨ (∃ pre, CamePart n len A X (startS k n B) pre ∧ Jx pre V)) := by
  refine callsIn_of_wp Try.func26 rfl trivial ?_ rfl
  simp only [Try.ntmps26, List.size_toArray, List.length_cons, List.length_nil, Nat.reduceAdd, Nat.reduceSub, Array.replicate_succ, Array.replicate_zero, List.push_toArray, List.append_toArray, List.nil_append, List.cons_append]
  have HP := Lib.hid hp
  have HBB := Lib.hid hB
  clear hp hB
  have cb := heap_cell HP.out.w1 (j := 0) rfl
  gi_wp2_with fail
  refine ⟨trivial, (callsIn_wide.2 (now_any Bn a n c b n d k L ln lc B h1 hn W HP.out.w3 HBB.out)).mono ?_⟩
  rintro e W1 ⟨rfl, hb1⟩
  obtain ⟨W2, hW2⟩ : ∃ W2, W1.alloc (insB (startS k n B)) = W2 := ⟨_, rfl⟩
  have hb2 : Below W.heap.size W W2 := by rw [← hW2]; exact below_thn hb1 (below_new _ _)
  have HS2 : Hid (W2.heap[W1.heap.size]? = some (insB (startS k n B))) := Lib.hid (by rw [← hW2]; exact heap_top _ _ rfl)
  have HP2 := Lib.hid (HP.out.below hb2)
  have HJ2 := Lib.hid (hJ _ _ _ hb2 h0)
  have HSZ : Hid (W.heap.size ≤ W1.heap.size) := Lib.hid hb1.size
  have HSZ2 : Hid (W1.heap.size < W2.heap.size) := Lib.hid (by rw [← hW2]; simp)
  have HBD : Hid (∀ i, Bad i → i < W.heap.size) := Lib.hid hbad
  have HJS := Lib.hid hJ
  have HY := Lib.hid hY
  have cl := heap_cell (v := .slice la len cap) HP2.out.w2 (j := 0) rfl
  clear cb HBB hJ h0 hY hbad hb1 hb2
  gi_wp2_with fail
  clear cl hW2
  gi_loopw [6, 7, 8, 9, 14] (fun _ _ _ _ i wr => ∃ j : Nat, j ≤ len ∧ i = .int .i64 j ∧ AllOk n A X (startS k n B) j ∧ J (Pure.ups (Pure.ydOk A X (startS k n B)) j) wr ∧ wr.heap[W1.heap.size]? = some (insB (Pure.stS A X (startS k n B) j)) ∧ PlayAt Bad wr Bb Bl Bn a n c b n d k L ln lc la len cap A Y X)
    (fun _ _ _ _ i _ => len - (intOf i).toNat)
  case atStart => exact ⟨0, Nat.zero_le _, rfl, fun j hj => by omega, HJ2.out, HS2.out, HP2.out⟩
  case round =>
    obtain ⟨j, hj, rfl, hq, hJs, hs, hp⟩ := hrel
    have HQ := Lib.hid hq
    have HJr := Lib.hid hJs
    have HSr := Lib.hid hs
    have HPr := Lib.hid hp
    have HSZr : Hid (W1.heap.size < wr.heap.size) := Lib.hid (Array.getElem?_eq_some_iff.1 hs).1
    clear hq hJs hs hp
    by_cases hlt : j < len
    · obtain ⟨gl, ol, rfl, _⟩ := HPr.out.w6 (j * 2) (by omega)
      have n1 : (j : Int) < len := by omega
      have c0 := HPr.out.w6.at (show j * 2 < len * 2 by omega)
      have c1 := nums_row HPr.out.w6 (show j * 2 + 1 < len * 2 by omega)
      have hbx : Below wr.heap.size wr (wr.alloc (pourB (X (j * 2)) (X (j * 2 + 1)))) := below_new _ _
      have hp2 := HPr.out.below hbx
      have d1 := heap_cell (v := .pointer (some ⟨Bn, 0, none⟩)) hp2.w1 (j := 0) rfl
      have HP2r := Lib.hid hp2
      have HBX := Lib.hid hbx
      have HLT := Lib.hid hlt
      clear hp2 hbx
      gi_wp2_with fail
      clear c0 c1 d1
      refine ⟨trivial, (callsIn_wide.2 (checkPouring_any Bn a n c b n d k L ln lc Y _ _ hln (decide (validP n (X (j * 2)) (X (j * 2 + 1)))) (by simp) hP _ HP2r.out.w3 HP2r.out.w5)).mono ?_⟩
      rintro e V1 ⟨rfl, hb⟩
      have hby := below_thn HBX.out hb
      have HBV := Lib.hid hby
      have HPV := Lib.hid (HP2r.out.below hb)
      have HSV := Lib.hid (heap_lft HSr.out hby)
      have HXV := Lib.hid (heap_lft (heap_top wr (pourB (X (j * 2)) (X (j * 2 + 1))) rfl) hb)
      have HJV := Lib.hid (HJS.out _ _ _ (hby.mono (by have := HSZ.out; have := HSZr.out; omega)) HJr.out)
      clear hb hby HBX HP2r
      by_cases hv : validP n (X (j * 2)) (X (j * 2 + 1))
      · have he : Pure.err (decide (validP n (X (j * 2)) (X (j * 2 + 1)))) 81 = 0 := by simp [Pure.err, hv]
        rw [he]
        have HV := Lib.hid hv
        have hfin := Pure.fine_st hF j HQ.out
        have HFI := Lib.hid hfin
        have d1 := heap_cell (v := .pointer (some ⟨Bn, 0, none⟩)) HPV.out.w1 (j := 0) rfl
        have s0 := heap_cell HSV.out (j := 0) rfl
        have s1 := heap_cell HSV.out (j := 1) rfl
        have s2 := heap_cell HSV.out (j := 2) rfl
        have s3 := heap_cell HSV.out (j := 3) rfl
        have x0 := heap_cell HXV.out (j := 0) rfl
        have x1 := heap_cell HXV.out (j := 1) rfl
        clear hv he hfin
        gi_wp2_with fail
        clear d1 s0 s1 s2 s3 x0 x1
        refine ⟨trivial, (callsIn_wide.2 (pour_at Bn a n c b n d k L ln lc A (Pure.stS A X (startS k n B) j) _ _ HV.out hn HFI.out V1 HPV.out.w3 HPV.out.w4)).mono ?_⟩
        rintro e V2 ⟨rfl, hb⟩
        obtain ⟨pt, hpt⟩ : ∃ pt, Pure.amt A (Pure.stS A X (startS k n B) j) (X (j * 2)).toNat (X (j * 2 + 1)).toNat = pt := ⟨_, rfl⟩
        obtain ⟨S', hS'⟩ : ∃ S', Pure.movedS (Pure.stS A X (startS k n B) j) (X (j * 2)).toNat (X (j * 2 + 1)).toNat pt = S' := ⟨_, rfl⟩
        have HS' : Hid (Pure.stS A X (startS k n B) (j + 1) = S') := Lib.hid (by rw [← hS', ← hpt]; rfl)
        have HPT : Hid (Pure.ptS A X (startS k n B) j = pt) := Lib.hid hpt
        rw [hpt, hS']
        obtain ⟨V3, hV3⟩ : ∃ V3, V2.alloc (stepB (X (j * 2)) (X (j * 2 + 1)) pt S') = V3 := ⟨_, rfl⟩
        have hby : Below V1.heap.size V1 V3 := by rw [← hV3]; exact below_thn hb (below_new _ _)
        have HY3 : Hid (V3.heap[V2.heap.size]? = some (stepB (X (j * 2)) (X (j * 2 + 1)) pt S')) := Lib.hid (by rw [← hV3]; exact heap_top _ _ rfl)
        have HS3 := Lib.hid (heap_lft HSV.out hby)
        have HP3 := Lib.hid (HPV.out.below hby)
        have HSZ3 : Hid (wr.heap.size ≤ V2.heap.size) := Lib.hid (by have h1 := HBV.out.size; have h2 := hb.size; omega)
        have HJ3 := Lib.hid (HJS.out _ _ _ (hby.mono (by have h1 := HBV.out.size; have := HSZ.out; have := HSZr.out; omega)) HJV.out)
        have y0 := heap_cell HY3.out (j := 0) rfl
        have y1 := heap_cell HY3.out (j := 1) rfl
        have y2 := heap_cell HY3.out (j := 2) rfl
        have y3 := heap_cell HY3.out (j := 3) rfl
        have y4 := heap_cell HY3.out (j := 4) rfl
        have y5 := heap_cell HY3.out (j := 5) rfl
        have y6 := heap_cell HY3.out (j := 6) rfl
        clear hb hby hpt hS'
        by_cases hc : Pure.canP A (Pure.stS A X (startS k n B) j) (X (j * 2)).toNat (X (j * 2 + 1)).toNat = true
        · rw [hc]
          have HOK : Hid (Pure.okP n A X (startS k n B) j) := Lib.hid ⟨HV.out, hc⟩
          have hya : ydA (Pure.ydOk A X (startS k n B) j) = #[stepV (X (j * 2)) (X (j * 2 + 1)) pt S', .int .i64 0] := by
            have h1 := Pure.pt_fin HFI.out HV.out
            rw [HPT.out] at h1
            simp only [ydA, h1, show (Pure.ydOk A X (startS k n B) j).S = S' from HS'.out]
            rfl
          obtain ⟨fn, tmps, assign, body, hy, hR⟩ := HY.out _ (Pure.ydOk A X (startS k n B) j) V3 HJ3.out (by rw [Pure.ups_length]; exact HLT.out)
          rw [hya] at hy
          clear hc hya
          gi_wp2_with fail
          clear y0 y1 y2 y3 y4 y5 y6
          refine hR.mono ?_
          rintro e W3 (⟨rfl, hJ3, hK3⟩ | ⟨rfl, hJx3⟩)
          · have hn1 : ¬ Bad W1.heap.size := fun h => by have h1 := HBD.out _ h; have h2 := HSZ.out; omega
            have hn2 : ¬ Bad V2.heap.size := fun h => by have h1 := HBD.out _ h; have h2 := HSZ.out; have h3 := HSZ3.out; have h4 := HSZr.out; omega
            have hs3 := hK3.obj hn1 HS3.out
            have hy3 := hK3.obj hn2 HY3.out
            obtain ⟨W4, hW4⟩ : ∃ W4, (((W3.setCell ⟨W1.heap.size, 0, none⟩ (.int .i64 (S' 0))).setCell ⟨W1.heap.size, 1, none⟩ (.int .i64 (S' 1))).setCell ⟨W1.heap.size, 2, none⟩ (.int .i64 (S' 2))).setCell ⟨W1.heap.size, 3, none⟩ (.int .i64 (S' 3)) = W4 := ⟨_, rfl⟩
            have HS4 : Hid (W4.heap[W1.heap.size]? = some (insB S')) := Lib.hid (by rw [← hW4]; exact heap_set (heap_set (heap_set (heap_set hs3 0 _) 1 _) 2 _) 3 _)
            have hb4 : Below W.heap.size W3 W4 := by
              rw [← hW4]
              have h2 := HSZ.out
              exact ((((Below.refl _ W3).setCell h2 _).setCell h2 _).setCell h2 _).setCell h2 _
            have HP4 := Lib.hid (PlayAt.low HP.out (HP3.out.kept hK3) hb4)
            have HJ4 := Lib.hid (HJS.out _ _ _ hb4 hJ3)
            have y3 := heap_cell hy3 (j := 3) rfl
            have y4 := heap_cell hy3 (j := 4) rfl
            have y5 := heap_cell hy3 (j := 5) rfl
            have y6 := heap_cell hy3 (j := 6) rfl
            have s0 := heap_cell hs3 (j := 0) rfl
            have s1 := heap_cell hs3 (j := 1) rfl
            have s2 := heap_cell hs3 (j := 2) rfl
            have s3 := heap_cell hs3 (j := 3) rfl
            have g0 := heap_frozen hs3 0
            have g1 := heap_frozen hs3 1
            have g2 := heap_frozen hs3 2
            have g3 := heap_frozen hs3 3
            clear hb4 hK3 hJ3
            gi_wp2_with fail
            go_roundw
            case rel => exact ⟨j + 1, HLT.out, by go_num, fun q hq => by
              by_cases e : q = j
              · subst e; exact HOK.out
              · exact HQ.out q (by omega), by rw [Pure.ups_succ]; exact HJ4.out, by rw [HS'.out]; exact HS4.out, HP4.out⟩
            case measure => have := HLT.out; simp [intOf]; omega
          · gi_wp2_with fail
            refine bodyPost_ret (results_none rfl _ _ _) rfl ?_
            exact ⟨⟨_, rfl⟩, .inr ⟨_, ⟨j + 1, HLT.out, fun q hq => by
              by_cases e : q = j
              · subst e; exact HOK.out
              · exact HQ.out q (by omega), .inl (Pure.ups_succ _ _).symm⟩, hJx3⟩⟩
        · have hcf : Pure.canP A (Pure.stS A X (startS k n B) j) (X (j * 2)).toNat (X (j * 2 + 1)).toNat = false := by simpa using hc
          rw [hcf]
          have hnok : ¬ Pure.okP n A X (startS k n B) j := fun h => hc h.2
          have hya : ydA (Pure.ydBad n X j) = #[.agg #[.int .i64 0, .int .i64 0, .int .i64 0, .int .i64 0, .int .i64 0, .int .i64 0, .int .i64 0], .int .i64 6] := by simp [ydA, Pure.ydBad, Pure.erP, HV.out]
          obtain ⟨fn, tmps, assign, body, hy, hR⟩ := HY.out _ (Pure.ydBad n X j) V3 HJ3.out (by rw [Pure.ups_length]; exact HLT.out)
          rw [hya] at hy
          have HNO := Lib.hid hnok
          clear hc hcf hnok hya
          gi_wp2_with fail
          refine hR.mono ?_
          rintro e W3 (⟨rfl, hJ3, _⟩ | ⟨rfl, hJx3⟩)
          · gi_wp2_with fail
            refine bodyPost_ret (results_none rfl _ _ _) rfl ?_
            exact ⟨⟨_, rfl⟩, .inl ⟨_, ⟨j, by have := HLT.out; omega, HQ.out, .inr ⟨HLT.out, HNO.out, rfl⟩⟩, hJ3⟩⟩
          · gi_wp2_with fail
            refine bodyPost_ret (results_none rfl _ _ _) rfl ?_
            exact ⟨⟨_, rfl⟩, .inr ⟨_, ⟨j, by have := HLT.out; omega, HQ.out, .inr ⟨HLT.out, HNO.out, rfl⟩⟩, hJx3⟩⟩
      · have he : Pure.err (decide (validP n (X (j * 2)) (X (j * 2 + 1)))) 81 = 81 := by simp [Pure.err, hv]
        rw [he]
        have hnok : ¬ Pure.okP n A X (startS k n B) j := fun h => hv h.1
        have hya : ydA (Pure.ydBad n X j) = #[.agg #[.int .i64 0, .int .i64 0, .int .i64 0, .int .i64 0, .int .i64 0, .int .i64 0, .int .i64 0], .int .i64 81] := by simp [ydA, Pure.ydBad, Pure.erP, hv]
        obtain ⟨fn, tmps, assign, body, hy, hR⟩ := HY.out _ (Pure.ydBad n X j) V1 HJV.out (by rw [Pure.ups_length]; exact HLT.out)
        rw [hya] at hy
        have HNO := Lib.hid hnok
        clear hv he hnok hya
        gi_wp2_with fail
        refine hR.mono ?_
        rintro e W3 (⟨rfl, hJ3, _⟩ | ⟨rfl, hJx3⟩)
        · gi_wp2_with fail
          refine bodyPost_ret (results_none rfl _ _ _) rfl ?_
          exact ⟨⟨_, rfl⟩, .inl ⟨_, ⟨j, by have := HLT.out; omega, HQ.out, .inr ⟨HLT.out, HNO.out, rfl⟩⟩, hJ3⟩⟩
        · gi_wp2_with fail
          refine bodyPost_ret (results_none rfl _ _ _) rfl ?_
          exact ⟨⟨_, rfl⟩, .inr ⟨_, ⟨j, by have := HLT.out; omega, HQ.out, .inr ⟨HLT.out, HNO.out, rfl⟩⟩, hJx3⟩⟩
    · obtain rfl : j = len := by omega
      have n1 : ¬ (j : Int) < (j : Int) := by omega
      gi_wp2_with fail
      go_end0
      exact ⟨⟨_, rfl⟩, .inl ⟨_, ⟨j, Nat.le_refl _, HQ.out, .inl ⟨rfl, rfl⟩⟩, HJr.out⟩⟩

/-- The iterator of play keeps the contract. -/
theorem play_seq (N : Nat) (Bad : Nat → Prop) (w : World) (Bb Bl Bn : Nat) (a : Option Addr) (n c : Nat) (b : Option Addr) (d : Nat) (k : Int) (L : Option Addr) (ln lc : Nat) (la : Option Addr) (len cap : Nat) (A B Y X : Nat → Int)
    (hbad : ∀ i, Bad i → i < w.heap.size) (hp : PlayAt Bad w Bb Bl Bn a n c b n d k L ln lc la len cap A Y X) (hB : NumsAt w b n B) (h1 : 1 ≤ n) (hn : n ≤ 3) (hP : PourL n ln Y) (hln : ln ≤ 16) (hlen : len ≤ 100) (hF : Pure.Fine n A (startS k n B)) :
    SeqC (N + 1) Try.prog 26 #[.pointer (some ⟨Bb, 0, none⟩), .pointer (some ⟨Bl, 0, none⟩)] ydA Bad (CameAll n len A X (startS k n B)) (CamePart n len A X (startS k n B)) len w := fun l J Jx W hW hJ _ hY h0 =>
  play1_in N l Bad W Bb Bl Bn a n c b d k L ln lc la len cap A B Y X (fun i hi => Nat.lt_of_lt_of_le (hbad i hi) hW.size) (hp.below hW) (hB.below hW) h1 hn hP hln hlen hF J Jx hJ h0 hY
theorem play_any (B : Nat) (la : Option Addr) (len cap : Nat) (w : World) :
    Calls Try.prog 20 #[.pointer (some ⟨B, 0, none⟩), .slice la len cap] w fun e w' =>
      e = .returned (.func (.func 26) #[] #[.pointer (some ⟨w.heap.size, 0, none⟩), .pointer (some ⟨w.heap.size + 1, 0, none⟩)]) ∧ w' = (w.alloc (.cells #[.pointer (some ⟨B, 0, none⟩)] 48)).alloc (.cells #[.slice la len cap] 27) := by
  go_enter Try.func20, Try.ntmps20
  go_wp2
  go_ret
  exact ⟨rfl, rfl⟩
end Go.Proofs.Ytjemcmehgkhhlaa
