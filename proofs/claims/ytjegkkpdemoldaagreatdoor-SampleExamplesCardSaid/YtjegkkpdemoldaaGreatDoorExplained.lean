/-
  The contract of explained: the draws of so many bags after which a number of dirty bags can be, as a map from which the others have gone.
-/
import Derived.Test.YtjegkkpdemoldaaGreatDoorDrawKey
import Derived.Test.YtjegkkpdemoldaaGreatDoorNumbers
namespace Go.Proofs.YtjegkkpdemoldaaGreatDoor
open Go.RowKit Go.Maps Go.WideMaps

namespace Pure
/-- Whether some number of dirty bags explains a draw. -/
def some (b : Nat) (lo hi o f : Int) : Bool := (ints (b + 1)).any (okCan b lo hi o f)
end Pure

set_option maxHeartbeats 1000000 in
theorem explainsOne_any {M T C : Nat} (b lo hi x o f : Int) (Bh Bd : Nat) (hb0 : 0 ≤ b) (hb : b ≤ 36) (hx0 : 0 ≤ x) (hx : x ≤ 36) (ho0 : 0 ≤ o) (ho : o ≤ 36) (hf0 : 0 ≤ f) (hf : f ≤ 36) (w : World) (hw : Cnt w M T C)
    (e0 : w.cell? ⟨Bh, 0, none⟩ = some (.int .i64 b)) (e1 : w.cell? ⟨Bh, 1, none⟩ = some (.int .i64 lo)) (e2 : w.cell? ⟨Bh, 2, none⟩ = some (.int .i64 hi)) (e3 : w.cell? ⟨Bh, 3, none⟩ = some (setsV T C))
    (g0 : w.cell? ⟨Bd, 0, none⟩ = some (.int .i64 o)) (g1 : w.cell? ⟨Bd, 1, none⟩ = some (.int .i64 f)) :
    Calls Tryz.prog 92 #[.int .i64 x, .pointer (some ⟨Bh, 0, none⟩), .pointer (some ⟨Bd, 0, none⟩)] w fun e w' => e = .returned (.bool (Pure.okCan b lo hi o f x)) ∧ Step M w w' := by
  have HC := Lib.hid (can_any b lo hi x o f hb0 hb hx0 hx ho0 ho hf0 hf w hw)
  clear hw
  go_enter Tryz.func92, Tryz.ntmps92
  go_wp2_with fail
  refine HC.out.mono ?_
  rintro e w' ⟨rfl, hs⟩
  have HS := Lib.hid hs
  clear hs
  go_wp2_with fail
  go_ret
  exact ⟨rfl, HS.out⟩

theorem Holds.congr {o : Int} {D : DataW Unit} {S S' : Nat → Bool} (h : Holds o D S) (e : ∀ k : Nat, (k : Int) ≤ o → S k = S' k) : Holds o D S' :=
  ⟨h.isMap, fun k hk => (h.has k hk).trans (e k hk), h.val, h.only⟩

theorem and_left {x y : Bool} (h : (x && y) = true) : x = true := by
  cases x
  · cases h
  · rfl

/-- A write to a new block. -/
theorem Step.turned {M b : Nat} {w W W' : World} (h : Step M w W) (hg : W.grownBy W' (some b)) (hb : w.heap.size ≤ b) (hM : M < w.heap.size) : Step M w W' :=
  ⟨⟨hg.os.trans h.grown.os, hg.tape.trans h.grown.tape, hg.output.trans h.grown.output, Nat.le_trans h.grown.size hg.size,
    fun i hi hne => (hg.block i (Nat.lt_of_lt_of_le hi h.grown.size) (fun e => by cases e; omega)).trans (h.grown.block i hi hne)⟩,
   h.memo.kept (hg.block M h.memo.lt (fun e => by cases e; omega))⟩
theorem Step.grew {M : Nat} {w W W' : World} (h : Step M w W) (hg : W.grownBy W' none) : Step M w W' :=
  ⟨⟨hg.os.trans h.grown.os, hg.tape.trans h.grown.tape, hg.output.trans h.grown.output, Nat.le_trans h.grown.size hg.size,
    fun i hi hne => (hg.block i (Nat.lt_of_lt_of_le hi h.grown.size) (by simp)).trans (h.grown.block i hi hne)⟩,
   h.memo.kept (hg.block M h.memo.lt (by simp))⟩

set_option maxHeartbeats 4000000 in
set_option maxRecDepth 100000 in
/-- **explained**. -/
theorem explained_any {M T C : Nat} (b : Nat) (lo hi : Int) (n : Nat) (hb : b ≤ 36) (hn : n ≤ 36) (w : World) (hw : Cnt w M T C) :
    Calls Tryz.prog 72 #[holdV b lo hi T C, .int .i64 n] w fun e w' => ∃ (bm m : Nat) (D : DataW Unit), e = .returned (.map (some bm)) ∧
      w'.ownsMap Tryz.prog 37 (plainElem (H := Unit) Tryz.prog 4) bm m D ∧ Holds n D (fun k => Pure.some b lo hi n k) ∧ Step M w w' := by
  have hmm := @run_makeMap Tryz.prog
  have HW := Lib.hid hw
  have HML := Lib.hid hw.memo.lt
  clear hw
  go_enter Tryz.func72, Tryz.ntmps72
  go_wp2_with fail
  obtain ⟨w1, hw1⟩ : ∃ w1, (w.alloc (.cells #[.int .i64 b, .int .i64 lo, .int .i64 hi, setsV T C] 82)).alloc (.map #[] 0) = w1 := ⟨_, rfl⟩
  have hS1 : Step M w w1 := by rw [← hw1]; exact ((Step.refl HW.out.memo).alloc _).alloc _
  have hsz : w1.heap.size = w.heap.size + 2 := by rw [← hw1]; simp
  have hh1 : w1.heap[w.heap.size]? = some (.cells #[.int .i64 b, .int .i64 lo, .int .i64 hi, setsV T C] 82) := by
    rw [← hw1]; exact (Below.heap_alloc _ _ _ (by simp)).trans (World.alloc_heap_new w _)
  have hm1 : w1.ownsMap Tryz.prog 37 (plainElem (H := Unit) Tryz.prog 4) (w.heap.size + 1) 0 (.map []) := by
    rw [← hw1]; have h := World.ownsMap_made (w.alloc (.cells #[.int .i64 b, .int .i64 lo, .int .i64 hi, setsV T C] 82)) Tryz.prog 37 (plainElem (H := Unit) Tryz.prog 4); rw [World.size_alloc] at h; exact h
  rw [hw1]
  have HSZ := Lib.hid hsz
  have HS1 := Lib.hid hS1
  have HH1 := Lib.hid hh1
  have HM1 := Lib.hid hm1
  clear hS1 hsz hh1 hm1 hw1
  go_loopw [6, 14] (fun _ i wr => ∃ k : Nat, k ≤ n + 1 ∧ i = .int .i64 k ∧ ∃ D : DataW Unit, wr.ownsMap Tryz.prog 37 (plainElem (H := Unit) Tryz.prog 4) (w.heap.size + 1) k D ∧ Holds n D (fun j => decide (j < k)) ∧ Step M w wr ∧ wr.heap[w.heap.size]? = some (.cells #[.int .i64 b, .int .i64 lo, .int .i64 hi, setsV T C] 82)) (fun _ i _ => n + 1 - (intOf i).toNat)
  case atStart => exact ⟨0, Nat.zero_le _, rfl, _, HM1.out, (by simpa using holds_none n), HS1.out, HH1.out⟩
  case round =>
    obtain ⟨k, hk, rfl, D, hown, hD, hS, hh⟩ := hrel
    have HD := Lib.hid hD
    have HS := Lib.hid hS
    have HH := Lib.hid hh
    clear hD hS hh
    by_cases hk1 : k < n + 1
    · go_wp2_with (at_mapUpdate; refine wpList_mapUpdate_own _ rfl _ _ _ 131 rfl 37 4 keyedDraw Tryz.underlying131 _ (w.heap.size + 1) k D rfl hown (by unfold maxLen; omega) _ _ _ rfl rfl (drawKey_of (o := n) (k := k) (by omega) (by omega) (by omega)) _ [] (plainElem_bool Tryz.underlying4 true) ?_; intro w2 hown2 hgrow2)
      go_roundw
      case rel =>
        refine ⟨k + 1, by omega, by go_num, _, hown2, ?_, HS.out.turned hgrow2 (by omega) HML.out, (hgrow2.block _ (Array.getElem?_eq_some_iff.1 HH.out).1 (by simp)).trans HH.out⟩
        have h := HD.out.put (by omega) (by omega) (n := k) (by omega)
        have e : (fun j => decide (j < k) || j == k) = fun j => decide (j < k + 1) := by
          funext j
          rw [Bool.eq_iff_iff]
          simp
          omega
        rw [e] at h
        exact h
      case measure => simp [intOf]; omega
    · obtain rfl : k = n + 1 := by omega
      have HO := Lib.hid hown
      clear hown
      go_wp2_with (at_range; refine wpList_range_own _ rfl _ 131 rfl 37 4 keyedDraw Tryz.underlying131 _ (w.heap.size + 1) (n + 1) D rfl HO.out ?_; intro w0 hrg0 hg0 hs0)
      go_frame
      obtain ⟨R, hR⟩ : ∃ R, wr.heap.size = R := ⟨_, rfl⟩
      have hRw : w.heap.size ≤ R := by rw [← hR]; exact HS.out.grown.size
      rw [hR] at hrg0 ⊢
      have HRW := Lib.hid hRw
      clear hRw hR
      have HRG0 := Lib.hid hrg0
      have HG0 := Lib.hid hg0
      clear hrg0 hg0
      go_loopw [7, 8, 9, 10] (fun _ _ _ _ wl => ∃ (D : DataW Unit) (left : Lit → Bool) (cnt : Nat), wl.ranges Tryz.prog 37 (plainElem (H := Unit) Tryz.prog 4) (w.heap.size + 1) R (n + 1) D left cnt ∧
          (∀ l, left l = true → ∃ k : Nat, (k : Int) ≤ n ∧ l = drawKey n k) ∧ Holds n D (fun j => left (drawKey n j) || Pure.some b lo hi n j) ∧ Step M w wl ∧ wl.heap[w.heap.size]? = some (.cells #[.int .i64 b, .int .i64 lo, .int .i64 hi, setsV T C] 82)) (fun _ _ _ _ wl => wl.rangeLeft (w.heap.size + 1) R)
      case atStart =>
        refine ⟨D, _, _, HRG0.out, HD.out.only, ?_, HS.out.grew HG0.out, (HG0.out.block _ (Array.getElem?_eq_some_iff.1 HH.out).1 (by simp)).trans HH.out⟩
        refine HD.out.congr (fun j hj => ?_)
        have h1 : Maps.has D (drawKey n j) = true := by rw [HD.out.has j hj]; simp; omega
        rw [h1]
        simp
        omega
      case round =>
        obtain ⟨D2, left, cnt, hrg, honly, hD2, hS2, hh2⟩ := hrel
        have HON := Lib.hid honly
        have HD2 := Lib.hid hD2
        have HS2 := Lib.hid hS2
        have HH2 := Lib.hid hh2
        clear honly hD2 hS2 hh2
        go_wp2_with (at_next; refine wpList_next_draw _ rfl _ rfl (p := n) (by omega) (by omega) (w.heap.size + 1) R (n + 1) D2 left cnt rfl hrg HON.out ?_ ?_)
        · intro hl0
          have HRG := Lib.hid hrg
          clear hrg
          go_wp2_with fail
          go_ret
          refine ⟨_, _, D2, rfl, HRG.out.owns, ?_, HS2.out⟩
          have h := HD2.out
          simp only [hl0, Bool.false_or] at h
          exact h
        · intro k v w2 cnt2 hk hlk hrg2 hlt hg2 hsz2 hen
          have HRG := Lib.hid hrg
          have HRG2 := Lib.hid hrg2
          have HG2 := Lib.hid hg2
          have HLK := Lib.hid hlk
          have HLT := Lib.hid hlt
          have HK := Lib.hid hk
          clear hrg hrg2 hg2 hlk hlt hk
          have HSZ2 := Lib.hid hsz2
          clear hsz2
          have HRb : Hid (R ≠ w.heap.size + 1) := Lib.hid HRG.out.ne
          have hlt0 : w.heap.size < R := by have h1 := HRG.out.ne; have h2 := HRW.out; have h3 := HH2.out; have h4 := HRG.out; refine Nat.lt_of_le_of_ne h2 (fun e => ?_); obtain ⟨es, clock, since, seen, c0, _, _, _, _, hr, _⟩ := h4; rw [← e, h3] at hr; cases hr
          have HRL := Lib.hid hlt0
          clear hlt0
          have hh3 : w2.heap[w.heap.size]? = some (.cells #[.int .i64 b, .int .i64 lo, .int .i64 hi, setsV T C] 82) := (HG2.out.block _ (Array.getElem?_eq_some_iff.1 HH2.out).1 (by have := HRL.out; simp; omega)).trans HH2.out
          have HH3 := Lib.hid hh3
          have c0 : (w2.alloc (.cells #[.int .i64 n, .int .i64 k] 37)).cell? ⟨w.heap.size, 0, none⟩ = some (.int .i64 b) := cell_up (heap_cell hh3 (j := 0) rfl) _
          clear hh3
          have hS3 : Step M w w2 := HS2.out.turned HG2.out HRW.out HML.out
          have HS3 := Lib.hid hS3
          clear hS3
          have hcall := firstInt_in 0 (w2.heap.size + 1) b (by omega) (M := M) 92 #[.pointer (some ⟨w.heap.size, 0, none⟩), .pointer (some ⟨w2.heap.size, 0, none⟩)] (Pure.okCan b lo hi n k) ((w2.alloc (.cells #[.int .i64 n, .int .i64 k] 37)).alloc (.cells #[.int .i64 b] 3))
            ((HS3.out.memo.alloc _).alloc _) (by simp) (cell_top _ _ _ (by simp)) (by have := HS3.out.memo.lt; omega) (enters_of Tryz.func92 (by kernel_rfl) rfl)
            (fun V hV x hx0 hx1 => by
              have hq : Step M w2 V := (((Step.refl HS3.out.memo).alloc _).alloc _).trans hV
              have hcn : Cnt V M T C := (HW.out.step HS3.out).step hq
              have e := fun j v (h : (#[Value.int .i64 b, .int .i64 lo, .int .i64 hi, setsV T C])[j]? = some v) => hq.cell (heap_cell HH3.out h) (cell_not_map HS3.out.memo (heap_cell HH3.out h))
              have g := fun j v (h : (#[Value.int .i64 n, .int .i64 k])[j]? = some v) => hV.cell (cell_up ((cells_top w2 #[.int .i64 n, .int .i64 k] 37 rfl j).trans h) _) (by have := HS3.out.memo.lt; simp; omega)
              exact explainsOne_any b lo hi x n k w.heap.size w2.heap.size (by omega) (by omega) hx0 (by omega) (by omega) (by omega) (by omega) (by have := HK.out; omega) V hcn (e 0 _ rfl) (e 1 _ rfl) (e 2 _ rfl) (e 3 _ rfl) (g 0 _ rfl) (g 1 _ rfl))
          have HSOME : Hid (Pure.some b lo hi n k = (Pure.ints (b + 1)).any (Pure.okCan b lo hi n k)) := Lib.hid rfl
          obtain ⟨q, hq⟩ : ∃ q, (Pure.ints (b + 1)).any (Pure.okCan b lo hi n k) = q := ⟨_, rfl⟩
          rw [hq] at hcall HSOME
          clear hq
          have HCALL := Lib.hid hcall
          clear hcall
          have HEQ : Hid (∀ j : Nat, j ≤ n → (drawKey n j).sameKey (drawKey n k) = (j == k)) := Lib.hid (fun j hj => by
            by_cases e : j = k
            · subst e
              rw [drawKey_same]
              simp
            · rw [sameKey_ne (drawKey_other (by omega) (by omega) (by omega) (by have := HK.out; omega) e)]
              simp [e])
          cases q
          · go_wp2_with (first | (go_at_call 74; refine (upTo_any _ _).mono ?_; rintro e w' ⟨rfl, rfl⟩) | (go_at_call 73; refine (callsIn_wide.1 HCALL.out).mono ?_; rintro e w5 ⟨rfl, hs5⟩; have hs6 := (((Step.refl HS3.out.memo).alloc (.cells #[.int .i64 n, .int .i64 k] 37)).alloc (.cells #[.int .i64 b] 3)).trans hs5; have d0 := hs5.cell (cell_up (cells_top w2 #[.int .i64 n, .int .i64 k] 37 rfl 0) (.cells #[.int .i64 b] 3)) (by have := HS3.out.memo.lt; simp; omega); have d1 := hs5.cell (cell_up (cells_top w2 #[.int .i64 n, .int .i64 k] 37 rfl 1) (.cells #[.int .i64 b] 3)) (by have := HS3.out.memo.lt; simp; omega); have HS6 := Lib.hid hs6; clear hs5 hs6) | (at_delete; refine wpList_delete_ranges _ rfl _ _ _ _ rfl _ keyedDraw Tryz.underlying131 _ (w.heap.size + 1) R (n + 1) D2 _ cnt2 rfl (HRG2.out.kept HS6.out.grown (by simp; have := HML.out; omega) (by simp; have := HML.out; have := HRW.out; omega)) _ _ rfl (drawKey_of (o := n) (k := k) (by omega) (by omega) (by have := HK.out; omega)) ?_; intro w6 cnt3 hrg3 hle hturn; go_frame))
            rw [strike_twice] at hrg3
            have hh6 := (hturn.grown.block _ (Array.getElem?_eq_some_iff.1 ((HS6.out.grown.block _ (Array.getElem?_eq_some_iff.1 HH3.out).1 (by have := HML.out; simp; omega)).trans HH3.out)).1 (by simp)).trans ((HS6.out.grown.block _ (Array.getElem?_eq_some_iff.1 HH3.out).1 (by have := HML.out; simp; omega)).trans HH3.out)
            have hd6 : Holds n (D2.del (drawKey n k)) (fun j => (left (drawKey n j) && !(drawKey n j).sameKey (drawKey n k)) || Pure.some b lo hi n j) := by
              refine (HD2.out.del (by omega) (by omega) (n := k) (by have := HK.out; omega)).congr (fun j hj => ?_)
              rw [HEQ.out j (by omega)]
              by_cases e : j = k
              · subst e
                rw [HSOME.out, beq_self_eq_true]
                cases left (drawKey n j) <;> rfl
              · rw [beq_false_of_ne e]
                cases left (drawKey n j) <;> cases Pure.some b lo hi n j <;> rfl
            have hs7 := (HS3.out.trans HS6.out).turned hturn.grown (by omega) HML.out
            have HRG6 := Lib.hid hrg3
            have HH6 := Lib.hid hh6
            have HD6 := Lib.hid hd6
            have HS7 := Lib.hid hs7
            have HLE := Lib.hid hle
            clear hrg3 hh6 hd6 hs7 hle
            go_roundw
            case rel =>
              refine ⟨_, _, _, _, _, _, _, _, _, _, _, _, _, _, _, _, _, _, _, _, _, _, ?_, rfl⟩
              exact ⟨_, _, _, HRG6.out, fun l hl => HON.out l (and_left hl), HD6.out, HS7.out, HH6.out⟩
            case measure => rw [HRG6.out.left_eq, HRG.out.left_eq]; exact Nat.lt_of_le_of_lt HLE.out HLT.out
          · go_wp2_with (first | (go_at_call 74; refine (upTo_any _ _).mono ?_; rintro e w' ⟨rfl, rfl⟩) | (go_at_call 73; refine (callsIn_wide.1 HCALL.out).mono ?_; rintro e w5 ⟨rfl, hs5⟩; have hs6 := (((Step.refl HS3.out.memo).alloc (.cells #[.int .i64 n, .int .i64 k] 37)).alloc (.cells #[.int .i64 b] 3)).trans hs5; have HS6 := Lib.hid hs6; clear hs5 hs6))
            have hrg5 := HRG2.out.kept HS6.out.grown (by simp; have := HML.out; omega) (by simp; have := HML.out; have := HRW.out; omega)
            have hh5 := (HS6.out.grown.block _ (Array.getElem?_eq_some_iff.1 HH3.out).1 (by have := HML.out; simp; omega)).trans HH3.out
            have hd5 : Holds n D2 (fun j => (left (drawKey n j) && !(drawKey n j).sameKey (drawKey n k)) || Pure.some b lo hi n j) := by
              refine HD2.out.congr (fun j hj => ?_)
              rw [HEQ.out j (by omega)]
              by_cases e : j = k
              · subst e
                rw [HSOME.out, beq_self_eq_true]
                cases left (drawKey n j) <;> rfl
              · rw [beq_false_of_ne e]
                cases left (drawKey n j) <;> cases Pure.some b lo hi n j <;> rfl
            have HRG5 := Lib.hid hrg5
            have HH5 := Lib.hid hh5
            have HD5 := Lib.hid hd5
            clear hrg5 hh5 hd5
            go_roundw
            case rel =>
              refine ⟨_, _, _, _, _, _, _, _, _, _, _, _, _, _, _, _, _, _, _, _, _, _, ?_, rfl⟩
              exact ⟨_, _, _, HRG5.out, fun l hl => HON.out l (and_left hl), HD5.out, HS3.out.trans HS6.out, HH5.out⟩
            case measure => rw [HRG5.out.left_eq, HRG.out.left_eq]; exact HLT.out

end Go.Proofs.YtjegkkpdemoldaaGreatDoor
