/-
  The contracts of the specification's Done and played.
-/
import Derived.Test.YteoakchcomodgaaWRDays
namespace Go.Proofs.Yteoakchcomodgaa
open Go.RowKit

namespace Pure
theorem since0 (F S : Nat → Int) (i : Nat) : sinceF F S (i * 3) = F (i * 3) := by
  unfold sinceF
  rw [if_neg (by omega)]
theorem since1 (F S : Nat → Int) (i : Nat) : sinceF F S (i * 3 + 1) = F (i * 3 + 1) := by
  unfold sinceF
  rw [if_neg (by omega)]
theorem since2 (F S : Nat → Int) (i : Nat) : sinceF F S (i * 3 + 2) = S i := by
  unfold sinceF
  rw [if_pos (by omega)]
  congr 1
  omega
theorem since_put (F S : Nat → Int) (k : Nat) (v : Int) : sinceF F (fun i => if i = k then v else S i) = fun q => if q = k * 3 + 2 then v else sinceF F S q := by
  funext q
  unfold sinceF
  by_cases e : q = k * 3 + 2
  · subst e
    rw [if_pos rfl, if_pos (by omega)]
    exact if_pos (by omega)
  · rw [if_neg e]
    by_cases h : q % 3 = 2
    · rw [if_pos h, if_pos h]
      exact if_neg (by omega)
    · rw [if_neg h, if_neg h]
theorem since_congr {F S S' : Nat → Int} {n : Nat} (h : ∀ i, i < n → S i = S' i) : ∀ q, q < n * 3 → sinceF F S q = sinceF F S' q := fun q hq => by
  unfold sinceF
  split
  · exact h _ (by omega)
  · rfl
/-- What ricks have waited, the first of them behind a day. -/
def doneS (F : Nat → Int) (l : Nat) (G : Nat → Int) (S : Nat → Int) (k : Nat) : Nat → Int := fun i => if i < k then (if has l G (F (i * 3)) then 0 else S i + 1) else S i
def doneJ (F : Nat → Int) (G : Nat → Int) (l : Nat) (S : Nat → Int) (k j : Nat) : Nat → Int := fun i => if i = k then (if has j G (F (k * 3)) then 0 else S k + 1) else doneS F l G S k i
theorem has_zero (G : Nat → Int) (x : Int) : has 0 G x = false := rfl
theorem has_next (l : Nat) (G : Nat → Int) (x : Int) : has (l + 1) G x = (has l G x || (G l == x)) := by
  unfold has
  rw [List.range_succ, List.any_append]
  simp
theorem doneJ_zero {F : Nat → Int} {G : Nat → Int} {l : Nat} {S : Nat → Int} {k : Nat} : doneJ F G l S k 0 = fun i => if i = k then S k + 1 else doneS F l G S k i := by
  funext i
  unfold doneJ
  rw [has_zero]
  rfl
theorem doneJ_hit {F : Nat → Int} {G : Nat → Int} {l : Nat} {S : Nat → Int} {k j : Nat} (h : (G j == F (k * 3)) = true) : doneJ F G l S k (j + 1) = fun i => if i = k then 0 else doneJ F G l S k j i := by
  funext i
  unfold doneJ
  rw [has_next, h, Bool.or_true]
  by_cases e : i = k
  · rw [if_pos e, if_pos e]; rfl
  · rw [if_neg e, if_neg e, if_neg e]
theorem doneJ_miss {F : Nat → Int} {G : Nat → Int} {l : Nat} {S : Nat → Int} {k j : Nat} (h : (G j == F (k * 3)) = false) : doneJ F G l S k (j + 1) = doneJ F G l S k j := by
  funext i
  unfold doneJ
  rw [has_next, h, Bool.or_false]
theorem doneJ_end {F : Nat → Int} {G : Nat → Int} {l : Nat} {S : Nat → Int} {k : Nat} : doneJ F G l S k l = doneS F l G S (k + 1) := by
  funext i
  unfold doneJ doneS
  by_cases e : i = k
  · subst e
    rw [if_pos rfl, if_pos (show i < i + 1 from Nat.lt_succ_self i)]
  · have e2 : (i < k + 1) = (i < k) := by apply propext; omega
    simp only [e, if_false, e2]
theorem doneS_all {F : Nat → Int} {n l : Nat} {G : Nat → Int} {S : Nat → Int} : doneS F l G S n = turnedS n (turnT n F l G) S := by
  funext i
  unfold doneS turnedS turnT
  by_cases e : i < n
  · simp only [e, if_true]
  · simp only [e, if_false]
end Pure
def DoneOut (h : Int) (n : Nat) (F S : Nat → Int) (l : Nat) (G : Nat → Int) (w : World) (e : Ending) (w' : World) : Prop :=
  ∃ a1 c1 b, e = .returned (.tuple #[watchV h a1 n c1, .bool b]) ∧ OwnNums w' w.heap.size 47 3 a1 n c1 (Pure.sinceF F (Pure.turnedS n (Pure.turnT n F l G) S)) ∧ Below w.heap.size w w'

set_option maxHeartbeats 8000000 in
set_option maxRecDepth 100000 in
theorem rDone_any (h : Int) (a : Option Addr) (n c : Nat) (F S : Nat → Int) (s : Option Addr) (l lc : Nat) (G : Nat → Int) (hn : n ≤ 4) (hl : l ≤ 1000000) (hnil : a = none → n = 0) (hS : ∀ q, q < n → 0 ≤ S q ∧ S q ≤ 1000000) (w : World) (hF : NumsAt w a (n * 3) (Pure.sinceF F S)) (hG : NumsAt w s l G) :
    Calls Try.prog 31 #[watchV h a n c, .slice s l lc] w (DoneOut h n F S l G w) := by
  obtain ⟨W, hW⟩ : ∃ W, (w.alloc (watchB h a n c)).alloc (watchB 0 none 0 0) = W := ⟨_, rfl⟩
  have HB : Hid (Below w.heap.size w W) := Lib.hid (by rw [← hW]; exact (below_new _ _).alloc (by simp) _)
  have HX : Hid (W.heap[w.heap.size]? = some (watchB h a n c)) := Lib.hid (by rw [← hW]; exact heap_up (heap_top _ _ rfl) _)
  have HY : Hid (W.heap[w.heap.size + 1]? = some (watchB 0 none 0 0)) := Lib.hid (by rw [← hW]; exact heap_top _ _ (by simp))
  have HSZ : Hid (W.heap.size = w.heap.size + 2) := Lib.hid (by rw [← hW]; simp)
  have HF := Lib.hid (hF.below HB.out)
  have HG0 := Lib.hid hG
  have HSS := Lib.hid hS
  clear hF hG hS
  have x0 := heap_cell HX.out (j := 0) rfl
  have x1 := heap_cell HX.out (j := 1) rfl
  go_enter Try.func31, Try.ntmps31
  go_upto_region 1 with fail
  try rw [hW]
  clear hW
  go_wp2_with fail
  refine (twin_any h a n c (Pure.sinceF F S) (by omega) hnil _ HF.out).mono ?_
  rintro e W1 ⟨a1, c1, rfl, ho, hb⟩
  clear x0 x1
  obtain ⟨V, hV⟩ : ∃ V, W1.alloc (watchB h a1 n c1) = V := ⟨_, rfl⟩
  have hbv : Below W1.heap.size W1 V := by rw [← hV]; exact below_new _ _
  have HOV : Hid (OwnNums V W.heap.size 47 3 a1 n c1 (Pure.sinceF F (Pure.doneS F l G S 0))) := Lib.hid ((ho.below hbv).congr (Pure.since_congr (fun i _ => by simp [Pure.doneS])))
  have HUV : Hid (V.heap[W1.heap.size]? = some (watchB h a1 n c1)) := Lib.hid (by rw [← hV]; exact heap_top _ _ rfl)
  have HYV := Lib.hid (heap_lft (heap_lft HY.out hb) hbv)
  have HBV := Lib.hid (below_thn (below_thn HB.out hb) hbv)
  have HSW : Hid (W.heap.size ≤ W1.heap.size) := Lib.hid hb.size
  have HA1 : Hid (∀ x, a1 = some x → x.block < W1.heap.size) := Lib.hid (fun x hx => (ho.lt x hx).2)
  clear hbv ho hb
  go_upto_region 2 with fail
  try rw [hV]
  clear hV
  go_wp2_with fail
  go_loopw [7, 8, 10] (fun bv ix _ wr => ∃ k : Nat, k ≤ n ∧ ix = .int .i64 k ∧ (∃ b, bv = .bool b) ∧ OwnNums wr W.heap.size 47 3 a1 n c1 (Pure.sinceF F (Pure.doneS F l G S k)) ∧ wr.heap[W1.heap.size]? = some (watchB h a1 n c1) ∧ wr.heap[w.heap.size + 1]? = some (watchB 0 none 0 0) ∧ Below w.heap.size w wr) (fun _ ix _ _ => n - (intOf ix).toNat)
  case atStart => exact ⟨0, Nat.zero_le _, rfl, ⟨true, rfl⟩, HOV.out, HUV.out, HYV.out, HBV.out⟩
  case round =>
    obtain ⟨k, hk, rfl, ⟨b, rfl⟩, ho, hu, hy, hb⟩ := hrel
    have HO := Lib.hid ho
    have HU := Lib.hid hu
    have HYr := Lib.hid hy
    have HBr := Lib.hid hb
    clear ho hu hy hb HOV HUV HYV HBV
    have u1 := heap_cell HU.out (j := 1) rfl
    by_cases hk1 : k < n
    · have HK := Lib.hid hk1
      obtain ⟨g, arr, rfl, hg, hga⟩ := HO.out.at (by omega)
      have HGG := Lib.hid hg
      have HGL := Lib.hid (HA1.out _ rfl)
      have n1 : (k : Int) < n := by omega
      have c2 := nums_row (w := wr) HO.out.nums (show k * 3 + 2 < n * 3 by omega)
      have f2 := heap_frozen hga (k * 3 + 2)
      simp only [Nat.zero_add] at c2
      rw [Pure.since2, show Pure.doneS F l G S k k = S k by simp [Pure.doneS]] at c2
      have hw1 : IntKind.i64.wrap (S k + 1) = S k + 1 := IntWalk.i64_in _ (by have := HSS.out k hk1; omega)
      clear hga hg hk1
      go_upto_region 7 with fail
      obtain ⟨Y, hY⟩ : ∃ Y, wr.setCell ⟨g, k * 3 + 2, none⟩ (.int .i64 (S k + 1)) = Y := ⟨_, rfl⟩
      have hsw := HSW.out
      have hsz := HSZ.out
      have hgg := HGG.out
      have hgl := HGL.out
      have HOY : Hid (OwnNums Y W.heap.size 47 3 (some ⟨g, 0, none⟩) n c1 (Pure.sinceF F (Pure.doneJ F G l S k 0))) := Lib.hid (by rw [← hY, Pure.doneJ_zero]; exact HO.out.put (by have := HK.out; omega) (Pure.since_put _ _ _ _))
      have HUY : Hid (Y.heap[W1.heap.size]? = some (watchB h (some ⟨g, 0, none⟩) n c1)) := Lib.hid (by rw [← hY]; exact (setCell_other (by dsimp only at hgl ⊢; omega)).trans HU.out)
      have HYY : Hid (Y.heap[w.heap.size + 1]? = some (watchB 0 none 0 0)) := Lib.hid (by rw [← hY]; exact (setCell_other (by dsimp only; omega)).trans HYr.out)
      have HBY : Hid (Below w.heap.size w Y) := Lib.hid (by rw [← hY]; exact HBr.out.setCell (by dsimp only; omega) _)
      try rw [hY]
      clear hY hsw hsz hgg hgl c2 f2 hw1 u1
      go_wp2_with fail
      obtain ⟨wo, rfl⟩ : ∃ x, x = wr := ⟨_, rfl⟩
      clear HO HU HYr HBr
      go_loopw [10, 31] (fun _ ix wr => ∃ j : Nat, j ≤ l ∧ ix = .int .i64 j ∧ OwnNums wr W.heap.size 47 3 (some ⟨g, 0, none⟩) n c1 (Pure.sinceF F (Pure.doneJ F G l S k j)) ∧ wr.heap[W1.heap.size]? = some (watchB h (some ⟨g, 0, none⟩) n c1) ∧ wr.heap[w.heap.size + 1]? = some (watchB 0 none 0 0) ∧ Below w.heap.size w wr) (fun _ ix _ => l - (intOf ix).toNat)
      case atStart => exact ⟨0, Nat.zero_le _, rfl, HOY.out, HUY.out, HYY.out, HBY.out⟩
      case round =>
        clear HOY HUY HYY HBY
        obtain ⟨j, hj, rfl, ho, hu, hy, hb⟩ := hrel
        have HO := Lib.hid ho
        have HU := Lib.hid hu
        have HYr := Lib.hid hy
        have HBr := Lib.hid hb
        clear ho hu hy hb
        have u1 := heap_cell HU.out (j := 1) rfl
        by_cases hj1 : j < l
        · have HJ := Lib.hid hj1
          have n2 : (j : Int) < l := by omega
          obtain ⟨sg, so, rfl, _⟩ := HG0.out j hj1
          have d0 := (HG0.out.below HBr.out).at hj1
          have c0 := HO.out.nums.at (show k * 3 < n * 3 by have := HK.out; omega)
          simp only [Nat.zero_add] at c0
          rw [Pure.since0] at c0
          clear hj1
          obtain ⟨b, hbq⟩ : ∃ b, (G j == F (k * 3)) = b := ⟨_, rfl⟩
          have HBQ := Lib.hid hbq
          cases b
          · go_wp2_with fail
            go_roundw
            case rel => exact ⟨j + 1, HJ.out, by go_num, by rw [Pure.doneJ_miss HBQ.out]; exact HO.out, HU.out, HYr.out, HBr.out⟩
            case measure => have := HJ.out; simp [intOf]; omega
          · obtain ⟨g', arr, e', _, hga⟩ := HO.out.at (by have := HK.out; omega)
            cases e'
            have c2 := nums_row (w := wr) HO.out.nums (show k * 3 + 2 < n * 3 by have := HK.out; omega)
            have f2 := heap_frozen hga (k * 3 + 2)
            simp only [Nat.zero_add] at c2
            clear hga
            go_wp2_with fail
            have hsw := HSW.out
            have hsz := HSZ.out
            have hgg := HGG.out
            have hgl := HGL.out
            go_roundw
            case rel => exact ⟨j + 1, HJ.out, by go_num, by rw [Pure.doneJ_hit HBQ.out]; exact HO.out.put (by have := HK.out; omega) (Pure.since_put _ _ _ _), (setCell_other (by dsimp only at hgl ⊢; omega)).trans HU.out, (setCell_other (by dsimp only; omega)).trans HYr.out, HBr.out.setCell (by dsimp only; omega) _⟩
            case measure => have := HJ.out; simp [intOf]; omega
        · obtain rfl : j = l := by omega
          have c1 := nums_row (w := wr) HO.out.nums (show k * 3 + 1 < n * 3 by have := HK.out; omega)
          have c2 := nums_row (w := wr) HO.out.nums (show k * 3 + 2 < n * 3 by have := HK.out; omega)
          simp only [Nat.zero_add] at c1 c2
          have xu1 := among_below u1
          have xc1 := among_below c1
          have xc2 := among_below c2
          go_upto_region 13 with fail
          have HSt : Hid (Below wr.heap.size wr wr.drew) := Lib.hid (Below.refl _ _).drew
          have hne : Nonempty (Among (Below wr.heap.size wr)) := ⟨⟨_, HSt.out⟩⟩
          cases b
          all_goals
            refine wp_region_class (Below wr.heap.size wr) (by kernel_rfl) (by kernel_rfl) HSt.out ?_
            repeat (go_big_quiet_step (fail))
            refine wpQuiet_nil ?_
            intro w8 hx
            have hb8 := among_out hx
            have HO8 := Lib.hid (HO.out.below hb8)
            have HU8 := Lib.hid (heap_lft HU.out hb8)
            have HY8 := Lib.hid (heap_lft HYr.out hb8)
            have HB8 := Lib.hid (below_thn HBr.out hb8)
            clear hx hb8 xu1 xc1 xc2 u1 c1 c2
            clear hne
            go_wp2_with fail
            go_roundw
            case rel => exact ⟨k + 1, HK.out, by go_num, ⟨_, rfl⟩, by rw [← Pure.doneJ_end]; exact HO8.out, HU8.out, HY8.out, HB8.out⟩
            case measure => have := HK.out; simp [intOf]; omega
    · obtain rfl : k = n := by omega
      have u0 := heap_cell HU.out (j := 0) rfl
      have u1 := heap_cell HU.out (j := 1) rfl
      have y0 := heap_cell HYr.out (j := 0) rfl
      have y1 := heap_cell HYr.out (j := 1) rfl
      have fy0 := heap_frozen HYr.out 0
      have fy1 := heap_frozen HYr.out 1
      go_wp2_with fail
      have hsz := HSZ.out
      refine bodyPost_ret (v := .tuple #[watchV h a1 k c1, .bool b]) (by simp [results, Try.results31, go_sem, y0, y1]; try rfl) rfl ⟨a1, c1, b, rfl, ?_, ?_⟩
      · rw [← Pure.doneS_all]
        refine OwnNums.base (base := W.heap.size) ?_ (by omega)
        repeat (first | with_reducible exact HO.out | with_reducible refine OwnNums.set ?_ (by first | (simp; done) | (dsimp only; omega)) _)
      · repeat (first | with_reducible exact HBr.out | with_reducible refine Below.setCell ?_ (by first | (simp; done) | (dsimp only; omega)) _)

/-- What the specification's played gives. -/
def RPlayedOut (a : Option Addr) (h : Int) (n : Nat) (F : Nat → Int) (L : Nat → Nat) (G : Nat → Nat → Int) (S : Nat → Int) (m : Nat) (w : World) (e : Ending) (w' : World) : Prop :=
  ∃ a1 c1 ha hc, e = .returned (.tuple #[watchV h a1 n c1, .slice ha (Pure.hots n F L G S m).length hc]) ∧ NumsAt w' a1 (n * 3) (Pure.sinceF F (Pure.st n F L G S m)) ∧ (∀ x, 0 < n * 3 → a1 = some x → a = some x ∨ w.heap.size ≤ x.block) ∧ OwnHeats w' w.heap.size ha hc (Pure.hots n F L G S m) ∧ Below w.heap.size w w'
theorem nums_nil {w : World} {a : Option Addr} {n : Nat} {F : Nat → Int} (h : NumsAt w a (n * 3) F) (e : a = none) : n = 0 := by
  by_cases h0 : n = 0
  · exact h0
  · obtain ⟨b, off, h1, _⟩ := h 0 (by omega)
    rw [e] at h1
    cases h1
theorem app_heat' (w : World) (base : Nat) {a : Option Addr} {cap : Nat} {l : List (Int × Int)} (h : OwnHeats w base a cap l) (v : Nat) (d r : Int) (hv : w.heap[v]? = some (heatB d r)) (hl : l.length ≤ 400) (hbase : base ≤ w.heap.size) (ty : TypeId) :
    ∃ a' cap' w', (Builtin.append_ #[30, 30] ty #[.slice a l.length cap, .slice (some ⟨v, 0, none⟩) 1 1]).run Try.prog w = .ok (.slice a' (l.length + 1) cap') w' ∧ OwnHeats w' base a' cap' (l ++ [(d, r)]) ∧ Alone a w w' ∧ Below base w w' ∧ (∀ x', a' = some x' → a = some x' ∨ w.heap.size ≤ x'.block) := by
  obtain ⟨i0, hi0, hz0, hz1, hz2⟩ := infoHeat
  obtain ⟨a4, c4, Z, hr, ho4, hal, hbe, hnw⟩ := app_cells w base 65 30 ty 2 16 i0 _ Try.underlying30 hi0 hz0 hz1 hz2 rfl (by decide) (by decide) h ⟨v, 0, none⟩ 1 1 [.int .i64 d, .int .i64 r] rfl (fun j u hj => by
    have h4 : j = 0 ∨ j = 1 := by
      have := (List.getElem?_eq_some_iff.1 hj).1
      simp at this
      omega
    rw [Go.WideShapes.add_plain]
    rcases h4 with rfl | rfl <;> (simp at hj; subst hj; exact heap_cell hv rfl)) (by simp [Value.oneCell']) hl (by omega) hbase
  refine ⟨a4, c4, Z, hr, ?_, hal, hbe, hnw⟩
  unfold OwnHeats
  rw [cellsP_append, List.length_append]
  exact ho4
theorem nums_keep {w : World} {p : Addr} {a : Option Addr} {len : Nat} {F : Nat → Int} (h : NumsAt w a len F) (hp : ∀ x, 0 < len → a = some x → x.block ≠ p.block) (u : Value) : NumsAt (w.setCell p u) a len F := fun j hj => by
  obtain ⟨b, off, h0, h1⟩ := h j hj
  refine ⟨b, off, h0, ?_⟩
  unfold World.cell?
  rw [setCell_other (hp _ (by omega) h0)]
  exact h1
theorem heats_lt {w : World} {base : Nat} {a : Option Addr} {cap : Nat} {l : List (Int × Int)} (h : OwnHeats w base a cap l) (x : Addr) (hx : a = some x) : x.block < w.heap.size := by
  obtain ⟨e, _⟩ | ⟨g, e, _, h9⟩ := cells_block h
  · rw [e] at hx; cases hx
  · rw [e] at hx
    cases hx
    exact h9
set_option maxHeartbeats 8000000 in
set_option maxRecDepth 100000 in
theorem rPlayed_any (h : Int) (a : Option Addr) (n c : Nat) (F S : Nat → Int) (s : Option Addr) (m mc : Nat) (L : Nat → Nat) (G : Nat → Nat → Int) (hn : n ≤ 4) (hm : m ≤ 60) (hL : ∀ j, j < m → L j ≤ 1000000) (hS : ∀ q, q < n → 0 ≤ S q ∧ S q ≤ 900000) (w : World) (hF : NumsAt w a (n * 3) (Pure.sinceF F S)) (hG : DaysAt w s m L G) :
    Calls Try.prog 19 #[watchV h a n c, .slice s m mc] w (RPlayedOut a h n F L G S m w) := by
  obtain ⟨W, hW⟩ : ∃ W, (w.alloc (watchB h a n c)).alloc (watchB 0 none 0 0) = W := ⟨_, rfl⟩
  have HB : Hid (Below w.heap.size w W) := Lib.hid (by rw [← hW]; exact (below_new _ _).alloc (by simp) _)
  have HX : Hid (W.heap[w.heap.size]? = some (watchB h a n c)) := Lib.hid (by rw [← hW]; exact heap_up (heap_top _ _ rfl) _)
  have HR : Hid (W.heap[w.heap.size + 1]? = some (watchB 0 none 0 0)) := Lib.hid (by rw [← hW]; exact heap_top _ _ (by simp))
  have HSZ : Hid (W.heap.size = w.heap.size + 2) := Lib.hid (by rw [← hW]; simp)
  have HF := Lib.hid (hF.below HB.out)
  have HCL : Hid (∀ x, 0 < n * 3 → a = some x → x.block ≠ w.heap.size + 1) := Lib.hid (fun x h0 hx => by
    obtain ⟨b, off, h1, h2⟩ := hF 0 h0
    rw [hx] at h1
    cases h1
    have := World.block_lt_of_cell? w _ h2
    dsimp only at this ⊢
    omega)
  have HG := Lib.hid hG
  have HL := Lib.hid hL
  have HSS := Lib.hid hS
  clear hF hG hL hS
  go_enter Try.func19, Try.ntmps19
  go_upto_region 1 with fail
  try rw [hW]
  clear hW
  go_wp2_with fail
  go_loopw [6, 7, 8, 10, 13] (fun hv _ _ _ ix wr => ∃ k : Nat, k ≤ m ∧ ix = .int .i64 k ∧ (∃ ha hc, hv = .slice ha (Pure.hots n F L G S k).length hc ∧ OwnHeats wr W.heap.size ha hc (Pure.hots n F L G S k)) ∧ (∃ a1 c1, wr.heap[w.heap.size]? = some (watchB h a1 n c1) ∧ NumsAt wr a1 (n * 3) (Pure.sinceF F (Pure.st n F L G S k)) ∧ ∀ x, 0 < n * 3 → a1 = some x → a = some x ∨ W.heap.size ≤ x.block) ∧ wr.heap[w.heap.size + 1]? = some (watchB 0 none 0 0) ∧ Below w.heap.size w wr ∧ W.heap.size ≤ wr.heap.size) (fun _ _ _ _ ix _ => m - (intOf ix).toNat)
  case atStart => exact ⟨0, Nat.zero_le _, rfl, ⟨none, 0, rfl, cells_nil _ _ _ _⟩, ⟨a, c, HX.out, HF.out, fun x _ hx => .inl hx⟩, HR.out, HB.out, Nat.le_refl _⟩
  case round =>
    obtain ⟨k, hk, rfl, ⟨ha, hc, rfl, ho⟩, ⟨ak, ck, hx, hf, hcl⟩, hr, hb, hsz⟩ := hrel
    have HO := Lib.hid ho
    have HXr := Lib.hid hx
    have HFr := Lib.hid hf
    have HRr := Lib.hid hr
    have HBr := Lib.hid hb
    have HZr := Lib.hid hsz
    have HCr := Lib.hid hcl
    clear ho hx hf hr hb hsz hcl
    by_cases hk1 : k < m
    · have HK := Lib.hid hk1
      obtain ⟨gs, os, _, _, rfl, _⟩ := HG.out k hk1
      obtain ⟨ds, dc, d0, hds⟩ := (HG.out.below HBr.out).at hk1
      have HDS := Lib.hid hds
      have n1 : (k : Int) < m := by omega
      have x0 := heap_cell HXr.out (j := 0) rfl
      have x1 := heap_cell HXr.out (j := 1) rfl
      clear hds hk1
      go_wp2_with fail
      clear d0 x0 x1
      refine (rDone_any h ak n ck F (Pure.st n F L G S k) ds (L k) dc (G k) hn (HL.out k HK.out) (nums_nil HFr.out) (fun q hq => by have := Pure.st_span n F L G S HSS.out k q hq; have := HK.out; omega) _ HFr.out HDS.out).mono ?_
      rintro e w3 ⟨a1, c1, b1, rfl, hno, hb3⟩
      have HX3 := Lib.hid (heap_lft HXr.out hb3)
      have HR3 := Lib.hid (heap_lft HRr.out hb3)
      have HB3 := Lib.hid (below_thn HBr.out hb3)
      have HO3 := Lib.hid (HO.out.below hb3)
      have HN3 := Lib.hid hno
      have HZ3 : Hid (W.heap.size ≤ w3.heap.size) := Lib.hid (by have h1 := HZr.out; have h2 := hb3.size; omega)
      clear hno hb3
      have x0 := heap_cell HX3.out (j := 0) rfl
      have x1 := heap_cell HX3.out (j := 1) rfl
      have fx0 := heap_frozen HX3.out 0
      have fx1 := heap_frozen HX3.out 1
      go_upto_region 6 with fail
      obtain ⟨Y, hY⟩ : ∃ Y, (w3.setCell ⟨w.heap.size, 0, none⟩ (.int .i64 h)).setCell ⟨w.heap.size, 1, none⟩ (.slice a1 n c1) = Y := ⟨_, rfl⟩
      have hszw := HSZ.out
      have hzr := HZr.out
      have HXY : Hid (Y.heap[w.heap.size]? = some (watchB h a1 n c1)) := Lib.hid (by rw [← hY]; exact heap_set (heap_set HX3.out 0 _) 1 _)
      have HRY : Hid (Y.heap[w.heap.size + 1]? = some (watchB 0 none 0 0)) := Lib.hid (by rw [← hY]; exact (setCell_other (by simp)).trans ((setCell_other (by simp)).trans HR3.out))
      have HBY : Hid (Below w.heap.size w Y) := Lib.hid (by rw [← hY]; exact (HB3.out.setCell (Nat.le_refl _) _).setCell (Nat.le_refl _) _)
      have HOY : Hid (OwnHeats Y W.heap.size ha hc (Pure.hots n F L G S k)) := Lib.hid (by rw [← hY]; exact (HO3.out.set (by dsimp only; omega) _).set (by dsimp only; omega) _)
      have HNY : Hid (OwnNums Y wr.heap.size 47 3 a1 n c1 (Pure.sinceF F (Pure.st n F L G S (k + 1)))) := Lib.hid (by rw [← hY]; exact (HN3.out.set (by dsimp only; omega) _).set (by dsimp only; omega) _)
      have HAP : Hid (Apart ha a1) := Lib.hid (fun x y hx hy e => by have h1 := heats_lt HO.out x hx; have h2 := (HN3.out.lt y hy).1; omega)
      have HZY : Hid (W.heap.size ≤ Y.heap.size) := Lib.hid (by rw [← hY]; simpa using HZ3.out)
      try rw [hY]
      clear hY hszw hzr x0 x1 fx0 fx1 HX3 HR3 HB3 HO3 HN3 HZ3
      have x1 := heap_cell HXY.out (j := 1) rfl
      go_wp2_with fail
      clear x1
      obtain ⟨wo, rfl⟩ : ∃ x, x = wr := ⟨_, rfl⟩
      go_loopw [6, 10, 27] (fun hv _ ix wr => ∃ i : Nat, i ≤ n ∧ ix = .int .i64 i ∧ (∃ ha hc, hv = .slice ha (Pure.hots n F L G S k ++ Pure.hotI F k (Pure.st n F L G S (k + 1)) i).length hc ∧ OwnHeats wr W.heap.size ha hc (Pure.hots n F L G S k ++ Pure.hotI F k (Pure.st n F L G S (k + 1)) i) ∧ Apart ha a1) ∧ wr.heap[w.heap.size]? = some (watchB h a1 n c1) ∧ OwnNums wr wo.heap.size 47 3 a1 n c1 (Pure.sinceF F (Pure.st n F L G S (k + 1))) ∧ wr.heap[w.heap.size + 1]? = some (watchB 0 none 0 0) ∧ Below w.heap.size w wr ∧ W.heap.size ≤ wr.heap.size) (fun _ _ ix _ => n - (intOf ix).toNat)
      case atStart => exact ⟨0, Nat.zero_le _, rfl, ⟨ha, hc, by simp [Pure.hotI], by simpa [Pure.hotI] using HOY.out, HAP.out⟩, HXY.out, HNY.out, HRY.out, HBY.out, HZY.out⟩
      case round =>
        have HZo := HZr
        clear HO HXr HRr HBr HZr HDS HOY HXY HRY HBY HZY HFr HNY HAP
        obtain ⟨i, hi, rfl, ⟨ha, hc, rfl, ho, hap⟩, hx, hf, hr, hb, hsz⟩ := hrel
        have HO := Lib.hid ho
        have HXr := Lib.hid hx
        have HFr := Lib.hid hf
        have HRr := Lib.hid hr
        have HBr := Lib.hid hb
        have HZr := Lib.hid hsz
        have HAP := Lib.hid hap
        clear ho hx hf hr hb hsz hap
        by_cases hi1 : i < n
        · have HI := Lib.hid hi1
          obtain ⟨g, off, rfl, hcc⟩ := HFr.out.nums (i * 3) (by omega)
          clear hcc
          have c0 := HFr.out.nums.at (show i * 3 < n * 3 by omega)
          have c1' := nums_row HFr.out.nums (show i * 3 + 1 < n * 3 by omega)
          have c2 := nums_row HFr.out.nums (show i * 3 + 2 < n * 3 by omega)
          rw [Pure.since0] at c0
          rw [Pure.since1] at c1'
          rw [Pure.since2] at c2
          have n2 : (i : Int) < n := by omega
          go_upto_region 9 with fail
          obtain ⟨Y2, hY⟩ : ∃ Y2, wr.alloc (rickB (F (i * 3)) (F (i * 3 + 1)) (Pure.st n F L G S (k + 1) i)) = Y2 := ⟨_, rfl⟩
          have hby : Below wr.heap.size wr Y2 := by rw [← hY]; exact below_new _ _
          have HYX : Hid (Y2.heap[wr.heap.size]? = some (rickB (F (i * 3)) (F (i * 3 + 1)) (Pure.st n F L G S (k + 1) i))) := Lib.hid (by rw [← hY]; exact heap_top _ _ rfl)
          have HX2 := Lib.hid (heap_lft HXr.out hby)
          have HF2 := Lib.hid (HFr.out.below hby)
          have HR2 := Lib.hid (heap_lft HRr.out hby)
          have HB2 := Lib.hid (below_thn HBr.out hby)
          have HO2 := Lib.hid (HO.out.below hby)
          have HZ2 : Hid (W.heap.size ≤ Y2.heap.size) := Lib.hid (by have h1 := HZr.out; have h2 := hby.size; omega)
          try rw [hY]
          clear hY c0 c1' c2 hby
          have y0 := heap_cell HYX.out (j := 0) rfl
          have y1 := heap_cell HYX.out (j := 1) rfl
          have y2 := heap_cell HYX.out (j := 2) rfl
          obtain ⟨b, hbq⟩ : ∃ b, (Pure.st n F L G S (k + 1) i == F (i * 3 + 1)) = b := ⟨_, rfl⟩
          have HBQ := Lib.hid hbq
          cases b
          · go_wp2_with fail
            clear hbq
            go_roundw
            case rel =>
              have e : Pure.hotI F k (Pure.st n F L G S (k + 1)) (i + 1) = Pure.hotI F k (Pure.st n F L G S (k + 1)) i := by
                rw [Pure.hotI, HBQ.out]
                simp
              exact ⟨i + 1, HI.out, by go_num, ⟨ha, hc, by rw [e], by rw [e]; exact HO2.out, HAP.out⟩, HX2.out, HF2.out, HR2.out, HB2.out, HZ2.out⟩
            case measure => have := HI.out; simp [intOf]; omega
          · have hw1 : IntKind.i64.wrap ((k : Int) + 1) = (k : Int) + 1 := IntWalk.i64_in _ (by omega)
            have hll : (Pure.hots n F L G S k ++ Pure.hotI F k (Pure.st n F L G S (k + 1)) i).length ≤ 400 := by
              have h1 := Pure.hots_len n F L G S k
              have h2 := Pure.hotI_len F k (Pure.st n F L G S (k + 1)) i
              have h3 : k * n ≤ 60 * 4 := Nat.mul_le_mul (by omega) hn
              rw [List.length_append]
              omega
            obtain ⟨lst, hlst⟩ : ∃ x, Pure.hots n F L G S k ++ Pure.hotI F k (Pure.st n F L G S (k + 1)) i = x := ⟨_, rfl⟩
            have hOZ := HO2.out
            rw [hlst] at hll hOZ ⊢
            obtain ⟨V, hV⟩ : ∃ V, Y2.alloc (heatB ((k : Int) + 1) (F (i * 3))) = V := ⟨_, rfl⟩
            have hbv : Below Y2.heap.size Y2 V := by rw [← hV]; exact below_new _ _
            have hvx : V.heap[Y2.heap.size]? = some (heatB ((k : Int) + 1) (F (i * 3))) := by rw [← hV]; exact heap_top _ _ rfl
            obtain ⟨a4, c4, X, hr4, ho4, hal, hbe, hnw⟩ := app_heat' V W.heap.size (hOZ.below hbv) Y2.heap.size _ _ hvx hll (by have h1 := HZ2.out; have h2 := hbv.size; omega) 30
            have hne : ∀ q, q < W.heap.size → ∀ x, ha = some x → q ≠ x.block := fun q hq x hx => by
              obtain ⟨e, _⟩ | ⟨g, e, h8, _⟩ := cells_block hOZ
              · rw [e] at hx; cases hx
              · rw [e] at hx
                cases hx
                dsimp only
                omega
            have hszw := HSZ.out
            have HXX : Hid (X.heap[w.heap.size]? = some (watchB h (some ⟨g, off, none⟩) n c1)) := Lib.hid ((hal _ (by have h1 := HZ2.out; have h2 := hbv.size; omega) (hne _ (by omega))).trans (heap_lft HX2.out hbv))
            have HRX : Hid (X.heap[w.heap.size + 1]? = some (watchB 0 none 0 0)) := Lib.hid ((hal _ (by have h1 := HZ2.out; have h2 := hbv.size; omega) (hne _ (by omega))).trans (heap_lft HR2.out hbv))
            have HBX : Hid (Below w.heap.size w X) := Lib.hid ((below_thn HB2.out hbv).trans (hbe.mono (by omega)))
            have HZX : Hid (W.heap.size ≤ X.heap.size) := Lib.hid (by have h1 := HZ2.out; have h2 := hbv.size; have h3 := hbe.size; omega)
            have HOX := Lib.hid ho4
            rw [← hV] at hr4
            have HAR := Lib.hid hr4
            have HLST := Lib.hid hlst
            have hfv := HF2.out.below hbv
            have HFX : Hid (OwnNums X wo.heap.size 47 3 (some ⟨g, off, none⟩) n c1 (Pure.sinceF F (Pure.st n F L G S (k + 1)))) := Lib.hid (hfv.kept (fun x hx => hal _ (hfv.lt x hx).2 (fun y hy e => HAP.out y x hy hx e.symm)))
            have HAX : Hid (Apart a4 (some ⟨g, off, none⟩)) := Lib.hid (fun x y hx hy => by
              rcases hnw x hx with h1 | h1
              · exact HAP.out x y h1 hy
              · have h2 := (hfv.lt y hy).2
                omega)
            clear hfv hnw
            clear hOZ hbv hvx hr4 ho4 hal hbe hne hszw hV hll hlst
            go_wp2_with (first | (at_builtin; refine Lib.wpList_append_run _ rfl _ _ _ _ rfl _ _ rfl rfl _ _ HAR.out ?_) | go_in)
            go_roundw
            case rel =>
              have e : Pure.hots n F L G S k ++ Pure.hotI F k (Pure.st n F L G S (k + 1)) (i + 1) = lst ++ [((k : Int) + 1, F (i * 3))] := by
                rw [Pure.hotI, HBQ.out, ← HLST.out]
                simp
              exact ⟨i + 1, HI.out, by go_num, ⟨a4, c4, by rw [e]; simp, by rw [e]; exact HOX.out, HAX.out⟩, HXX.out, HFX.out, HRX.out, HBX.out, HZX.out⟩
            case measure => have := HI.out; simp [intOf]; omega
        · obtain rfl : i = n := by omega
          go_wp2_with fail
          go_roundw
          case rel => exact ⟨k + 1, HK.out, by go_num, ⟨ha, hc, rfl, HO.out⟩, ⟨a1, c1, HXr.out, HFr.out.nums, fun x _ hx => .inr (by have h1 := (HFr.out.lt x hx).1; have h2 := HZo.out; omega)⟩, HRr.out, HBr.out, HZr.out⟩
          case measure => have := HK.out; simp [intOf]; omega
    · obtain rfl : k = m := by omega
      have x0 := heap_cell HXr.out (j := 0) rfl
      have x1 := heap_cell HXr.out (j := 1) rfl
      have y0 := heap_cell HRr.out (j := 0) rfl
      have y1 := heap_cell HRr.out (j := 1) rfl
      have fy0 := heap_frozen HRr.out 0
      have fy1 := heap_frozen HRr.out 1
      go_wp2_with fail
      have hszw := HSZ.out
      refine bodyPost_ret (v := .tuple #[watchV h ak n ck, .slice ha (Pure.hots n F L G S k).length hc]) (by simp [results, Try.results19, go_sem, y0, y1]; try rfl) rfl ⟨ak, ck, ha, hc, rfl, ?_, fun x h0 hx => (HCr.out x h0 hx).imp id (fun g => by omega), ?_, ?_⟩
      · have hcl : ∀ x, 0 < n * 3 → ak = some x → x.block ≠ w.heap.size + 1 := fun x h0 hx => by
          rcases HCr.out x h0 hx with g | g
          · exact HCL.out x h0 g
          · omega
        exact nums_keep (nums_keep HFr.out (fun x h0 hx => hcl x h0 hx) _) (fun x h0 hx => hcl x h0 hx) _
      · refine OwnHeats.base (base := W.heap.size) ?_ (by omega)
        repeat (first | with_reducible exact HO.out | with_reducible refine OwnHeats.set ?_ (by first | (simp; done) | (dsimp only; omega)) _)
      · repeat (first | with_reducible exact HBr.out | with_reducible refine Below.setCell ?_ (by first | (simp; done) | (dsimp only; omega)) _)

end Go.Proofs.Yteoakchcomodgaa
