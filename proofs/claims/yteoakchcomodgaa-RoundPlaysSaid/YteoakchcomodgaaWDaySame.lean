/-
  The contracts of the specification's TwinDays, SameInts, SameDays, SameHeats and GreatDays.
-/
import Derived.Test.YteoakchcomodgaaWRHot
namespace Go.Proofs.Yteoakchcomodgaa
open Go.RowKit

theorem infoInt : ∃ i, Try.prog.info? 3 = some i ∧ i.zero = some (.int .i64 0) ∧ i.size = 1 ∧ i.bytes = 8 := by
  have h : (Try.prog.info? 3).map (fun i => (i.zero, i.size, i.bytes)) = some (some (.int .i64 0), 1, 8) := by kernel_rfl
  obtain ⟨i, hi, h2⟩ := Option.map_eq_some_iff.1 h
  simp only [Prod.mk.injEq] at h2
  exact ⟨i, hi, h2.1, h2.2.1, h2.2.2⟩
theorem infoInts : ∃ i, Try.prog.info? 50 = some i ∧ i.zero = some (.slice none 0 0) ∧ i.size = 1 ∧ i.bytes = 24 := by
  have h : (Try.prog.info? 50).map (fun i => (i.zero, i.size, i.bytes)) = some (some (.slice none 0 0), 1, 24) := by kernel_rfl
  obtain ⟨i, hi, h2⟩ := Option.map_eq_some_iff.1 h
  simp only [Prod.mk.injEq] at h2
  exact ⟨i, hi, h2.1, h2.2.1, h2.2.2⟩
/-- The rows that stand in a list of slices. -/
def RowsIn (w : World) (a : Option Addr) (k : Nat) (L : Nat → Nat) (G : Nat → Nat → Int) (cs : List Value) : Prop :=
  cs.length = k ∧ ∀ j, j < k → ∃ s c, cs[j]? = some (.slice s (L j) c) ∧ NumsAt w s (L j) (G j) ∧ ∀ x y, 0 < L j → s = some x → a = some y → x.block ≠ y.block
theorem rows_days {w : World} {base : Nat} {a : Option Addr} {k cap : Nat} {L : Nat → Nat} {G : Nat → Nat → Int} {cs : List Value} (h : w.ownsRow base 50 1 (.slice a k cap) k cs) (hr : RowsIn w a k L G cs) : DaysAt w a k L G := fun j hj => by
  obtain ⟨s, c, h1, h2, _⟩ := hr.2 j hj
  obtain ⟨g, rfl, h3⟩ := cells_at h (by rw [hr.1, Nat.mul_one]) h1
  exact ⟨g, 0, s, c, rfl, by simpa using h3, h2⟩
theorem nums_kept {w w' : World} {a : Option Addr} {len : Nat} {F : Nat → Int} (h : NumsAt w a len F) (hk : ∀ x, 0 < len → a = some x → w'.heap[x.block]? = w.heap[x.block]?) : NumsAt w' a len F := fun j hj => by
  obtain ⟨b, off, h0, h1⟩ := h j hj
  refine ⟨b, off, h0, ?_⟩
  unfold World.cell?
  rw [hk _ (by omega) h0]
  exact h1
theorem nums_lt {w : World} {a : Option Addr} {len : Nat} {F : Nat → Int} (h : NumsAt w a len F) (x : Addr) (h0 : 0 < len) (hx : a = some x) : x.block < w.heap.size := by
  obtain ⟨b, off, h1, h2⟩ := h 0 h0
  rw [hx] at h1
  cases h1
  exact World.block_lt_of_cell? w _ h2

set_option maxHeartbeats 8000000 in
set_option maxRecDepth 100000 in
theorem twinDays_any (s : Option Addr) (m mc : Nat) (L : Nat → Nat) (G : Nat → Nat → Int) (hm : m ≤ 100) (hL : ∀ j, j < m → L j ≤ 50) (w : World) (hG : DaysAt w s m L G) :
    Calls Try.prog 7 #[.slice s m mc] w fun e w' => ∃ a cap, e = .returned (.slice a m cap) ∧ DaysAt w' a m L G ∧ Below w.heap.size w w' := by
  have HG := Lib.hid hG
  have HL := Lib.hid hL
  clear hG hL
  go_enter Try.func7, Try.ntmps7
  go_wp2_with fail
  go_loopw [3, 5, 8] (fun ov _ ix wr => ∃ k : Nat, k ≤ m ∧ ix = .int .i64 k ∧ (∃ a cap cs, ov = .slice a k cap ∧ wr.ownsRow w.heap.size 50 1 (.slice a k cap) k cs ∧ RowsIn wr a k L G cs) ∧ Below w.heap.size w wr) (fun _ _ ix _ => m - (intOf ix).toNat)
  case atStart => exact ⟨0, Nat.zero_le _, rfl, ⟨none, 0, [], rfl, cells_nil _ _ _ _, rfl, fun j hj => by omega⟩, Below.refl _ _⟩
  case round =>
    obtain ⟨k, hk, rfl, ⟨a, cap, cs, rfl, ho, hrow⟩, hb⟩ := hrel
    have HO := Lib.hid ho
    have HRW := Lib.hid hrow
    have HBr := Lib.hid hb
    clear ho hrow hb
    by_cases hk1 : k < m
    · have HK := Lib.hid hk1
      have n1 : (k : Int) < m := by omega
      obtain ⟨gs, os, _, _, rfl, _⟩ := HG.out k hk1
      obtain ⟨ds, dc, d0, hds⟩ := (HG.out.below HBr.out).at hk1
      have hLk := HL.out k hk1
      obtain ⟨V, hV⟩ : ∃ V, wr.alloc (.cells #[] 3) = V := ⟨_, rfl⟩
      have hbv : Below wr.heap.size wr V := by rw [← hV]; exact below_new _ _
      have ho0 : OwnNums V wr.heap.size 3 1 (some ⟨wr.heap.size, 0, none⟩) 0 0 (G k) := by rw [← hV]; exact own_empty _ _ _ rfl (Nat.le_refl _) _
      obtain ⟨i0, hi0, hz0, hz1, hz2⟩ := infoInt
      obtain ⟨a1, c1, X, hr1, ho1, hal1, hbe1, hnw1⟩ := app_own V wr.heap.size 3 50 50 1 8 i0 _ Try.underlying50 hi0 hz0 hz1 hz2 rfl (by decide) (by decide) ho0 ds (L k) dc (G k) (by rw [Nat.mul_one]; exact hds.below hbv) (fun e => by
        by_cases h0 : L k = 0
        · exact h0
        · obtain ⟨b, off, h1, _⟩ := hds 0 (by omega)
          rw [e] at h1
          cases h1) (by omega) (by omega) (by have := hbv.size; omega)
      rw [Nat.zero_add] at ho1 hr1
      have hn1 : NumsAt X a1 (L k) (G k) := by
        have h1 := ho1.nums
        rw [Nat.mul_one] at h1
        exact h1.congr (fun q hq => by simp [joinF])
      have hbx : Below wr.heap.size wr X := hbv.trans hbe1
      obtain ⟨Y, hY⟩ : ∃ Y, X.alloc (.cells #[.slice a1 (L k) c1] 50) = Y := ⟨_, rfl⟩
      have hby : Below X.heap.size X Y := by rw [← hY]; exact below_new _ _
      have hyx : Y.heap[X.heap.size]? = some (.cells #[.slice a1 (L k) c1] 50) := by rw [← hY]; exact heap_top _ _ rfl
      have hbY : Below wr.heap.size wr Y := below_thn hbx hby
      obtain ⟨i2, hi2, hz3, hz4, hz5⟩ := infoInts
      obtain ⟨a2, c2, Z, hr2, ho2, hal2, hbe2, hnw2⟩ := app_cells Y w.heap.size 50 25 25 1 24 i2 _ Try.underlying25 hi2 hz3 hz4 hz5 rfl (by decide) (by decide) (cells_below HO.out hbY) ⟨X.heap.size, 0, none⟩ 1 1 [.slice a1 (L k) c1] rfl (fun j u hj => by
        have h4 : j = 0 := by
          have := (List.getElem?_eq_some_iff.1 hj).1
          simp at this
          omega
        subst h4
        rw [Go.WideShapes.add_plain]
        simp at hj
        subst hj
        exact heap_cell hyx rfl) (by simp [Value.oneCell']) (by omega) (by omega) (by have h1 := HBr.out.size; have h2 := hbY.size; omega)
      have hkeep : ∀ (t : Option Addr) (l : Nat) (H : Nat → Int), NumsAt Y t l H → (∀ x y, 0 < l → t = some x → a = some y → x.block ≠ y.block) → NumsAt Z t l H := fun t l H hn hne => nums_kept hn (fun x h0 hx => hal2 _ (nums_lt hn x h0 hx) (fun y hy => hne x y h0 hx hy))
      have ha1 : ∀ x, a1 = some x → wr.heap.size ≤ x.block := fun x hx => by
        rcases hnw1 x hx with g | g
        · cases g; exact Nat.le_refl _
        · have := hbv.size; omega
      have halt : ∀ y, a = some y → y.block < wr.heap.size := fun y hy => by
        obtain ⟨e, _⟩ | ⟨g, e, _, h9⟩ := cells_block HO.out
        · rw [e] at hy; cases hy
        · rw [e] at hy
          cases hy
          exact h9
      have ha1lt : ∀ x, 0 < L k → a1 = some x → x.block < Y.heap.size := fun x h0 hx => by have := nums_lt hn1 x h0 hx; have := hby.size; omega
      have hrows : RowsIn Z a2 (k + 1) L G (cs ++ [.slice a1 (L k) c1]) := by
        refine ⟨by rw [List.length_append, HRW.out.1]; rfl, fun j hj => ?_⟩
        by_cases e : j < k
        · obtain ⟨s', c', h1, h2, h3⟩ := HRW.out.2 j e
          refine ⟨s', c', by rw [List.getElem?_append_left (by rw [HRW.out.1]; exact e)]; exact h1, hkeep _ _ _ (h2.below hbY) h3, fun x y h0 hx hy => ?_⟩
          rcases hnw2 y hy with g | g
          · exact h3 x y h0 hx g
          · have h5 := nums_lt h2 x h0 hx
            have h6 := hbY.size
            omega
        · obtain rfl : j = k := by omega
          refine ⟨a1, c1, by rw [List.getElem?_append_right (by rw [HRW.out.1]; exact Nat.le_refl _), HRW.out.1]; simp, hkeep _ _ _ (hn1.below hby) (fun x y h0 hx hy => by have h5 := ha1 x hx; have h6 := halt y hy; omega), fun x y h0 hx hy => ?_⟩
          rcases hnw2 y hy with g | g
          · have h5 := ha1 x hx
            have h6 := halt y g
            omega
          · have h5 := ha1lt x h0 hx
            omega
      have HROWS := Lib.hid hrows
      have HO2 := Lib.hid ho2
      have HBZ : Hid (Below w.heap.size w Z) := Lib.hid ((below_thn HBr.out hbY).trans hbe2)
      rw [← hY] at hr2
      rw [← hV] at hr1
      have HA1 := Lib.hid hr1
      have HA2 := Lib.hid hr2
      clear hY hV hr1 hr2 ho2 ho1 hal1 hal2 hbe1 hbe2 hnw1 hnw2 hkeep ha1 halt ha1lt hrows hbY hby hyx hbx hbv ho0 hn1 hi0 hz0 hz1 hz2 hi2 hz3 hz4 hz5 hds hLk hk1
      go_wp2_with (first | (at_builtin; refine Lib.wpList_append_run _ rfl _ _ _ _ rfl _ _ rfl rfl _ _ HA1.out ?_) | (at_builtin; refine Lib.wpList_append_run _ rfl _ _ _ _ rfl _ _ rfl rfl _ _ HA2.out ?_) | go_in)
      go_roundw
      case rel => exact ⟨k + 1, HK.out, by go_num, ⟨a2, c2, _, rfl, HO2.out, HROWS.out⟩, HBZ.out⟩
      case measure => have := HK.out; simp [intOf]; omega
    · obtain rfl : k = m := by omega
      go_wp2_with fail
      go_ret
      exact ⟨a, cap, rfl, rows_days HO.out HRW.out, HBr.out⟩

set_option maxHeartbeats 1000000 in
set_option maxRecDepth 100000 in
theorem sameInts_any (a a' : Option Addr) (len cap cap' : Nat) (F : Nat → Int) (hl : len ≤ 1000) (w : World) (h : NumsAt w a len F) (h' : NumsAt w a' len F) :
    Calls Try.prog 26 #[.slice a len cap, .slice a' len cap'] w fun e w' => e = .returned (.bool true) ∧ Below w.heap.size w w' := by
  have HA := Lib.hid h
  have HA' := Lib.hid h'
  clear h h'
  go_enter Try.func26, Try.ntmps26
  go_wp2_with fail
  go_loopw [5] (fun i wr => ∃ k : Nat, k ≤ len ∧ i = .int .i64 k ∧ Below w.heap.size w wr) (fun i _ => len - (intOf i).toNat)
  case atStart => exact ⟨0, Nat.zero_le _, rfl, Below.refl _ _⟩
  case round =>
    obtain ⟨k, hk, rfl, hB⟩ := hrel
    by_cases hlt : k < len
    · obtain ⟨b, off, rfl, g0⟩ := HA.out k hlt
      obtain ⟨b', off', rfl, g1⟩ := HA'.out k hlt
      have e0 := below_cell hB g0
      have e1 := below_cell hB g1
      have hk2 : (k : Int) < len := by omega
      have x0 := among_below e0
      have x1 := among_below e1
      have HB := Lib.hid hB
      have HSt : Hid (Below wr.heap.size wr wr.drew) := Lib.hid (Below.refl _ _).drew
      have hne : Nonempty (Among (Below wr.heap.size wr)) := ⟨⟨_, HSt.out⟩⟩
      clear hB g0 g1 e0 e1
      go_wp2_with fail
      refine wp_region_class (Below wr.heap.size wr) (by kernel_rfl) (by kernel_rfl) HSt.out ?_
      repeat (go_big_quiet_step (fail))
      refine wpQuiet_nil ?_
      intro w3 hx
      have HB3 : Hid (Below w.heap.size w w3) := Lib.hid (below_thn HB.out (among_out hx))
      clear hx hne x0 x1
      go_wp2_with fail
      go_roundw
      case rel => exact ⟨k + 1, by omega, by go_num, HB3.out⟩
      case measure => simp [intOf]; omega
    · obtain rfl : k = len := by omega
      go_wp2_with fail
      go_ret
      exact ⟨rfl, hB⟩

set_option maxHeartbeats 8000000 in
set_option maxRecDepth 100000 in
theorem sameDays_any (a : Option Addr) (m ac : Nat) (a' : Option Addr) (ac' : Nat) (L : Nat → Nat) (G : Nat → Nat → Int) (hm : m ≤ 1000) (hL : ∀ j, j < m → L j ≤ 1000) (w : World) (h : DaysAt w a m L G) (h' : DaysAt w a' m L G) :
    Calls Try.prog 16 #[.slice a m ac, .slice a' m ac'] w fun e w' => e = .returned (.bool true) ∧ Below w.heap.size w w' := by
  have HA := Lib.hid h
  have HA' := Lib.hid h'
  have HL := Lib.hid hL
  clear h h' hL
  go_enter Try.func16, Try.ntmps16
  go_wp2_with fail
  go_loopw [5] (fun i wr => ∃ k : Nat, k ≤ m ∧ i = .int .i64 k ∧ Below w.heap.size w wr) (fun i _ => m - (intOf i).toNat)
  case atStart => exact ⟨0, Nat.zero_le _, rfl, Below.refl _ _⟩
  case round =>
    obtain ⟨k, hk, rfl, hB⟩ := hrel
    by_cases hlt : k < m
    · obtain ⟨b, off, _, _, rfl, _⟩ := HA.out k hlt
      obtain ⟨b', off', _, _, rfl, _⟩ := HA'.out k hlt
      obtain ⟨s1, c1, e0, hs1⟩ := (HA.out.below hB).at hlt
      obtain ⟨s2, c2, e1, hs2⟩ := (HA'.out.below hB).at hlt
      have hk2 : (k : Int) < m := by omega
      have x0 := among_below e0
      have x1 := among_below e1
      have HB := Lib.hid hB
      have HK := Lib.hid hlt
      have HC : Hid (∀ xq : Among (Below wr.heap.size wr), Calls Try.prog 26 #[.slice s1 (L k) c1, .slice s2 (L k) c2] xq.val fun e w' => e = .returned (.bool true) ∧ ∃ y : Among (Below wr.heap.size wr), w' = y.val) :=
        Lib.hid (fun xq => calls_class ((sameInts_any s1 s2 (L k) c1 c2 (G k) (HL.out k HK.out) xq.val (hs1.below xq.ok) (hs2.below xq.ok)).mono fun e w' h => ⟨h.1, xq.ok.trans (h.2.mono xq.ok.size)⟩))
      have HSt : Hid (Below wr.heap.size wr wr.drew) := Lib.hid (Below.refl _ _).drew
      have hne : Nonempty (Among (Below wr.heap.size wr)) := ⟨⟨_, HSt.out⟩⟩
      clear hB e0 e1 hs1 hs2 hlt
      go_upto_region 6 with fail
      refine wp_region_class (Below wr.heap.size wr) (by kernel_rfl) (by kernel_rfl) HSt.out ?_
      repeat (go_big_quiet_step ((go_at_call 26; exact HC.out _)))
      refine wpQuiet_nil ?_
      intro w3 hx
      have HB3 : Hid (Below w.heap.size w w3) := Lib.hid (below_thn HB.out (among_out hx))
      clear hx hne x0 x1
      go_wp2_with fail
      go_roundw
      case rel => exact ⟨k + 1, HK.out, by go_num, HB3.out⟩
      case measure => have := HK.out; simp [intOf]; omega
    · obtain rfl : k = m := by omega
      go_wp2_with fail
      go_ret
      exact ⟨rfl, hB⟩

set_option maxHeartbeats 8000000 in
set_option maxRecDepth 100000 in
theorem sameHeats_any (a a' : Option Addr) (cap cap' : Nat) (l : List (Int × Int)) (hl : l.length ≤ 1000) (w : World) (h : HeatsAt w a l) (h' : HeatsAt w a' l) :
    Calls Try.prog 14 #[.slice a l.length cap, .slice a' l.length cap'] w fun e w' => e = .returned (.bool true) ∧ Below w.heap.size w w' := by
  have HA := Lib.hid h
  have HA' := Lib.hid h'
  clear h h'
  obtain ⟨len, hlen⟩ : ∃ x, l.length = x := ⟨_, rfl⟩
  have HLN := Lib.hid hlen
  rw [hlen] at hl ⊢
  clear hlen
  go_enter Try.func14, Try.ntmps14
  go_wp2_with fail
  go_loopw [5] (fun i wr => ∃ k : Nat, k ≤ len ∧ i = .int .i64 k ∧ Below w.heap.size w wr) (fun i _ => len - (intOf i).toNat)
  case atStart => exact ⟨0, Nat.zero_le _, rfl, Below.refl _ _⟩
  case round =>
    obtain ⟨k, hk, rfl, hB⟩ := hrel
    by_cases hlt : k < len
    · have hkl : k < l.length := by rw [HLN.out]; exact hlt
      obtain ⟨b, off, rfl, g0, g1⟩ := HA.out k hkl
      obtain ⟨b', off', rfl, g2, g3⟩ := HA'.out k hkl
      obtain ⟨p, hp⟩ : ∃ p, l[k].1 = p := ⟨_, rfl⟩
      obtain ⟨r, hr⟩ : ∃ r, l[k].2 = r := ⟨_, rfl⟩
      rw [hp] at g0 g2
      rw [hr] at g1 g3
      have e0 := below_cell hB g0
      have e1 := below_cell hB g1
      have e2 := below_cell hB g2
      have e3 := below_cell hB g3
      have hk2 : (k : Int) < len := by omega
      have x0 := among_below e0
      have x1 := among_below e1
      have x2 := among_below e2
      have x3 := among_below e3
      have HB := Lib.hid hB
      have HK := Lib.hid hlt
      have HSt : Hid (Below wr.heap.size wr wr.drew) := Lib.hid (Below.refl _ _).drew
      have hne : Nonempty (Among (Below wr.heap.size wr)) := ⟨⟨_, HSt.out⟩⟩
      clear hB g0 g1 g2 g3 e0 e1 e2 e3 hp hr hkl hlt
      go_upto_region 6 with fail
      refine wp_region_class (Below wr.heap.size wr) (by kernel_rfl) (by kernel_rfl) HSt.out ?_
      repeat (go_big_quiet_step (fail))
      refine wpQuiet_nil ?_
      intro w3 hx
      have HB3 : Hid (Below w.heap.size w w3) := Lib.hid (below_thn HB.out (among_out hx))
      clear hx hne x0 x1 x2 x3
      go_wp2_with fail
      go_roundw
      case rel => exact ⟨k + 1, HK.out, by go_num, HB3.out⟩
      case measure => have := HK.out; simp [intOf]; omega
    · obtain rfl : k = len := by omega
      go_wp2_with fail
      go_ret
      exact ⟨rfl, hB⟩

def Pure.greatD (m : Nat) (L : Nat → Nat) : Bool := !decide (m ≤ 80 ∧ ∀ j, j < m → L j ≤ 10)
set_option maxHeartbeats 8000000 in
set_option maxRecDepth 100000 in
theorem greatDays_any (s : Option Addr) (m mc : Nat) (L : Nat → Nat) (G : Nat → Nat → Int) (w : World) (hG : DaysAt w s m L G) :
    Calls Try.prog 5 #[.slice s m mc] w fun e w' => e = .returned (.bool (Pure.greatD m L)) ∧ Below w.heap.size w w' := by
  have HG := Lib.hid hG
  clear hG
  go_enter Try.func5, Try.ntmps5
  by_cases h8 : m ≤ 80
  · have z1 : ¬ (80 : Int) < (m : Int) := by omega
    have H8 := Lib.hid h8
    go_wp2_with fail
    clear z1
    go_loopw [4, 10] (fun _ ix wr => ∃ k : Nat, k ≤ m ∧ ix = .int .i64 k ∧ (∀ j, j < k → L j ≤ 10) ∧ Below w.heap.size w wr) (fun _ ix _ => m - (intOf ix).toNat)
    case atStart => exact ⟨0, Nat.zero_le _, rfl, fun j hj => by omega, Below.refl _ _⟩
    case round =>
      obtain ⟨k, hk, rfl, hq, hb⟩ := hrel
      have HQ := Lib.hid hq
      have HB := Lib.hid hb
      clear hq hb
      by_cases hk1 : k < m
      · have HK := Lib.hid hk1
        have n1 : (k : Int) < m := by omega
        obtain ⟨gs, os, _, _, rfl, _⟩ := HG.out k hk1
        obtain ⟨ds, dc, d0, _⟩ := (HG.out.below HB.out).at hk1
        by_cases hl : L k ≤ 10
        · have z1 : ¬ (10 : Int) < (L k : Int) := by omega
          have HLK := Lib.hid hl
          go_wp2_with fail
          go_roundw
          case rel => exact ⟨k + 1, HK.out, by go_num, fun j hj => by
            by_cases e : j = k
            · subst e; exact HLK.out
            · exact HQ.out j (by omega), HB.out⟩
          case measure => have := HK.out; simp [intOf]; omega
        · have z1 : (10 : Int) < (L k : Int) := by omega
          have HLK := Lib.hid z1
          go_wp2_with fail
          go_ret
          exact ⟨ret_bool (by
            unfold Pure.greatD
            rw [decide_eq_false (fun g => by have h1 := g.2 k HK.out; have h2 := HLK.out; omega)]
            rfl), HB.out⟩
      · obtain rfl : k = m := by omega
        go_wp2_with fail
        go_ret
        exact ⟨ret_bool (by
          unfold Pure.greatD
          rw [decide_eq_true ⟨H8.out, HQ.out⟩]
          rfl), HB.out⟩
  · have z1 : (80 : Int) < (m : Int) := by omega
    have H8 := Lib.hid z1
    go_wp2_with fail
    go_ret
    exact ⟨ret_bool (by
      unfold Pure.greatD
      rw [decide_eq_false (fun g => by have h1 := g.1; have h2 := H8.out; omega)]
      rfl), Below.refl _ _⟩


end Go.Proofs.Yteoakchcomodgaa
