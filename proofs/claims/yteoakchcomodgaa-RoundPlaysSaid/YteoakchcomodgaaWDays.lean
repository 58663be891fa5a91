/-
  Days in memory: slices of slices of numbers; the contracts of what is asked of them, and of Contains at numbers.
-/
import Derived.Test.YteoakchcomodgaaWDelete
import Derived.Test.YteoakchcomodgaaWRef
namespace Go.Proofs.Yteoakchcomodgaa
open Go.RowKit

/-- A slice of slices that read as numbers. -/
def DaysAt (w : World) (a : Option Addr) (n : Nat) (L : Nat → Nat) (G : Nat → Nat → Int) : Prop :=
  ∀ j, j < n → ∃ b off s c, a = some ⟨b, off, none⟩ ∧ w.cell? ⟨b, off + j, none⟩ = some (.slice s (L j) c) ∧ NumsAt w s (L j) (G j)
theorem DaysAt.below {w w' : World} {a : Option Addr} {n : Nat} {L : Nat → Nat} {G : Nat → Nat → Int} (h : DaysAt w a n L G) (hb : Below w.heap.size w w') : DaysAt w' a n L G := fun j hj => by
  obtain ⟨b, off, s, c, h0, h1, h2⟩ := h j hj
  exact ⟨b, off, s, c, h0, below_cell hb h1, h2.below hb⟩
theorem DaysAt.at {w : World} {b off n : Nat} {L : Nat → Nat} {G : Nat → Nat → Int} (h : DaysAt w (some ⟨b, off, none⟩) n L G) {j : Nat} (hj : j < n) : ∃ s c, w.cell? ⟨b, off + j, none⟩ = some (.slice s (L j) c) ∧ NumsAt w s (L j) (G j) := by
  obtain ⟨b', off', s, c, h0, h1, h2⟩ := h j hj
  cases h0
  exact ⟨s, c, h1, h2⟩

namespace Pure
/-- Whether a day's turnings are of a watch. -/
def dayFit (h : Int) (n : Nat) (F : Nat → Int) (l : Nat) (G : Nat → Int) : Bool := decide ((l : Int) ≤ h) && !((List.range l).any fun j => decide (rickAt n F (G j) < 0)) && inOrder (fun j => decide (G j < G (j + 1))) l
def daysOk (h : Int) (n : Nat) (F : Nat → Int) (m : Nat) (L : Nat → Nat) (G : Nat → Nat → Int) : Bool := decide ((m : Int) ≤ 60) && !((List.range m).any fun j => !dayFit h n F (L j) (G j))
def bothE (h : Int) (n : Nat) (F : Nat → Int) (m : Nat) (L : Nat → Nat) (G : Nat → Nat → Int) : Int := if watch h n F then err (daysOk h n F m L G) 72 else 70
/-- Whether a list has a number. -/
def has (l : Nat) (G : Nat → Int) (x : Int) : Bool := (List.range l).any fun j => G j == x
end Pure

set_option maxHeartbeats 1000000 in
set_option maxRecDepth 100000 in
theorem indexUnk_any (B : Nat) (a : Option Addr) (len cap : Nat) (F : Nat → Int) (q : Nat → Bool) (hl : len ≤ 1000000) (w : World) (h : NumsAt w a len F) (hp : ∀ u j, j < len → Below w.heap.size w u → Calls Try.prog 56 #[.int .i64 (F j), .pointer (some ⟨B, 0, none⟩)] u fun e u' => e = .returned (.bool (q j)) ∧ Below u.heap.size u u') :
    Calls Try.prog 70 #[.slice a len cap, .func (.func 56) #[] #[.pointer (some ⟨B, 0, none⟩)]] w fun e w' => e = .returned (.int .i64 (Pure.firstAt q len)) ∧ Below w.heap.size w w' := by
  have HN := Lib.hid h
  have HP := Lib.hid hp
  clear h hp
  go_enter Try.func70, Try.ntmps70
  go_wp2_with fail
  go_loopw [5, 8] (fun _ i wr => ∃ k : Nat, k ≤ len ∧ i = .int .i64 k ∧ (∀ j, j < k → q j = false) ∧ Below w.heap.size w wr) (fun _ i _ => len - (intOf i).toNat)
  case atStart => exact ⟨0, Nat.zero_le _, rfl, fun j hj => by omega, Below.refl _ _⟩
  case round =>
    obtain ⟨k, hk, rfl, hq, hb⟩ := hrel
    have HQ := Lib.hid hq
    have HB := Lib.hid hb
    clear hq hb
    by_cases hk1 : k < len
    · obtain ⟨b, off, rfl, _⟩ := HN.out k hk1
      have c0 := (HN.out.below HB.out).at hk1
      have hcl := HP.out wr k hk1 HB.out
      have HC := Lib.hid hcl
      clear hcl
      cases hqk : q k with
      | true =>
        rw [hqk] at HC
        go_wp2_with (go_at_call 56; refine HC.out.mono ?_; rintro e u ⟨rfl, hb2⟩)
        go_ret
        exact ⟨ret_int (Pure.firstAt_hit hk1 HQ.out hqk).symm, below_thn HB.out hb2⟩
      | false =>
        rw [hqk] at HC
        go_wp2_with (go_at_call 56; refine HC.out.mono ?_; rintro e u ⟨rfl, hb2⟩)
        go_roundw
        case rel => exact ⟨k + 1, by omega, by go_num, fun j hj => by
          by_cases e : j = k
          · subst e; exact hqk
          · exact HQ.out j (by omega), below_thn HB.out hb2⟩
        case measure => simp [intOf]; omega
    · obtain rfl : k = len := by omega
      go_wp2_with fail
      go_ret
      exact ⟨ret_int (Pure.firstAt_none HQ.out).symm, HB.out⟩

set_option maxHeartbeats 1000000 in
set_option maxRecDepth 100000 in
theorem containsUnk_any (B : Nat) (a : Option Addr) (len cap : Nat) (F : Nat → Int) (q : Nat → Bool) (hl : len ≤ 1000000) (w : World) (h : NumsAt w a len F) (hp : ∀ u j, j < len → Below w.heap.size w u → Calls Try.prog 56 #[.int .i64 (F j), .pointer (some ⟨B, 0, none⟩)] u fun e u' => e = .returned (.bool (q j)) ∧ Below u.heap.size u u') :
    Calls Try.prog 58 #[.slice a len cap, .func (.func 56) #[] #[.pointer (some ⟨B, 0, none⟩)]] w fun e w' => e = .returned (.bool ((List.range len).any q)) ∧ Below w.heap.size w w' := by
  go_enter Try.func58, Try.ntmps58
  go_wp2_with fail
  refine (indexUnk_any B a len cap F q hl w h hp).mono ?_
  rintro e u ⟨rfl, hb⟩
  have HF := Lib.hid (Pure.firstAt_some (q := q) (len := len))
  obtain ⟨x, hx⟩ : ∃ x, Pure.firstAt q len = x := ⟨_, rfl⟩
  rw [hx] at HF ⊢
  clear hx
  go_wp2_with fail
  go_ret
  exact ⟨ret_bool HF.out, hb⟩

set_option maxHeartbeats 1000000 in
set_option maxRecDepth 100000 in
theorem indexDays_any (B : Nat) (a : Option Addr) (len cap : Nat) (L : Nat → Nat) (G : Nat → Nat → Int) (q : Nat → Bool) (hl : len ≤ 1000000) (w : World) (h : DaysAt w a len L G) (hp : ∀ u j s c, j < len → Below w.heap.size w u → NumsAt u s (L j) (G j) → Calls Try.prog 47 #[.slice s (L j) c, .pointer (some ⟨B, 0, none⟩)] u fun e u' => e = .returned (.bool (q j)) ∧ Below u.heap.size u u') :
    Calls Try.prog 61 #[.slice a len cap, .func (.func 47) #[] #[.pointer (some ⟨B, 0, none⟩)]] w fun e w' => e = .returned (.int .i64 (Pure.firstAt q len)) ∧ Below w.heap.size w w' := by
  have HN := Lib.hid h
  have HP := Lib.hid hp
  clear h hp
  go_enter Try.func61, Try.ntmps61
  go_wp2_with fail
  go_loopw [5, 8] (fun _ i wr => ∃ k : Nat, k ≤ len ∧ i = .int .i64 k ∧ (∀ j, j < k → q j = false) ∧ Below w.heap.size w wr) (fun _ i _ => len - (intOf i).toNat)
  case atStart => exact ⟨0, Nat.zero_le _, rfl, fun j hj => by omega, Below.refl _ _⟩
  case round =>
    obtain ⟨k, hk, rfl, hq, hb⟩ := hrel
    have HQ := Lib.hid hq
    have HB := Lib.hid hb
    clear hq hb
    by_cases hk1 : k < len
    · obtain ⟨b, off, _, _, rfl, _⟩ := HN.out k hk1
      obtain ⟨s, c, c0, hs⟩ := (HN.out.below HB.out).at hk1
      have hcl := HP.out wr k s c hk1 HB.out hs
      clear hs
      have HC := Lib.hid hcl
      clear hcl
      cases hqk : q k with
      | true =>
        rw [hqk] at HC
        go_wp2_with (go_at_call 47; refine HC.out.mono ?_; rintro e u ⟨rfl, hb2⟩)
        go_ret
        exact ⟨ret_int (Pure.firstAt_hit hk1 HQ.out hqk).symm, below_thn HB.out hb2⟩
      | false =>
        rw [hqk] at HC
        go_wp2_with (go_at_call 47; refine HC.out.mono ?_; rintro e u ⟨rfl, hb2⟩)
        go_roundw
        case rel => exact ⟨k + 1, by omega, by go_num, fun j hj => by
          by_cases e : j = k
          · subst e; exact hqk
          · exact HQ.out j (by omega), below_thn HB.out hb2⟩
        case measure => simp [intOf]; omega
    · obtain rfl : k = len := by omega
      go_wp2_with fail
      go_ret
      exact ⟨ret_int (Pure.firstAt_none HQ.out).symm, HB.out⟩

set_option maxHeartbeats 1000000 in
set_option maxRecDepth 100000 in
theorem containsDays_any (B : Nat) (a : Option Addr) (len cap : Nat) (L : Nat → Nat) (G : Nat → Nat → Int) (q : Nat → Bool) (hl : len ≤ 1000000) (w : World) (h : DaysAt w a len L G) (hp : ∀ u j s c, j < len → Below w.heap.size w u → NumsAt u s (L j) (G j) → Calls Try.prog 47 #[.slice s (L j) c, .pointer (some ⟨B, 0, none⟩)] u fun e u' => e = .returned (.bool (q j)) ∧ Below u.heap.size u u') :
    Calls Try.prog 49 #[.slice a len cap, .func (.func 47) #[] #[.pointer (some ⟨B, 0, none⟩)]] w fun e w' => e = .returned (.bool ((List.range len).any q)) ∧ Below w.heap.size w w' := by
  go_enter Try.func49, Try.ntmps49
  go_wp2_with fail
  refine (indexDays_any B a len cap L G q hl w h hp).mono ?_
  rintro e u ⟨rfl, hb⟩
  have HF := Lib.hid (Pure.firstAt_some (q := q) (len := len))
  obtain ⟨x, hx⟩ : ∃ x, Pure.firstAt q len = x := ⟨_, rfl⟩
  rw [hx] at HF ⊢
  clear hx
  go_wp2_with fail
  go_ret
  exact ⟨ret_bool HF.out, hb⟩

set_option maxHeartbeats 1000000 in
set_option maxRecDepth 100000 in
theorem indexNum_any (a : Option Addr) (len cap : Nat) (F : Nat → Int) (x : Int) (hl : len ≤ 1000000) (w : World) (h : NumsAt w a len F) :
    Calls Try.prog 62 #[.slice a len cap, .int .i64 x] w fun e w' => e = .returned (.int .i64 (Pure.firstAt (fun j => F j == x) len)) ∧ Below w.heap.size w w' := by
  have HN := Lib.hid h
  clear h
  go_enter Try.func62, Try.ntmps62
  go_wp2_with fail
  go_loop [5, 8] (fun _ i => ∃ k : Nat, k ≤ len ∧ i = .int .i64 k ∧ ∀ j, j < k → (F j == x) = false) (fun _ i => len - (intOf i).toNat)
  case atStart => exact ⟨0, Nat.zero_le _, rfl, fun j hj => by omega⟩
  case round =>
    obtain ⟨k, hk, rfl, hq⟩ := hrel
    have HQ := Lib.hid hq
    clear hq
    by_cases hk1 : k < len
    · obtain ⟨b, off, rfl, c0⟩ := HN.out k hk1
      have HK := Lib.hid hk1
      cases hqk : (x == F k) with
      | true =>
        have h2 : (F k == x) = true := by simp at hqk ⊢; exact hqk.symm
        have H2 := Lib.hid h2
        clear h2
        go_wp2_with fail
        go_ret
        exact ⟨ret_int (Pure.firstAt_hit HK.out HQ.out H2.out).symm, Below.refl _ _⟩
      | false =>
        have h2 : (F k == x) = false := by simp at hqk ⊢; exact fun e => hqk e.symm
        have H2 := Lib.hid h2
        clear h2
        go_wp2_with fail
        go_round
        case rel => exact ⟨k + 1, by omega, by go_num, fun j hj => by
          by_cases e : j = k
          · subst e; exact H2.out
          · exact HQ.out j (by omega)⟩
        case measure => simp [intOf]; omega
    · obtain rfl : k = len := by omega
      go_wp2_with fail
      go_ret
      exact ⟨ret_int (Pure.firstAt_none HQ.out).symm, Below.refl _ _⟩

set_option maxHeartbeats 1000000 in
set_option maxRecDepth 100000 in
theorem containsNum_any (a : Option Addr) (len cap : Nat) (F : Nat → Int) (x : Int) (hl : len ≤ 1000000) (w : World) (h : NumsAt w a len F) :
    Calls Try.prog 50 #[.slice a len cap, .int .i64 x] w fun e w' => e = .returned (.bool (Pure.has len F x)) ∧ Below w.heap.size w w' := by
  go_enter Try.func50, Try.ntmps50
  go_wp2_with fail
  refine (indexNum_any a len cap F x hl w h).mono ?_
  rintro e u ⟨rfl, hb⟩
  have HF := Lib.hid (Pure.firstAt_some (q := fun j => F j == x) (len := len))
  obtain ⟨y, hy⟩ : ∃ y, Pure.firstAt (fun j => F j == x) len = y := ⟨_, rfl⟩
  rw [hy] at HF ⊢
  clear hy
  go_wp2_with fail
  go_ret
  exact ⟨ret_bool HF.out, hb⟩

set_option maxHeartbeats 1000000 in
set_option maxRecDepth 100000 in
theorem inOrderInt_any (a : Option Addr) (len cap : Nat) (F : Nat → Int) (q : Nat → Bool) (hl : len ≤ 1000000) (w : World) (h : NumsAt w a (len) F)
    (hp : ∀ u j, j + 1 < len → Below w.heap.size w u → Calls Try.prog 60 #[.int .i64 (F (j)), .int .i64 (F (j + 1))] u fun e u' => e = .returned (.bool (q j)) ∧ Below u.heap.size u u') :
    Calls Try.prog 59 #[.slice a len cap, .func (.func 60) #[] #[]] w fun e w' => e = .returned (.bool (Pure.inOrder q len)) ∧ Below w.heap.size w w' := by
  have HN := Lib.hid h
  have HP := Lib.hid hp
  clear h hp
  go_enter Try.func59, Try.ntmps59
  go_wp2_with fail
  go_loopw [5] (fun i wr => ∃ k : Nat, (k + 1 ≤ len ∨ k = 0) ∧ i = .int .i64 (k + 1) ∧ (∀ j, j < k → q j = true) ∧ Below w.heap.size w wr) (fun i _ => len - (intOf i).toNat)
  case atStart => exact ⟨0, .inr rfl, rfl, fun j hj => by omega, Below.refl _ _⟩
  case round =>
    obtain ⟨k, hk, rfl, hq, hb⟩ := hrel
    have HQ := Lib.hid hq
    have HB := Lib.hid hb
    clear hq hb
    by_cases hk1 : k + 1 < len
    · obtain ⟨b, off, rfl, _⟩ := HN.out k (by omega)
      have n1 : (k : Int) + 1 < len := by omega
      have HNr := Lib.hid (HN.out.below HB.out)
      have ca0 := HNr.out.at (show k < len by omega)
      have cb0 := HNr.out.at (show k + 1 < len by omega)
      have hcl := HP.out
      have q2 : IntKind.i64.wrap ((k : Int) + 1 - 1) = k := by rw [IntWalk.i64_in _ (by omega)]; omega
      have q3 : ((k : Int) + 1).toNat = k + 1 := by omega
      have xca0 := among_below ca0
      have xcb0 := among_below cb0
      have HCL : Hid (∀ xq : Among (Below wr.heap.size wr), Calls Try.prog 60 #[.int .i64 (F k), .int .i64 (F (k + 1))] xq.val fun e w' => e = .returned (.bool (q k)) ∧ ∃ y : Among (Below wr.heap.size wr), w' = y.val) :=
        Lib.hid (fun xq => calls_class ((HP.out xq.val k hk1 (below_thn HB.out xq.ok)).mono fun e w' h => ⟨h.1, xq.ok.trans (h.2.mono xq.ok.size)⟩))
      clear hcl
      go_upto_region 4 with fail
      have HSt : Hid (Below wr.heap.size wr wr.drew) := Lib.hid (Below.refl _ _).drew
      have hne : Nonempty (Among (Below wr.heap.size wr)) := ⟨⟨_, HSt.out⟩⟩
      refine wp_region_class (Below wr.heap.size wr) (by kernel_rfl) (by kernel_rfl) HSt.out ?_
      repeat (go_big_quiet_step ((go_at_call 60; exact HCL.out _)))
      refine wpQuiet_nil ?_
      intro w8 hx
      have HB8 := Lib.hid (below_thn HB.out (among_out hx))
      clear hx hne xca0 xcb0
      cases hqk : q k with
      | true =>
        go_wp2_with fail
        go_roundw
        case rel => exact ⟨k + 1, .inl (by omega), by go_num, fun j hj => by
          by_cases e : j = k
          · subst e; exact hqk
          · exact HQ.out j (by omega), HB8.out⟩
        case measure => simp [intOf]; omega
      | false =>
        go_wp2_with fail
        go_ret
        exact ⟨ret_bool (Pure.inOrder_no hk1 hqk).symm, HB8.out⟩
    · have n1 : ¬ (k : Int) + 1 < len := by omega
      go_wp2_with fail
      go_ret
      exact ⟨ret_bool (Pure.inOrder_yes fun j hj => HQ.out j (by omega)).symm, HB.out⟩

theorem less_any (x y : Int) (w : World) : Calls Try.prog 60 #[.int .i64 x, .int .i64 y] w fun e w' => e = .returned (.bool (decide (x < y))) ∧ Below w.heap.size w w' := by
  go_enter Try.func60, Try.ntmps60
  go_wp2_with fail
  go_ret
  exact ⟨rfl, Below.refl _ _⟩

set_option maxHeartbeats 1000000 in
set_option maxRecDepth 100000 in
theorem unknown_any (B : Nat) (h : Int) (a : Option Addr) (n c : Nat) (F : Nat → Int) (id : Int) (hn : n ≤ 40) (w : World) (hB : w.heap[B]? = some (watchB h a n c)) (hF : NumsAt w a (n * 3) F) :
    Calls Try.prog 56 #[.int .i64 id, .pointer (some ⟨B, 0, none⟩)] w fun e w' => e = .returned (.bool (decide (Pure.rickAt n F id < 0))) ∧ Below w.heap.size w w' := by
  have k0 := heap_cell hB (j := 0) rfl
  have k1 := heap_cell hB (j := 1) rfl
  clear hB
  have HF := Lib.hid hF
  clear hF
  go_enter Try.func56, Try.ntmps56
  go_wp2_with fail
  refine (place_any h a n c F id hn _ HF.out).mono ?_
  rintro e u ⟨rfl, hb⟩
  have HB := Lib.hid hb
  clear k0 k1 hb
  go_wp2_with fail
  go_ret
  exact ⟨rfl, HB.out⟩

set_option maxHeartbeats 2000000 in
set_option maxRecDepth 100000 in
theorem dayFits_any (h : Int) (a : Option Addr) (n c : Nat) (F : Nat → Int) (s : Option Addr) (l lc : Nat) (G : Nat → Int) (hn : n ≤ 40) (hl : l ≤ 1000000) (w : World) (hF : NumsAt w a (n * 3) F) (hG : NumsAt w s l G) :
    Calls Try.prog 48 #[watchV h a n c, .slice s l lc] w fun e w' => e = .returned (.bool (Pure.dayFit h n F l G)) ∧ Below w.heap.size w w' := by
  obtain ⟨W, hW⟩ : ∃ W, w.alloc (watchB h a n c) = W := ⟨_, rfl⟩
  have HB : Hid (Below w.heap.size w W) := Lib.hid (by rw [← hW]; exact below_new _ _)
  have HX : Hid (W.heap[w.heap.size]? = some (watchB h a n c)) := Lib.hid (by rw [← hW]; exact heap_top _ _ rfl)
  have HF := Lib.hid (hF.below HB.out)
  have HG := Lib.hid (hG.below HB.out)
  clear hF hG
  unfold Pure.dayFit
  obtain ⟨r1, hr1⟩ : ∃ r, (List.range l).any (fun j => decide (Pure.rickAt n F (G j) < 0)) = r := ⟨_, rfl⟩
  obtain ⟨r2, hr2⟩ : ∃ r, Pure.inOrder (fun j => decide (G j < G (j + 1))) l = r := ⟨_, rfl⟩
  rw [hr1, hr2]
  have HR1 := Lib.hid hr1
  have HR2 := Lib.hid hr2
  clear hr1 hr2
  have x0 := heap_cell HX.out (j := 0) rfl
  go_enter Try.func48, Try.ntmps48
  go_upto_region 1 with fail
  try rw [hW]
  clear hW
  by_cases hm : (l : Int) ≤ h
  · go_wp2_with fail
    refine (containsUnk_any w.heap.size s l lc G (fun j => decide (Pure.rickAt n F (G j) < 0)) hl W HG.out (fun u j hj hb => unknown_any w.heap.size h a n c F (G j) hn u (heap_lft HX.out hb) (HF.out.below hb))).mono ?_
    rintro e w2 ⟨rfl, hb⟩
    rw [HR1.out]
    have HB2 := Lib.hid (below_thn HB.out hb)
    have HG2 := Lib.hid (HG.out.below hb)
    clear x0 hb
    cases r1
    · go_wp2_with fail
      refine (inOrderInt_any s l lc G (fun j => decide (G j < G (j + 1))) hl w2 HG2.out (fun u j hj hb => less_any _ _ u)).mono ?_
      rintro e w3 ⟨rfl, hb⟩
      rw [HR2.out]
      have HB3 := Lib.hid (below_thn HB2.out hb)
      clear hb
      go_wp2_with fail
      go_ret
      exact ⟨ret_bool (by simp [hm]), HB3.out⟩
    · go_wp2_with fail
      go_ret
      exact ⟨ret_bool (by simp), HB2.out⟩
  · go_wp2_with fail
    go_ret
    exact ⟨ret_bool (by rw [decide_eq_false (show ¬ (l : Int) ≤ h by omega)]; rfl), HB.out⟩

set_option maxHeartbeats 1000000 in
set_option maxRecDepth 100000 in
theorem wrongDay_any (B : Nat) (h : Int) (a : Option Addr) (n c : Nat) (F : Nat → Int) (s : Option Addr) (l lc : Nat) (G : Nat → Int) (hn : n ≤ 40) (hl : l ≤ 1000000) (w : World) (hB : w.heap[B]? = some (watchB h a n c)) (hF : NumsAt w a (n * 3) F) (hG : NumsAt w s l G) :
    Calls Try.prog 47 #[.slice s l lc, .pointer (some ⟨B, 0, none⟩)] w fun e w' => e = .returned (.bool (!Pure.dayFit h n F l G)) ∧ Below w.heap.size w w' := by
  have k0 := heap_cell hB (j := 0) rfl
  have k1 := heap_cell hB (j := 1) rfl
  clear hB
  have HF := Lib.hid hF
  have HG := Lib.hid hG
  clear hF hG
  go_enter Try.func47, Try.ntmps47
  go_wp2_with fail
  refine (dayFits_any h a n c F s l lc G hn hl _ HF.out HG.out).mono ?_
  rintro e u ⟨rfl, hb⟩
  have HB := Lib.hid hb
  clear k0 k1 hb
  go_wp2_with fail
  go_ret
  exact ⟨rfl, HB.out⟩

set_option maxHeartbeats 2000000 in
set_option maxRecDepth 100000 in
theorem checkDays_any (h : Int) (a : Option Addr) (n c : Nat) (F : Nat → Int) (s : Option Addr) (m mc : Nat) (L : Nat → Nat) (G : Nat → Nat → Int) (hn : n ≤ 40) (hm : m ≤ 1000000) (hL : ∀ j, j < m → L j ≤ 1000000) (w : World) (hF : NumsAt w a (n * 3) F) (hG : DaysAt w s m L G) :
    Calls Try.prog 37 #[watchV h a n c, .slice s m mc] w fun e w' => e = .returned (.int .i64 (Pure.err (Pure.daysOk h n F m L G) 72)) ∧ Below w.heap.size w w' := by
  obtain ⟨W, hW⟩ : ∃ W, w.alloc (watchB h a n c) = W := ⟨_, rfl⟩
  have HB : Hid (Below w.heap.size w W) := Lib.hid (by rw [← hW]; exact below_new _ _)
  have HX : Hid (W.heap[w.heap.size]? = some (watchB h a n c)) := Lib.hid (by rw [← hW]; exact heap_top _ _ rfl)
  have HF := Lib.hid (hF.below HB.out)
  have HG := Lib.hid (hG.below HB.out)
  have HL := Lib.hid hL
  clear hF hG hL
  unfold Pure.daysOk
  obtain ⟨r1, hr1⟩ : ∃ r, (List.range m).any (fun j => !Pure.dayFit h n F (L j) (G j)) = r := ⟨_, rfl⟩
  rw [hr1]
  have HR1 := Lib.hid hr1
  clear hr1
  go_enter Try.func37, Try.ntmps37
  go_upto_region 1 with fail
  try rw [hW]
  clear hW
  by_cases h6 : (m : Int) ≤ 60
  · go_wp2_with fail
    refine (containsDays_any w.heap.size s m mc L G (fun j => !Pure.dayFit h n F (L j) (G j)) hm W HG.out (fun u j s' c' hj hb hs => wrongDay_any w.heap.size h a n c F s' (L j) c' (G j) hn (HL.out j hj) u (heap_lft HX.out hb) (HF.out.below hb) hs)).mono ?_
    rintro e w2 ⟨rfl, hb⟩
    rw [HR1.out]
    have HB2 := Lib.hid (below_thn HB.out hb)
    clear hb
    go_wp2_with fail
    refine (unless_any (!r1) 72 _).mono ?_
    rintro e w3 ⟨rfl, rfl⟩
    go_wp2_with fail
    go_ret
    exact ⟨ret_int (by rw [decide_eq_true h6, Bool.true_and]), HB2.out⟩
  · go_wp2_with fail
    refine (unless_any false 72 _).mono ?_
    rintro e w3 ⟨rfl, rfl⟩
    go_wp2_with fail
    go_ret
    exact ⟨ret_int (by rw [decide_eq_false (show ¬ (m : Int) ≤ 60 by omega)]; rfl), HB.out⟩

set_option maxHeartbeats 2000000 in
set_option maxRecDepth 100000 in
theorem checkBoth_any (h : Int) (a : Option Addr) (n c : Nat) (F : Nat → Int) (s : Option Addr) (m mc : Nat) (L : Nat → Nat) (G : Nat → Nat → Int) (hn : n ≤ 40) (hm : m ≤ 1000000) (hL : ∀ j, j < m → L j ≤ 1000000) (w : World) (hF : NumsAt w a (n * 3) F) (hG : DaysAt w s m L G) :
    Calls Try.prog 23 #[watchV h a n c, .slice s m mc] w fun e w' => e = .returned (.int .i64 (Pure.bothE h n F m L G)) ∧ Below w.heap.size w w' := by
  obtain ⟨W, hW⟩ : ∃ W, w.alloc (watchB h a n c) = W := ⟨_, rfl⟩
  have HB : Hid (Below w.heap.size w W) := Lib.hid (by rw [← hW]; exact below_new _ _)
  have HX : Hid (W.heap[w.heap.size]? = some (watchB h a n c)) := Lib.hid (by rw [← hW]; exact heap_top _ _ rfl)
  have HF := Lib.hid (hF.below HB.out)
  have HG := Lib.hid (hG.below HB.out)
  have HL := Lib.hid hL
  clear hF hG hL
  have x0 := heap_cell HX.out (j := 0) rfl
  have x1 := heap_cell HX.out (j := 1) rfl
  go_enter Try.func23, Try.ntmps23
  go_upto_region 1 with fail
  try rw [hW]
  clear hW
  go_wp2_with fail
  refine (check_any h a n c F hn _ HF.out).mono ?_
  rintro e w2 ⟨rfl, hb⟩
  have HB2 := Lib.hid (below_thn HB.out hb)
  have HX2 := Lib.hid (heap_lft HX.out hb)
  have HF2 := Lib.hid (HF.out.below hb)
  have HG2 := Lib.hid (HG.out.below hb)
  clear x0 x1 hb
  have x0 := heap_cell HX2.out (j := 0) rfl
  have x1 := heap_cell HX2.out (j := 1) rfl
  obtain ⟨r, hr⟩ : ∃ r, Pure.watch h n F = r := ⟨_, rfl⟩
  rw [hr]
  have HR := Lib.hid hr
  clear hr
  cases r
  · have e1 : (Pure.err false 70 != 0) = true := rfl
    go_wp2_with fail
    go_ret
    exact ⟨ret_int (by simp [Pure.bothE, HR.out, Pure.err]), HB2.out⟩
  · have e1 : (Pure.err true 70 != 0) = false := rfl
    go_wp2_with fail
    refine (checkDays_any h a n c F s m mc L G hn hm HL.out _ HF2.out HG2.out).mono ?_
    rintro e w3 ⟨rfl, hb⟩
    have HB3 := Lib.hid (below_thn HB2.out hb)
    clear x0 x1 hb
    go_wp2_with fail
    go_ret
    exact ⟨ret_int (by simp [Pure.bothE, HR.out]), HB3.out⟩

end Go.Proofs.Yteoakchcomodgaa
