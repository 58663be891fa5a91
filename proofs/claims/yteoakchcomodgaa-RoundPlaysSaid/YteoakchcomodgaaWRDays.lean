/-
  The contracts of the specification's Turnings, Valid and asked.
-/
import Derived.Test.YteoakchcomodgaaWHot
namespace Go.Proofs.Yteoakchcomodgaa
open Go.RowKit

namespace Pure
theorem dayFit_iff {h : Int} {n : Nat} {F : Nat → Int} {l : Nat} {G : Nat → Int} : dayFit h n F l G = true ↔ ((l : Int) ≤ h ∧ (∀ j, j < l → 0 ≤ rickAt n F (G j)) ∧ ∀ j, j < l - 1 → G j < G (j + 1)) := by
  unfold dayFit inOrder
  simp only [Bool.and_eq_true, decide_eq_true_eq, Bool.not_eq_true', List.any_eq_false, List.mem_range, and_assoc]
  constructor
  · rintro ⟨h1, h2, h3⟩
    exact ⟨h1, fun j hj => by have := h2 j hj; omega, h3⟩
  · rintro ⟨h1, h2, h3⟩
    exact ⟨h1, fun j hj => by have := h2 j hj; omega, h3⟩
theorem dayFit_no {h : Int} {n : Nat} {F : Nat → Int} {l : Nat} {G : Nat → Int} (g : ¬ ((l : Int) ≤ h ∧ (∀ j, j < l → 0 ≤ rickAt n F (G j)) ∧ ∀ j, j < l - 1 → G j < G (j + 1))) : dayFit h n F l G = false := by
  cases e : dayFit h n F l G with
  | false => rfl
  | true => exact absurd (dayFit_iff.1 e) g
end Pure
set_option maxHeartbeats 4000000 in
set_option maxRecDepth 100000 in
theorem rTurnings_any (h : Int) (a : Option Addr) (n c : Nat) (F : Nat → Int) (s : Option Addr) (l lc : Nat) (G : Nat → Int) (hn : n ≤ 40) (hl : l ≤ 1000000) (w : World) (hF : NumsAt w a (n * 3) F) (hG : NumsAt w s l G) :
    Calls Try.prog 43 #[watchV h a n c, .slice s l lc] w fun e w' => e = .returned (.bool (Pure.dayFit h n F l G)) ∧ Below w.heap.size w w' := by
  obtain ⟨W, hW⟩ : ∃ W, w.alloc (watchB h a n c) = W := ⟨_, rfl⟩
  have HB : Hid (Below w.heap.size w W) := Lib.hid (by rw [← hW]; exact below_new _ _)
  have HX : Hid (W.heap[w.heap.size]? = some (watchB h a n c)) := Lib.hid (by rw [← hW]; exact heap_top _ _ rfl)
  have HF := Lib.hid (hF.below HB.out)
  have HG := Lib.hid (hG.below HB.out)
  clear hF hG
  have x0 := heap_cell HX.out (j := 0) rfl
  go_enter Try.func43, Try.ntmps43
  go_upto_region 1 with fail
  try rw [hW]
  clear hW
  by_cases hm : (l : Int) ≤ h
  · have HM := Lib.hid hm
    have hm' : ¬ (h < (l : Int)) := by omega
    clear hm
    go_wp2_with fail
    clear x0 hm'
    go_loopw [5] (fun ix wr => ∃ k : Nat, k ≤ l ∧ ix = .int .i64 k ∧ (∀ j, j < k → 0 ≤ Pure.rickAt n F (G j)) ∧ (∀ j, j + 1 < k → G j < G (j + 1)) ∧ Below W.heap.size W wr) (fun ix _ => l - (intOf ix).toNat)
    case atStart => exact ⟨0, Nat.zero_le _, rfl, fun j hj => by omega, fun j hj => by omega, Below.refl _ _⟩
    case round =>
      obtain ⟨k, hk, rfl, hq1, hq2, hb⟩ := hrel
      have HQ1 := Lib.hid hq1
      have HQ2 := Lib.hid hq2
      have HBr := Lib.hid hb
      clear hq1 hq2 hb
      by_cases hk1 : k < l
      · have HK := Lib.hid hk1
        have n1 : (k : Int) < l := by omega
        obtain ⟨g, off, rfl, _⟩ := HG.out k hk1
        have hgr := HG.out.below HBr.out
        have cb := hgr.at hk1
        have x0 := heap_cell (heap_lft HX.out HBr.out) (j := 0) rfl
        have x1 := heap_cell (heap_lft HX.out HBr.out) (j := 1) rfl
        have xcb := among_below cb
        have xx0 := among_below x0
        have xx1 := among_below x1
        obtain ⟨r, hr⟩ : ∃ r, Pure.rickAt n F (G k) = r := ⟨_, rfl⟩
        have HR := Lib.hid hr
        have HC : Hid (∀ xq : Among (Below wr.heap.size wr), Calls Try.prog 51 #[watchV h a n c, .int .i64 (G k)] xq.val fun e w' => e = .returned (.int .i64 r) ∧ ∃ y : Among (Below wr.heap.size wr), w' = y.val) :=
          Lib.hid (fun xq => calls_class ((rRick_any h a n c F (G k) hn xq.val (HF.out.below (below_thn HBr.out xq.ok))).mono fun e w' h => ⟨h.1.trans (ret_int hr), xq.ok.trans (h.2.mono xq.ok.size)⟩))
        clear hr hk1
        by_cases hr0 : r < 0
        · have HR0 := Lib.hid hr0
          have q1 : decide (r < 0) = true := decide_eq_true hr0
          clear hgr hr0
          go_upto_region 6 with fail
          have HSt : Hid (Below wr.heap.size wr wr.drew) := Lib.hid (Below.refl _ _).drew
          have hne : Nonempty (Among (Below wr.heap.size wr)) := ⟨⟨_, HSt.out⟩⟩
          refine wp_region_class (Below wr.heap.size wr) (by kernel_rfl) (by kernel_rfl) HSt.out ?_
          repeat (go_big_quiet_step ((go_at_call 51; exact HC.out _)))
          refine wpQuiet_nil ?_
          intro w8 hx
          have HB8 := Lib.hid (below_thn HBr.out (among_out hx))
          clear hx hne xcb xx0 xx1 q1
          go_wp2_with fail
          go_ret
          exact ⟨ret_bool (Pure.dayFit_no fun g => by have h1 := g.2.1 k HK.out; have h2 := HR.out; have h3 := HR0.out; omega).symm, below_thn HB.out HB8.out⟩
        · have HR0 := Lib.hid hr0
          have q1 : decide (r < 0) = false := decide_eq_false hr0
          clear hr0
          by_cases h0 : k = 0
          · have H0 := Lib.hid h0
            have q2 : decide (0 < k) = false := decide_eq_false (by omega)
            have q2' : decide ((0 : Int) < (k : Int)) = false := decide_eq_false (by omega)
            have q3 : ¬ 0 < k := by omega
            clear hgr h0
            go_upto_region 6 with fail
            have HSt : Hid (Below wr.heap.size wr wr.drew) := Lib.hid (Below.refl _ _).drew
            have hne : Nonempty (Among (Below wr.heap.size wr)) := ⟨⟨_, HSt.out⟩⟩
            refine wp_region_class (Below wr.heap.size wr) (by kernel_rfl) (by kernel_rfl) HSt.out ?_
            repeat (go_big_quiet_step ((go_at_call 51; exact HC.out _)))
            refine wpQuiet_nil ?_
            intro w8 hx
            have HB8 := Lib.hid (below_thn HBr.out (among_out hx))
            clear hx hne xcb xx0 xx1 q1 q2 q2' q3
            go_wp2_with fail
            go_roundw
            case rel => exact ⟨k + 1, HK.out, by go_num, fun j hj => by
              by_cases e : j = k
              · subst e; have h2 := HR.out; have h3 := HR0.out; omega
              · exact HQ1.out j (by omega), fun j hj => by have := H0.out; omega, HB8.out⟩
            case measure => have := HK.out; simp [intOf]; omega
          · obtain ⟨p, rfl⟩ : ∃ p, k = p + 1 := ⟨k - 1, by omega⟩
            have ca := hgr.at (show p < l by have := HK.out; omega)
            have xca := among_below ca
            have q2 : decide (0 < p + 1) = true := decide_eq_true (by omega)
            have q2' : decide ((0 : Int) < (p : Int) + 1) = true := decide_eq_true (by omega)
            have q4 : IntKind.i64.wrap ((p : Int) + 1 - 1) = p := by rw [IntWalk.i64_in _ (by omega)]; omega
            have q5 : ((p : Int) + 1).toNat = p + 1 := by omega
            have q6 : (p : Int) < l := by have := HK.out; omega
            have q7 : (p : Int) + 1 < l := by have := HK.out; omega
            clear hgr h0
            by_cases hlt : G p < G (p + 1)
            · have HLT := Lib.hid hlt
              have q8 : ¬ G (p + 1) ≤ G p := by omega
              clear hlt
              go_upto_region 6 with fail
              have HSt : Hid (Below wr.heap.size wr wr.drew) := Lib.hid (Below.refl _ _).drew
              have hne : Nonempty (Among (Below wr.heap.size wr)) := ⟨⟨_, HSt.out⟩⟩
              refine wp_region_class (Below wr.heap.size wr) (by kernel_rfl) (by kernel_rfl) HSt.out ?_
              repeat (go_big_quiet_step ((go_at_call 51; exact HC.out _)))
              refine wpQuiet_nil ?_
              intro w8 hx
              have HB8 := Lib.hid (below_thn HBr.out (among_out hx))
              clear hx hne xcb xca xx0 xx1 q1 q2 q2' q4 q5 q6 q7
              go_wp2_with fail
              go_roundw
              case rel => exact ⟨p + 1 + 1, HK.out, by go_num, fun j hj => by
                by_cases e : j = p + 1
                · subst e; have h2 := HR.out; have h3 := HR0.out; omega
                · exact HQ1.out j (by omega), fun j hj => by
                by_cases e : j = p
                · subst e; exact HLT.out
                · exact HQ2.out j (by omega), HB8.out⟩
              case measure => have := HK.out; simp [intOf]; omega
            · have HLT := Lib.hid hlt
              have q8 : G (p + 1) ≤ G p := by omega
              clear hlt
              go_upto_region 6 with fail
              have HSt : Hid (Below wr.heap.size wr wr.drew) := Lib.hid (Below.refl _ _).drew
              have hne : Nonempty (Among (Below wr.heap.size wr)) := ⟨⟨_, HSt.out⟩⟩
              refine wp_region_class (Below wr.heap.size wr) (by kernel_rfl) (by kernel_rfl) HSt.out ?_
              repeat (go_big_quiet_step ((go_at_call 51; exact HC.out _)))
              refine wpQuiet_nil ?_
              intro w8 hx
              have HB8 := Lib.hid (below_thn HBr.out (among_out hx))
              clear hx hne xcb xca xx0 xx1 q1 q2 q2' q4 q5 q6 q7
              go_wp2_with fail
              go_ret
              exact ⟨ret_bool (Pure.dayFit_no fun g => by have h1 := g.2.2 p (by have := HK.out; omega); have h2 := HLT.out; omega).symm, below_thn HB.out HB8.out⟩
      · obtain rfl : k = l := by omega
        go_wp2_with fail
        go_ret
        exact ⟨ret_bool (Pure.dayFit_iff.2 ⟨HM.out, HQ1.out, fun j hj => HQ2.out j (by omega)⟩).symm, below_thn HB.out HBr.out⟩
  · have hm' : h < (l : Int) := by omega
    have HM := Lib.hid hm
    clear hm
    go_wp2_with fail
    go_ret
    exact ⟨ret_bool (Pure.dayFit_no fun g => by have h1 := g.1; have h2 := HM.out; omega).symm, HB.out⟩

theorem Pure.daysOk_iff {h : Int} {n : Nat} {F : Nat → Int} {m : Nat} {L : Nat → Nat} {G : Nat → Nat → Int} : Pure.daysOk h n F m L G = true ↔ ((m : Int) ≤ 60 ∧ ∀ j, j < m → Pure.dayFit h n F (L j) (G j) = true) := by
  unfold Pure.daysOk
  simp [List.any_eq_false]
theorem Pure.daysOk_no {h : Int} {n : Nat} {F : Nat → Int} {m : Nat} {L : Nat → Nat} {G : Nat → Nat → Int} (g : ¬ ((m : Int) ≤ 60 ∧ ∀ j, j < m → Pure.dayFit h n F (L j) (G j) = true)) : Pure.daysOk h n F m L G = false := by
  cases e : Pure.daysOk h n F m L G with
  | false => rfl
  | true => exact absurd (Pure.daysOk_iff.1 e) g
set_option maxHeartbeats 4000000 in
set_option maxRecDepth 100000 in
theorem rValid_any (h : Int) (a : Option Addr) (n c : Nat) (F : Nat → Int) (s : Option Addr) (m mc : Nat) (L : Nat → Nat) (G : Nat → Nat → Int) (hn : n ≤ 40) (hm : m ≤ 1000000) (hL : ∀ j, j < m → L j ≤ 1000000) (w : World) (hF : NumsAt w a (n * 3) F) (hG : DaysAt w s m L G) :
    Calls Try.prog 30 #[watchV h a n c, .slice s m mc] w fun e w' => e = .returned (.bool (Pure.daysOk h n F m L G)) ∧ Below w.heap.size w w' := by
  obtain ⟨W, hW⟩ : ∃ W, w.alloc (watchB h a n c) = W := ⟨_, rfl⟩
  have HB : Hid (Below w.heap.size w W) := Lib.hid (by rw [← hW]; exact below_new _ _)
  have HX : Hid (W.heap[w.heap.size]? = some (watchB h a n c)) := Lib.hid (by rw [← hW]; exact heap_top _ _ rfl)
  have HF := Lib.hid (hF.below HB.out)
  have HG := Lib.hid (hG.below HB.out)
  have HL := Lib.hid hL
  clear hF hG hL
  go_enter Try.func30, Try.ntmps30
  go_upto_region 1 with fail
  try rw [hW]
  clear hW
  by_cases h6 : (m : Int) ≤ 60
  · have HM := Lib.hid h6
    have h6' : ¬ (60 < (m : Int)) := by omega
    clear h6
    go_wp2_with fail
    clear h6'
    go_loopw [6, 12] (fun _ ix wr => ∃ k : Nat, k ≤ m ∧ ix = .int .i64 k ∧ (∀ j, j < k → Pure.dayFit h n F (L j) (G j) = true) ∧ Below W.heap.size W wr) (fun _ ix _ => m - (intOf ix).toNat)
    case atStart => exact ⟨0, Nat.zero_le _, rfl, fun j hj => by omega, Below.refl _ _⟩
    case round =>
      obtain ⟨k, hk, rfl, hq, hb⟩ := hrel
      have HQ := Lib.hid hq
      have HBr := Lib.hid hb
      clear hq hb
      by_cases hk1 : k < m
      · have HK := Lib.hid hk1
        have n1 : (k : Int) < m := by omega
        obtain ⟨gs, os, _, _, rfl, _⟩ := HG.out k hk1
        obtain ⟨ds, dc, d0, hds⟩ := (HG.out.below HBr.out).at hk1
        have HDS := Lib.hid hds
        have x0 := heap_cell (heap_lft HX.out HBr.out) (j := 0) rfl
        have x1 := heap_cell (heap_lft HX.out HBr.out) (j := 1) rfl
        clear hds hk1
        go_wp2_with fail
        clear d0 x0 x1
        refine (rTurnings_any h a n c F ds (L k) dc (G k) hn (HL.out k HK.out) _ (HF.out.below HBr.out) HDS.out).mono ?_
        rintro e w2 ⟨rfl, hb⟩
        have HB2 := Lib.hid (below_thn HBr.out hb)
        clear hb
        obtain ⟨b, hbq⟩ : ∃ b, Pure.dayFit h n F (L k) (G k) = b := ⟨_, rfl⟩
        rw [hbq]
        have HBQ := Lib.hid hbq
        clear hbq
        cases b
        · go_wp2_with fail
          go_ret
          exact ⟨ret_bool (Pure.daysOk_no fun g => by have h1 := g.2 k HK.out; rw [HBQ.out] at h1; cases h1).symm, below_thn HB.out HB2.out⟩
        · go_wp2_with fail
          go_roundw
          case rel => exact ⟨k + 1, HK.out, by go_num, fun j hj => by
            by_cases e : j = k
            · subst e; exact HBQ.out
            · exact HQ.out j (by omega), HB2.out⟩
          case measure => have := HK.out; simp [intOf]; omega
      · obtain rfl : k = m := by omega
        go_wp2_with fail
        go_ret
        exact ⟨ret_bool (Pure.daysOk_iff.2 ⟨HM.out, HQ.out⟩).symm, below_thn HB.out HBr.out⟩
  · have h6' : 60 < (m : Int) := by omega
    have HM := Lib.hid h6
    clear h6
    go_wp2_with fail
    go_ret
    exact ⟨ret_bool (Pure.daysOk_no fun g => by have h1 := g.1; have h2 := HM.out; omega).symm, HB.out⟩

set_option maxHeartbeats 4000000 in
set_option maxRecDepth 100000 in
theorem rAsked_any (h : Int) (a : Option Addr) (n c : Nat) (F : Nat → Int) (s : Option Addr) (m mc : Nat) (L : Nat → Nat) (G : Nat → Nat → Int) (hn : n ≤ 40) (hm : m ≤ 1000000) (hL : ∀ j, j < m → L j ≤ 1000000) (w : World) (hF : NumsAt w a (n * 3) F) (hG : DaysAt w s m L G) :
    Calls Try.prog 18 #[watchV h a n c, .slice s m mc] w fun e w' => e = .returned (.int .i64 (Pure.bothE h n F m L G)) ∧ Below w.heap.size w w' := by
  obtain ⟨W, hW⟩ : ∃ W, w.alloc (watchB h a n c) = W := ⟨_, rfl⟩
  have HB : Hid (Below w.heap.size w W) := Lib.hid (by rw [← hW]; exact below_new _ _)
  have HX : Hid (W.heap[w.heap.size]? = some (watchB h a n c)) := Lib.hid (by rw [← hW]; exact heap_top _ _ rfl)
  have HF := Lib.hid (hF.below HB.out)
  have HG := Lib.hid (hG.below HB.out)
  have HL := Lib.hid hL
  clear hF hG hL
  have x0 := heap_cell HX.out (j := 0) rfl
  have x1 := heap_cell HX.out (j := 1) rfl
  go_enter Try.func18, Try.ntmps18
  go_upto_region 1 with fail
  try rw [hW]
  clear hW
  go_wp2_with fail
  refine (rWatch_any h a n c F hn _ HF.out).mono ?_
  rintro e w2 ⟨rfl, hb⟩
  have HB2 := Lib.hid (below_thn HB.out hb)
  have HX2 := Lib.hid (heap_lft HX.out hb)
  have HF2 := Lib.hid (HF.out.below hb)
  have HG2 := Lib.hid (HG.out.below hb)
  clear x0 x1 hb
  obtain ⟨r, hr⟩ : ∃ r, Pure.watch h n F = r := ⟨_, rfl⟩
  rw [hr]
  have HR := Lib.hid hr
  clear hr
  cases r
  · go_wp2_with fail
    go_ret
    exact ⟨ret_int (by simp [Pure.bothE, HR.out]), HB2.out⟩
  · have x0 := heap_cell HX2.out (j := 0) rfl
    have x1 := heap_cell HX2.out (j := 1) rfl
    go_wp2_with fail
    refine (rValid_any h a n c F s m mc L G hn hm HL.out _ HF2.out HG2.out).mono ?_
    rintro e w3 ⟨rfl, hb⟩
    have HB3 := Lib.hid (below_thn HB2.out hb)
    clear x0 x1 hb
    obtain ⟨q, hq⟩ : ∃ q, Pure.daysOk h n F m L G = q := ⟨_, rfl⟩
    rw [hq]
    have HQ := Lib.hid hq
    clear hq
    cases q
    · go_wp2_with fail
      go_ret
      exact ⟨ret_int (by simp [Pure.bothE, HR.out, HQ.out, Pure.err]), HB3.out⟩
    · go_wp2_with fail
      go_ret
      exact ⟨ret_int (by simp [Pure.bothE, HR.out, HQ.out, Pure.err]), HB3.out⟩

end Go.Proofs.Yteoakchcomodgaa
