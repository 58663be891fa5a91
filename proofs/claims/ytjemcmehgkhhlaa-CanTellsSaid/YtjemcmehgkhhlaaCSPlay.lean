/-
  The contract of the specification's Play.
-/
import Derived.Test.YtjemcmehgkhhlaaCSPour
namespace Go.Proofs.Ytjemcmehgkhhlaa
open Go.RowKit

namespace Pure
theorem st_zero {n : Nat} {A X S : Nat → Int} (h0 : ∀ q, n < q → S q = 0) : ∀ i, AllOk n A X S i → ∀ q, n < q → stS A X S i q = 0
  | 0, _, q, hq => h0 q hq
  | i + 1, hi, q, hq => by
    have hv := (hi i (by omega)).1
    unfold validP at hv
    have h := st_zero h0 i (fun j hj => hi j (by omega)) q hq
    simp only [stS, movedS]
    rw [if_neg (by omega), if_neg (by omega)]
    exact h
theorem start_self {m : Nat} {S : Nat → Int} (h0 : ∀ q, m < q → S q = 0) : startS (S 0) m (fun q => S (q + 1)) = S := by
  funext q
  unfold startS
  by_cases e : q = 0
  · rw [if_pos e, e]
  · rw [if_neg e]
    by_cases e2 : q ≤ m
    · rw [if_pos e2]
      show S (q - 1 + 1) = S q
      rw [Nat.sub_add_cancel (by omega)]
    · rw [if_neg e2, h0 q (by omega)]
theorem start_over (k : Int) (m : Nat) (B : Nat → Int) : ∀ q, m < q → startS k m B q = 0 := fun q hq => by
  unfold startS
  rw [if_neg (by omega), if_neg (by omega)]
theorem cans_self {n : Nat} {A S : Nat → Int} (h : Good n A S) (h1 : 1 ≤ n) (h3 : n ≤ 3) : cans n A n (fun q => S (q + 1)) (S 0) = true :=
  cans_yes (by omega) rfl (fun j hj => by have := h.2 j hj; omega) (fun j hj => by have := h.2 j hj; omega) h.1
theorem bk_step {n : Nat} {A X S : Nat → Int} {j : Nat} (h : Fine n A S) (hall : AllOk n A X S j) (hok : okP n A X S j) :
    bkS A X S j + (if stS A X S (j + 1) 0 - stS A X S j 0 > 0 then stS A X S (j + 1) 0 - stS A X S j 0 else 0) = bkS A X S (j + 1) := by
  have hb := pt_fine (fine_st h j hall) hok.1
  have hv := hok.1
  unfold validP at hv
  simp only [bkS, stS, movedS]
  unfold ptS at *
  grind
theorem bk_bound {n : Nat} {A X S : Nat → Int} (h : Fine n A S) : ∀ j, AllOk n A X S j → 0 ≤ bkS A X S j ∧ bkS A X S j ≤ 600 * j
  | 0, _ => by simp [bkS]
  | j + 1, hall => by
    have h1 := bk_bound h j (fun i hi => hall i (by omega))
    have hb := pt_fine (fine_st h j fun i hi => hall i (by omega)) (hall j (by omega)).1
    simp only [bkS]
    split <;> omega
end Pure

set_option maxHeartbeats 16000000 in
set_option maxRecDepth 100000 in
theorem rPlay_any (a : Option Addr) (n c : Nat) (b : Option Addr) (m d : Nat) (k : Int) (la : Option Addr) (len cap : Nat) (A B X : Nat → Int) (hn : n ≤ 60) (hlen : len ≤ 100) (hna : a = none → n = 0) (hnb : b = none → m = 0) (w : World) (hA : NumsAt w a n A) (hB : NumsAt w b m B) (hL : NumsAt w la (len * 2) X) :
    Calls Try.prog 9 #[cansV a n c b m d k, .slice la len cap] w (PlayOut n A m B k len X w) := by
  obtain ⟨W, hW⟩ : ∃ W, (w.alloc (cansB a n c b m d k)).alloc (cansB none 0 0 none 0 0 0) = W := ⟨_, rfl⟩
  have HB0 : Hid (Below w.heap.size w W) := Lib.hid (by rw [← hW]; exact (below_new _ _).alloc (by simp) _)
  have HX0 : Hid (W.heap[w.heap.size]? = some (cansB a n c b m d k)) := Lib.hid (by rw [← hW]; exact heap_up (heap_top _ _ rfl) _)
  have HR0 : Hid (W.heap[w.heap.size + 1]? = some (cansB none 0 0 none 0 0 0)) := Lib.hid (by rw [← hW]; exact heap_top _ _ (by simp))
  have HSZ : Hid (W.heap.size = w.heap.size + 2) := Lib.hid (by rw [← hW]; simp)
  have HA0 := Lib.hid (hA.below HB0.out)
  have HBB0 := Lib.hid (hB.below HB0.out)
  have HLw := Lib.hid hL
  have HL0 := Lib.hid (hL.below HB0.out)
  have HNA := Lib.hid hna
  have HNB := Lib.hid hnb
  clear hA hB hL hna hnb
  have x0 := heap_cell HX0.out (v := .slice a n c) (j := 0) rfl
  have x1 := heap_cell HX0.out (v := .slice b m d) (j := 1) rfl
  have x2 := heap_cell HX0.out (v := .int .i64 k) (j := 2) rfl
  go_enter Try.func9, Try.ntmps9
  go_upto_region 1 with fail
  try rw [hW]
  clear hW
  go_wp2_with fail
  refine (rCans_any a n c b m d k A B hn W HA0.out HBB0.out).mono ?_
  rintro e W1 ⟨rfl, hb⟩
  clear x0 x1 x2
  have HX1 := Lib.hid (heap_lft HX0.out hb)
  have HR1 := Lib.hid (heap_lft HR0.out hb)
  have HA1 := Lib.hid (HA0.out.below hb)
  have HBB1 := Lib.hid (HBB0.out.below hb)
  have HL1 := Lib.hid (HL0.out.below hb)
  have HB1 := Lib.hid (below_thn HB0.out hb)
  have HS1 : Hid (w.heap.size + 2 ≤ W1.heap.size) := Lib.hid (by have h1 := hb.size; have h2 := HSZ.out; omega)
  clear hb
  obtain ⟨q, hq⟩ : ∃ q, Pure.cans n A m B k = q := ⟨_, rfl⟩
  rw [hq]
  have HQ := Lib.hid hq
  clear hq
  cases q
  · have r0 := heap_cell HR1.out (v := .slice none 0 0) (j := 0) rfl
    have r1 := heap_cell HR1.out (v := .slice none 0 0) (j := 1) rfl
    have r2 := heap_cell HR1.out (v := .int .i64 0) (j := 2) rfl
    have s0 := heap_frozen HR1.out 0
    have s1 := heap_frozen HR1.out 1
    have s2 := heap_frozen HR1.out 2
    obtain ⟨T, hT⟩ : ∃ zz, ((W1.setCell ⟨w.heap.size + 1, 0, none⟩ (.slice none 0 0)).setCell ⟨w.heap.size + 1, 1, none⟩ (.slice none 0 0)).setCell ⟨w.heap.size + 1, 2, none⟩ (.int .i64 0) = zz := ⟨_, rfl⟩
    have hv : T.heap[w.heap.size + 1]? = some (cansB none 0 0 none 0 0 0) := by rw [← hT]; exact heap_set (heap_set (heap_set HR1.out 0 _) 1 _) 2 _
    have v0 := heap_cell hv (j := 0) rfl
    have v1 := heap_cell hv (j := 1) rfl
    have v2 := heap_cell hv (j := 2) rfl
    have HVB : Hid (Below w.heap.size w T) := Lib.hid (by rw [← hT]; exact ((HB1.out.setCell (by dsimp only; omega) _).setCell (by dsimp only; omega) _).setCell (by dsimp only; omega) _)
    clear hv
    go_wp2_with fail
    try rw [hT]
    exact bodyPost_ret (v := .tuple #[cansV none 0 0 none 0 0 0, .int .i64 0, .int .i64 0, .int .i64 80]) (by simp [results, Try.results9, go_sem, v0, v1, v2]; try rfl) rfl ⟨none, 0, 0, none, 0, 0, 0, 0, 0, 80, fun _ => 0, fun _ => 0, rfl, own_nil _ _ _ _ _, own_nil _ _ _ _ _, fun _ _ h => (by cases h), .inl ⟨HQ.out, rfl, rfl, rfl, rfl, rfl, rfl⟩, HVB.out⟩
  · obtain ⟨⟨h1, h3, hmn⟩, hfine⟩ := Pure.fine_start HQ.out
    subst hmn
    have HF := Lib.hid hfine
    clear hfine
    have x0 := heap_cell HX1.out (v := .slice a m c) (j := 0) rfl
    have x1 := heap_cell HX1.out (v := .slice b m d) (j := 1) rfl
    have x2 := heap_cell HX1.out (v := .int .i64 k) (j := 2) rfl
    go_wp2_with fail
    refine (twin_any a m c b m d k A B (by omega) (by omega) HNA.out HNB.out W1 (by rw [Nat.mul_one]; exact HA1.out) (by rw [Nat.mul_one]; exact HBB1.out)).mono ?_
    rintro e W2 ⟨a1, c1, b1, d1, rfl, ho1, ho2, hap, hb⟩
    clear x0 x1 x2
    obtain ⟨W3, hW3⟩ : ∃ zz, W2.alloc (cansB a1 m c1 b1 m d1 k) = zz := ⟨_, rfl⟩
    have hb3 : Below W1.heap.size W1 W3 := by rw [← hW3]; exact below_thn hb (below_new _ _)
    obtain ⟨B8, hB8⟩ : ∃ x, W2.heap.size = x := ⟨_, rfl⟩
    have HC0 : Hid (W3.heap[B8]? = some (cansB a1 m c1 b1 m d1 k)) := Lib.hid (by rw [← hW3]; exact heap_top _ _ hB8.symm)
    have HP1 : Hid (OwnNums W3 w.heap.size 3 1 a1 m c1 A) := Lib.hid (by rw [← hW3]; exact (ho1.below (below_new _ _)).base (by have := HS1.out; omega))
    have HP2 : Hid (OwnNums W3 w.heap.size 3 1 b1 m d1 B) := Lib.hid (by rw [← hW3]; exact (ho2.below (below_new _ _)).base (by have := HS1.out; omega))
    have HPA := Lib.hid hap
    have HR3 := Lib.hid (heap_lft HR1.out hb3)
    have HL3 := Lib.hid (HL1.out.below hb3)
    have HB3 := Lib.hid (below_thn HB1.out hb3)
    have HS8 : Hid (w.heap.size + 2 ≤ B8 ∧ B8 < W3.heap.size) := Lib.hid (by have h1 := HS1.out; have h2 := hb.size; have h3 : W3.heap.size = W2.heap.size + 1 := by { rw [← hW3]; simp }; omega)
    clear ho1 ho2 hap hb hb3
    go_wp2_with fail
    try rw [hB8]
    try rw [hW3]
    clear hW3 hB8
    go_loopw [9, 10, 11, 12] (fun bk i _ _ wr => ∃ j : Nat, j ≤ len ∧ i = .int .i64 j ∧ bk = .int .i64 (Pure.bkS A X (startS k m B) j) ∧ AllOk m A X (startS k m B) j ∧ (∃ a1 c1 b1 d1, wr.heap[B8]? = some (cansB a1 m c1 b1 m d1 (Pure.stS A X (startS k m B) j 0)) ∧ OwnNums wr w.heap.size 3 1 a1 m c1 A ∧ OwnNums wr w.heap.size 3 1 b1 m d1 (fun q => Pure.stS A X (startS k m B) j (q + 1)) ∧ Apart b1 a1) ∧ wr.heap[w.heap.size + 1]? = some (cansB none 0 0 none 0 0 0) ∧ NumsAt wr la (len * 2) X ∧ Below w.heap.size w wr) (fun _ i _ _ _ => len - (intOf i).toNat)
    case atStart => exact ⟨0, Nat.zero_le _, rfl, rfl, fun j hj => by omega, ⟨a1, c1, b1, d1, HC0.out, HP1.out, HP2.out.congr (fun q hq => (Pure.start_in (by omega)).symm), HPA.out⟩, HR3.out, HL3.out, HB3.out⟩
    case round =>
      obtain ⟨j, hj, rfl, rfl, hall, ⟨a1, c1, b1, d1, hc, ho1, ho2, hap⟩, hr, hl, hb⟩ := hrel
      have HALL := Lib.hid hall
      have HC := Lib.hid hc
      have HO1 := Lib.hid ho1
      have HO2 := Lib.hid ho2
      have HAP := Lib.hid hap
      have HRr := Lib.hid hr
      have HLr := Lib.hid hl
      have HBr := Lib.hid hb
      have HSW : Hid (B8 < wr.heap.size) := Lib.hid (Array.getElem?_eq_some_iff.1 hc).1
      clear hall hc ho1 ho2 hap hr hl hb
      by_cases hlt : j < len
      · obtain ⟨gl, ol, rfl, _⟩ := HLr.out (j * 2) (by omega)
        have n1 : (j : Int) < len := by omega
        have n0 : (0 : Int) ≤ (j : Int) := by omega
        go_upto_region 7 with fail
        go_cut [11, 12] from 25 to 33 (fun s1 s2 wx => ∃ Bx a2 n2 c2 b2 m2 d2 k2 er A2 B2, s1 = .pointer (some ⟨Bx, 0, none⟩) ∧ s2 = .int .i64 er ∧ wr.heap.size ≤ Bx ∧ wx.heap[Bx]? = some (cansB a2 n2 c2 b2 m2 d2 k2) ∧ OwnNums wx wr.heap.size 3 1 a2 n2 c2 A2 ∧ OwnNums wx wr.heap.size 3 1 b2 m2 d2 B2 ∧ Apart b2 a2 ∧ Pure.PourIs m A m (fun q => (Pure.stS A X (startS k m B) j) (q + 1)) ((Pure.stS A X (startS k m B) j) 0) (X (j * 2)) (X (j * 2 + 1)) n2 A2 m2 B2 k2 er ∧ Below wr.heap.size wr wx)
        case first =>
          rename_i J K' hJ hK'
          generalize hA : (Act.mk _ _ : Act) = a0
          have m1 : At a0 1 (.slice (some ⟨gl, ol, none⟩) len cap) := by rw [← hA]; rfl
          have m8 : At a0 8 (.pointer (some ⟨B8, 0, none⟩)) := by rw [← hA]; rfl
          have m10 : At a0 10 (.int .i64 (j : Int)) := by rw [← hA]; rfl
          have hsz : 33 < a0.tmps.size := by rw [← hA]; exact of_decide_eq_true (by kernel_rfl)
          have hfin : ∀ a' w', Kept (11 :: 12 :: List.range' 25 9) a0 a' → (∃ Bx a2 n2 c2 b2 m2 d2 k2 er A2 B2, (a'.tmps.getD 11 undef) = .pointer (some ⟨Bx, 0, none⟩) ∧ (a'.tmps.getD 12 undef) = .int .i64 er ∧ wr.heap.size ≤ Bx ∧ w'.heap[Bx]? = some (cansB a2 n2 c2 b2 m2 d2 k2) ∧ OwnNums w' wr.heap.size 3 1 a2 n2 c2 A2 ∧ OwnNums w' wr.heap.size 3 1 b2 m2 d2 B2 ∧ Apart b2 a2 ∧ Pure.PourIs m A m (fun q => (Pure.stS A X (startS k m B) j) (q + 1)) ((Pure.stS A X (startS k m B) j) 0) (X (j * 2)) (X (j * 2 + 1)) n2 A2 m2 B2 k2 er ∧ Below wr.heap.size wr w') → K' a' w' := by
            intro a' w' hI hL
            refine hK' _ _ (Met.intro (hJ _ _ ⟨a'.tmps.getD 11 undef, a'.tmps.getD 12 undef, a'.tmps.getD 25 undef, a'.tmps.getD 26 undef, a'.tmps.getD 27 undef, a'.tmps.getD 28 undef, a'.tmps.getD 29 undef, a'.tmps.getD 30 undef, a'.tmps.getD 31 undef, a'.tmps.getD 32 undef, a'.tmps.getD 33 undef, hL, hI.eq.trans ?_⟩))
            rw [← hA]
            kernel_rfl
          have hI : Kept (11 :: 12 :: List.range' 25 9) a0 a0 := Kept.refl _ _
          clear hA hJ hK' J
          refine with_pan (fun d _ _ _ _ h => by cases d <;> exact h) ?_
          intro hpan
          refine wp_region_rest (fun u => u.heap[B8]? = some (cansB a1 m c1 b1 m d1 ((Pure.stS A X (startS k m B) j) 0)) ∧ NumsAt u (some ⟨gl, ol, none⟩) (len * 2) X) (by kernel_rfl) ?_
          obtain ⟨wz, hwz⟩ : ∃ x, wr.drew = x := ⟨_, rfl⟩
          change Rest _ _ _ _ _ _ _ (wr.drew)
          rw [hwz]
          have hq : Below wr.heap.size wr wz := by rw [← hwz]; exact (Below.refl _ _).drew
          have hzs : wz.heap.size = wr.heap.size := by rw [← hwz]; rfl
          clear hwz
          have zc := heap_lft HC.out hq
          have zl := HLr.out.below hq
          have hS : wz.heap[B8]? = some (cansB a1 m c1 b1 m d1 ((Pure.stS A X (startS k m B) j) 0)) ∧ NumsAt wz (some ⟨gl, ol, none⟩) (len * 2) X := ⟨zc, zl⟩
          refine rest_take (k := 0) (d := 26) (v := cansV a1 m c1 b1 m d1 ((Pure.stS A X (startS k m B) j) 0)) hI rfl rfl (by kernel_rfl) (Nat.lt_of_le_of_lt (by decide) hsz) (by kernel_rfl) hpan (by kernel_rfl) hS (wanted_free rfl) (fun z hz => by have n8 := hI.at m8 (by kernel_rfl); have e8 := n8; have f8 := n8.eval; unfold At at e8; have k0 := heap_cell hz.1 (j := 0) rfl; have k1 := heap_cell hz.1 (j := 1) rfl; have k2 := heap_cell hz.1 (j := 2) rfl; simp [go_sem, e8, k0, k1, k2]) (fun a' hI' n26' hk => ?_)
          have n26 := n26'
          replace hI := hI'
          clear hk hI' n26'
          obtain ⟨act9, rfl⟩ : ∃ x, x = a' := ⟨_, rfl⟩
          refine rest_take (k := 1) (d := 27) (v := .slice (some ⟨gl, ol, none⟩) len cap) hI rfl rfl (by kernel_rfl) (Nat.lt_of_le_of_lt (by decide) hsz) (by kernel_rfl) hpan (by kernel_rfl) hS (wanted_free rfl) (fun z hz => by have n1 := hI.at m1 (by kernel_rfl); have e1 := n1; have f1 := n1.eval; unfold At at e1; simp [go_sem, e1]) (fun a' hI' n27' hk => ?_)
          replace n26 := hk _ _ n26 rfl
          have n27 := n27'
          replace hI := hI'
          clear hk hI' n27'
          obtain ⟨act9, rfl⟩ : ∃ x, x = a' := ⟨_, rfl⟩
          refine rest_take (k := 2) (d := 28) (v := .int .i64 (j : Int)) hI rfl rfl (by kernel_rfl) (Nat.lt_of_le_of_lt (by decide) hsz) (by kernel_rfl) hpan (by kernel_rfl) hS (wanted_free rfl) (fun z hz => by have n10 := hI.at m10 (by kernel_rfl); have e10 := n10; have f10 := n10.eval; unfold At at e10; simp [go_sem, e10]) (fun a' hI' n28' hk => ?_)
          replace n26 := hk _ _ n26 rfl
          replace n27 := hk _ _ n27 rfl
          have n28 := n28'
          replace hI := hI'
          clear hk hI' n28'
          obtain ⟨act9, rfl⟩ : ∃ x, x = a' := ⟨_, rfl⟩
          refine rest_take (k := 3) (d := 29) (v := .pointer (some ⟨gl, ol + j * 2, none⟩)) hI rfl rfl (by kernel_rfl) (Nat.lt_of_le_of_lt (by decide) hsz) (by kernel_rfl) hpan (by kernel_rfl) hS (wanted_free rfl) (fun z hz => by have e27 := n27; have f27 := n27.eval; unfold At at e27; have e28 := n28; have f28 := n28.eval; unfold At at e28; simp [go_sem, e27, e28, n1, n0]) (fun a' hI' n29' hk => ?_)
          replace n26 := hk _ _ n26 rfl
          replace n27 := hk _ _ n27 rfl
          replace n28 := hk _ _ n28 rfl
          have n29 := n29'
          replace hI := hI'
          clear hk hI' n29'
          obtain ⟨act9, rfl⟩ : ∃ x, x = a' := ⟨_, rfl⟩
          refine rest_take (k := 4) (d := 30) (v := pourV (X (j * 2)) (X (j * 2 + 1))) hI rfl rfl (by kernel_rfl) (Nat.lt_of_le_of_lt (by decide) hsz) (by kernel_rfl) hpan (by kernel_rfl) hS (wanted_free rfl) (fun z hz => by have e29 := n29; have f29 := n29.eval; unfold At at e29; have q0 := hz.2.at (show j * 2 < len * 2 by omega); have q1 := nums_row hz.2 (show j * 2 + 1 < len * 2 by omega); simp [go_sem, e29, q0, q1]) (fun a' hI' n30' hk => ?_)
          replace n26 := hk _ _ n26 rfl
          replace n27 := hk _ _ n27 rfl
          replace n28 := hk _ _ n28 rfl
          replace n29 := hk _ _ n29 rfl
          have n30 := n30'
          replace hI := hI'
          clear hk hI' n30'
          obtain ⟨act9, rfl⟩ : ∃ x, x = a' := ⟨_, rfl⟩
          refine rest_split [5, 9] (by kernel_rfl) rfl (fun i9 hi9 => ?_)
          have hi9' : i9 = 5 ∨ i9 = 9 := by simpa using hi9
          clear hi9
          rcases hi9' with rfl | rfl
          · refine _root_.id (op_call (k := 5) (d := 31) (R := fun v w' => ∃ a2 n2 c2 b2 m2 d2 k2 er A2 B2, v = .tuple #[cansV a2 n2 c2 b2 m2 d2 k2, .int .i64 er] ∧ OwnNums w' wz.heap.size 3 1 a2 n2 c2 A2 ∧ OwnNums w' wz.heap.size 3 1 b2 m2 d2 B2 ∧ Apart b2 a2 ∧ Pure.PourIs m A m (fun q => (Pure.stS A X (startS k m B) j) (q + 1)) ((Pure.stS A X (startS k m B) j) 0) (X (j * 2)) (X (j * 2 + 1)) n2 A2 m2 B2 k2 er ∧ Below wz.heap.size wz w') hI rfl rfl (by kernel_rfl) (Nat.lt_of_le_of_lt (by decide) hsz) (wanted_free rfl) ((rPour_any a1 m c1 b1 m d1 ((Pure.stS A X (startS k m B) j) 0) (X (j * 2)) (X (j * 2 + 1)) A (fun q => (Pure.stS A X (startS k m B) j) (q + 1)) (by omega) (fun e => (HO1.out.nil e).1) (fun e => (HO2.out.nil e).1) wz (by have h := (HO1.out.nums).below hq; rw [Nat.mul_one] at h; exact h) (by have h := (HO2.out.nums).below hq; rw [Nat.mul_one] at h; exact h)).mono (fun e w' g => by obtain ⟨a2, n2, c2, b2, m2, d2, k2, er, A2, B2, g1, g2⟩ := g; exact ⟨_, g1, a2, n2, c2, b2, m2, d2, k2, er, A2, B2, rfl, g2⟩)) (by have e26 := n26; have f26 := n26.eval; unfold At at e26; have e30 := n30; have f30 := n30.eval; unfold At at e30; simp [go_sem, e26, e30]) ?_)
            intro v w' a' hR hI' n31' hk
            obtain ⟨a2, n2, c2, b2, m2, d2, k2, er, A2, B2, rfl, ho1, ho2, hap, hpi, hbc⟩ := hR
            refine ⟨⟨heap_lft hS.1 hbc, hS.2.below hbc⟩, ?_⟩
            replace n26 := hk _ _ n26 rfl
            replace n27 := hk _ _ n27 rfl
            replace n28 := hk _ _ n28 rfl
            replace n29 := hk _ _ n29 rfl
            replace n30 := hk _ _ n30 rfl
            have n31 := n31'
            replace hI := hI'
            clear hk hI' n31'
            obtain ⟨act9, rfl⟩ : ∃ x, x = a' := ⟨_, rfl⟩
            replace hS := (⟨heap_lft hS.1 hbc, hS.2.below hbc⟩ : _ ∧ _)
            refine rest_take (k := 6) (d := 25) (v := .tuple #[cansV a2 n2 c2 b2 m2 d2 k2, .int .i64 er]) hI rfl rfl (by kernel_rfl) (Nat.lt_of_le_of_lt (by decide) hsz) (by kernel_rfl) hpan (by kernel_rfl) hS (wanted_free rfl) (fun z hz => by have e31 := n31; have f31 := n31.eval; unfold At at e31; simp [go_sem, e31]) (fun a' hI' n25' hk => ?_)
            replace n26 := hk _ _ n26 rfl
            replace n27 := hk _ _ n27 rfl
            replace n28 := hk _ _ n28 rfl
            replace n29 := hk _ _ n29 rfl
            replace n30 := hk _ _ n30 rfl
            replace n31 := hk _ _ n31 rfl
            have n25 := n25'
            replace hI := hI'
            clear hk hI' n25'
            obtain ⟨act9, rfl⟩ : ∃ x, x = a' := ⟨_, rfl⟩
            refine rest_take (k := 7) (d := 32) (v := cansV a2 n2 c2 b2 m2 d2 k2) hI rfl rfl (by kernel_rfl) (Nat.lt_of_le_of_lt (by decide) hsz) (by kernel_rfl) hpan (by kernel_rfl) hS (wanted_free rfl) (fun z hz => by have e25 := n25; have f25 := n25.eval; unfold At at e25; simp [go_sem, e25]) (fun a' hI' n32' hk => ?_)
            replace n26 := hk _ _ n26 rfl
            replace n27 := hk _ _ n27 rfl
            replace n28 := hk _ _ n28 rfl
            replace n29 := hk _ _ n29 rfl
            replace n30 := hk _ _ n30 rfl
            replace n31 := hk _ _ n31 rfl
            replace n25 := hk _ _ n25 rfl
            have n32 := n32'
            replace hI := hI'
            clear hk hI' n32'
            obtain ⟨act9, rfl⟩ : ∃ x, x = a' := ⟨_, rfl⟩
            refine rest_take (k := 8) (d := 33) (v := .int .i64 er) hI rfl rfl (by kernel_rfl) (Nat.lt_of_le_of_lt (by decide) hsz) (by kernel_rfl) hpan (by kernel_rfl) hS (wanted_free rfl) (fun z hz => by have e25 := n25; have f25 := n25.eval; unfold At at e25; simp [go_sem, e25]) (fun a' hI' n33' hk => ?_)
            replace n26 := hk _ _ n26 rfl
            replace n27 := hk _ _ n27 rfl
            replace n28 := hk _ _ n28 rfl
            replace n29 := hk _ _ n29 rfl
            replace n30 := hk _ _ n30 rfl
            replace n31 := hk _ _ n31 rfl
            replace n25 := hk _ _ n25 rfl
            replace n32 := hk _ _ n32 rfl
            have n33 := n33'
            replace hI := hI'
            clear hk hI' n33'
            obtain ⟨act9, rfl⟩ : ∃ x, x = a' := ⟨_, rfl⟩
            refine rest_only (k := 9) (by kernel_rfl) (op_value (k := 9) (d := 11) (v := .pointer (some ⟨w'.heap.size, 0, none⟩)) hI rfl rfl (by kernel_rfl) (Nat.lt_of_le_of_lt (by decide) hsz) (wanted_free rfl) (by simp [go_sem]; try rfl) (fun a' hI' n11' hk => ⟨⟨heap_up hS.1 _, hS.2.below (below_new _ (cansB none 0 0 none 0 0 0))⟩, ?_⟩))
            replace n26 := hk _ _ n26 rfl
            replace n27 := hk _ _ n27 rfl
            replace n28 := hk _ _ n28 rfl
            replace n29 := hk _ _ n29 rfl
            replace n30 := hk _ _ n30 rfl
            replace n31 := hk _ _ n31 rfl
            replace n25 := hk _ _ n25 rfl
            replace n32 := hk _ _ n32 rfl
            replace n33 := hk _ _ n33 rfl
            have n11 := n11'
            replace hI := hI'
            clear hk hI' n11'
            obtain ⟨act9, rfl⟩ : ∃ x, x = a' := ⟨_, rfl⟩
            obtain ⟨Bx, hBx⟩ : ∃ x, w'.heap.size = x := ⟨_, rfl⟩
            have hbs := hbc.size
            have hx : (w'.alloc (cansB none 0 0 none 0 0 0)).heap[Bx]? = some (cansB none 0 0 none 0 0 0) := heap_top _ _ hBx.symm
            have hbx : Below wr.heap.size wr (w'.alloc (cansB none 0 0 none 0 0 0)) := below_thn (below_thn hq hbc) (below_new _ _)
            have hq1 := (ho1.below (below_new _ (cansB none 0 0 none 0 0 0))).base (show wr.heap.size ≤ wz.heap.size by omega)
            have hq2 := (ho2.below (below_new _ (cansB none 0 0 none 0 0 0))).base (show wr.heap.size ≤ wz.heap.size by omega)
            rw [hBx] at n11
            replace hS := (⟨heap_up hS.1 (cansB none 0 0 none 0 0 0), hS.2.below (below_new _ (cansB none 0 0 none 0 0 0))⟩ : _ ∧ _)
            obtain ⟨u9, hu9⟩ : ∃ x, w'.alloc (cansB none 0 0 none 0 0 0) = x := ⟨_, rfl⟩
            rw [show w'.alloc (Obj.cells #[Value.slice none 0 0, Value.slice none 0 0, Value.int IntKind.i64 0] 24) = u9 from hu9]
            rw [hu9] at hx hbx hq1 hq2 hS
            obtain ⟨Z, hZ⟩ : ∃ zz, ((u9.setCell ⟨Bx, 0, none⟩ (.slice a2 n2 c2)).setCell ⟨Bx, 1, none⟩ (.slice b2 m2 d2)).setCell ⟨Bx, 2, none⟩ (.int .i64 k2) = zz := ⟨_, rfl⟩
            have zx : Z.heap[Bx]? = some (cansB a2 n2 c2 b2 m2 d2 k2) := by rw [← hZ]; exact heap_set (heap_set (heap_set hx 0 _) 1 _) 2 _
            have hSZ : Z.heap[B8]? = some (cansB a1 m c1 b1 m d1 ((Pure.stS A X (startS k m B) j) 0)) ∧ NumsAt Z (some ⟨gl, ol, none⟩) (len * 2) X := by
              have hbz : Below wr.heap.size wr Z := by rw [← hZ]; exact ((hbx.setCell (by dsimp only; omega) _).setCell (by dsimp only; omega) _).setCell (by dsimp only; omega) _
              exact ⟨heap_lft HC.out hbz, HLr.out.below hbz⟩
            have hbz : Below wr.heap.size wr Z := by rw [← hZ]; exact ((hbx.setCell (by dsimp only; omega) _).setCell (by dsimp only; omega) _).setCell (by dsimp only; omega) _
            have zhq1 : OwnNums Z wr.heap.size 3 1 a2 n2 c2 A2 := by rw [← hZ]; exact hq1.kept (fun x hx9 => (setCell_other (by have h9 := hq1.ne hx (by decide) x hx9; dsimp only; omega)).trans ((setCell_other (by have h9 := hq1.ne hx (by decide) x hx9; dsimp only; omega)).trans (setCell_other (by have h9 := hq1.ne hx (by decide) x hx9; dsimp only; omega))))
            have zhq2 : OwnNums Z wr.heap.size 3 1 b2 m2 d2 B2 := by rw [← hZ]; exact hq2.kept (fun x hx9 => (setCell_other (by have h9 := hq2.ne hx (by decide) x hx9; dsimp only; omega)).trans ((setCell_other (by have h9 := hq2.ne hx (by decide) x hx9; dsimp only; omega)).trans (setCell_other (by have h9 := hq2.ne hx (by decide) x hx9; dsimp only; omega))))
            refine rest_only (k := 10) (by kernel_rfl) (op_store (k := 10) rfl rfl (wanted_free rfl) (by have e11 := n11; have f11 := n11.eval; unfold At at e11; have e32 := n32; have f32 := n32.eval; unfold At at e32; have k0 := heap_cell hx (j := 0) rfl; have k1 := heap_cell hx (j := 1) rfl; have k2' := heap_cell hx (j := 2) rfl; have f0 := heap_frozen hx 0; have f1 := heap_frozen hx 1; have f2 := heap_frozen hx 2; simp [go_sem, e11, e32, k0, k1, k2', f0, f1, f2]; try rfl) ⟨by rw [hZ]; exact hSZ, ?_⟩)
            rw [hZ]
            replace hS := hSZ
            refine rest_take (k := 11) (d := 12) (v := .int .i64 er) hI rfl rfl (by kernel_rfl) (Nat.lt_of_le_of_lt (by decide) hsz) (by kernel_rfl) hpan (by kernel_rfl) hS (wanted_free rfl) (fun z hz => by have e33 := n33; have f33 := n33.eval; unfold At at e33; simp [go_sem, e33]) (fun a' hI' n12' hk => ?_)
            replace n26 := hk _ _ n26 rfl
            replace n27 := hk _ _ n27 rfl
            replace n28 := hk _ _ n28 rfl
            replace n29 := hk _ _ n29 rfl
            replace n30 := hk _ _ n30 rfl
            replace n31 := hk _ _ n31 rfl
            replace n25 := hk _ _ n25 rfl
            replace n32 := hk _ _ n32 rfl
            replace n33 := hk _ _ n33 rfl
            replace n11 := hk _ _ n11 rfl
            have n12 := n12'
            replace hI := hI'
            clear hk hI' n12'
            obtain ⟨act9, rfl⟩ : ∃ x, x = a' := ⟨_, rfl⟩
            refine rest_done (by kernel_rfl) ?_
            exact hfin _ _ hI ⟨Bx, a2, n2, c2, b2, m2, d2, k2, er, A2, B2, by have g := n11; unfold At at g; rw [Array.getD_eq_getD_getElem?, g]; rfl, by have g := n12; unfold At at g; rw [Array.getD_eq_getD_getElem?, g]; rfl, by omega, zx, zhq1, zhq2, hap, hpi, hbz⟩
          · refine _root_.id (op_value (k := 9) (d := 11) (v := .pointer (some ⟨wz.heap.size, 0, none⟩)) hI rfl rfl (by kernel_rfl) (Nat.lt_of_le_of_lt (by decide) hsz) (wanted_free rfl) (by simp [go_sem]; try rfl) (fun a' hI' n11' hk => ⟨⟨heap_up hS.1 _, hS.2.below (below_new _ (cansB none 0 0 none 0 0 0))⟩, ?_⟩))
            replace n26 := hk _ _ n26 rfl
            replace n27 := hk _ _ n27 rfl
            replace n28 := hk _ _ n28 rfl
            replace n29 := hk _ _ n29 rfl
            replace n30 := hk _ _ n30 rfl
            have n11 := n11'
            replace hI := hI'
            clear hk hI' n11'
            obtain ⟨act9, rfl⟩ : ∃ x, x = a' := ⟨_, rfl⟩
            obtain ⟨u9, hu9⟩ : ∃ x, wz.alloc (cansB none 0 0 none 0 0 0) = x := ⟨_, rfl⟩
            rw [show wz.alloc (Obj.cells #[Value.slice none 0 0, Value.slice none 0 0, Value.int IntKind.i64 0] 24) = u9 from hu9]
            have hb9 : Below wz.heap.size wz u9 := by rw [← hu9]; exact below_new _ _
            have hx9 : u9.heap[wz.heap.size]? = some (cansB none 0 0 none 0 0 0) := by rw [← hu9]; exact heap_top _ _ rfl
            have hq9 := below_thn hq hb9
            clear hu9
            replace hS := (⟨heap_lft hS.1 hb9, hS.2.below hb9⟩ : _ ∧ _)
            refine rest_only (k := 5) (by kernel_rfl) (op_call (k := 5) (d := 31) (R := fun v w' => ∃ a2 n2 c2 b2 m2 d2 k2 er A2 B2, v = .tuple #[cansV a2 n2 c2 b2 m2 d2 k2, .int .i64 er] ∧ OwnNums w' u9.heap.size 3 1 a2 n2 c2 A2 ∧ OwnNums w' u9.heap.size 3 1 b2 m2 d2 B2 ∧ Apart b2 a2 ∧ Pure.PourIs m A m (fun q => (Pure.stS A X (startS k m B) j) (q + 1)) ((Pure.stS A X (startS k m B) j) 0) (X (j * 2)) (X (j * 2 + 1)) n2 A2 m2 B2 k2 er ∧ Below u9.heap.size u9 w') hI rfl rfl (by kernel_rfl) (Nat.lt_of_le_of_lt (by decide) hsz) (wanted_free rfl) ((rPour_any a1 m c1 b1 m d1 ((Pure.stS A X (startS k m B) j) 0) (X (j * 2)) (X (j * 2 + 1)) A (fun q => (Pure.stS A X (startS k m B) j) (q + 1)) (by omega) (fun e => (HO1.out.nil e).1) (fun e => (HO2.out.nil e).1) u9 (by have h := (HO1.out.nums).below hq9; rw [Nat.mul_one] at h; exact h) (by have h := (HO2.out.nums).below hq9; rw [Nat.mul_one] at h; exact h)).mono (fun e w' g => by obtain ⟨a2, n2, c2, b2, m2, d2, k2, er, A2, B2, g1, g2⟩ := g; exact ⟨_, g1, a2, n2, c2, b2, m2, d2, k2, er, A2, B2, rfl, g2⟩)) (by have e26 := n26; have f26 := n26.eval; unfold At at e26; have e30 := n30; have f30 := n30.eval; unfold At at e30; simp [go_sem, e26, e30]) ?_)
            intro v w' a' hR hI' n31' hk
            obtain ⟨a2, n2, c2, b2, m2, d2, k2, er, A2, B2, rfl, ho1, ho2, hap, hpi, hbc⟩ := hR
            refine ⟨⟨heap_lft hS.1 hbc, hS.2.below hbc⟩, ?_⟩
            replace n26 := hk _ _ n26 rfl
            replace n27 := hk _ _ n27 rfl
            replace n28 := hk _ _ n28 rfl
            replace n29 := hk _ _ n29 rfl
            replace n30 := hk _ _ n30 rfl
            replace n11 := hk _ _ n11 rfl
            have n31 := n31'
            replace hI := hI'
            clear hk hI' n31'
            obtain ⟨act9, rfl⟩ : ∃ x, x = a' := ⟨_, rfl⟩
            replace hS := (⟨heap_lft hS.1 hbc, hS.2.below hbc⟩ : _ ∧ _)
            refine rest_take (k := 6) (d := 25) (v := .tuple #[cansV a2 n2 c2 b2 m2 d2 k2, .int .i64 er]) hI rfl rfl (by kernel_rfl) (Nat.lt_of_le_of_lt (by decide) hsz) (by kernel_rfl) hpan (by kernel_rfl) hS (wanted_free rfl) (fun z hz => by have e31 := n31; have f31 := n31.eval; unfold At at e31; simp [go_sem, e31]) (fun a' hI' n25' hk => ?_)
            replace n26 := hk _ _ n26 rfl
            replace n27 := hk _ _ n27 rfl
            replace n28 := hk _ _ n28 rfl
            replace n29 := hk _ _ n29 rfl
            replace n30 := hk _ _ n30 rfl
            replace n11 := hk _ _ n11 rfl
            replace n31 := hk _ _ n31 rfl
            have n25 := n25'
            replace hI := hI'
            clear hk hI' n25'
            obtain ⟨act9, rfl⟩ : ∃ x, x = a' := ⟨_, rfl⟩
            refine rest_take (k := 7) (d := 32) (v := cansV a2 n2 c2 b2 m2 d2 k2) hI rfl rfl (by kernel_rfl) (Nat.lt_of_le_of_lt (by decide) hsz) (by kernel_rfl) hpan (by kernel_rfl) hS (wanted_free rfl) (fun z hz => by have e25 := n25; have f25 := n25.eval; unfold At at e25; simp [go_sem, e25]) (fun a' hI' n32' hk => ?_)
            replace n26 := hk _ _ n26 rfl
            replace n27 := hk _ _ n27 rfl
            replace n28 := hk _ _ n28 rfl
            replace n29 := hk _ _ n29 rfl
            replace n30 := hk _ _ n30 rfl
            replace n11 := hk _ _ n11 rfl
            replace n31 := hk _ _ n31 rfl
            replace n25 := hk _ _ n25 rfl
            have n32 := n32'
            replace hI := hI'
            clear hk hI' n32'
            obtain ⟨act9, rfl⟩ : ∃ x, x = a' := ⟨_, rfl⟩
            refine rest_take (k := 8) (d := 33) (v := .int .i64 er) hI rfl rfl (by kernel_rfl) (Nat.lt_of_le_of_lt (by decide) hsz) (by kernel_rfl) hpan (by kernel_rfl) hS (wanted_free rfl) (fun z hz => by have e25 := n25; have f25 := n25.eval; unfold At at e25; simp [go_sem, e25]) (fun a' hI' n33' hk => ?_)
            replace n26 := hk _ _ n26 rfl
            replace n27 := hk _ _ n27 rfl
            replace n28 := hk _ _ n28 rfl
            replace n29 := hk _ _ n29 rfl
            replace n30 := hk _ _ n30 rfl
            replace n11 := hk _ _ n11 rfl
            replace n31 := hk _ _ n31 rfl
            replace n25 := hk _ _ n25 rfl
            replace n32 := hk _ _ n32 rfl
            have n33 := n33'
            replace hI := hI'
            clear hk hI' n33'
            obtain ⟨act9, rfl⟩ : ∃ x, x = a' := ⟨_, rfl⟩
            obtain ⟨Bx, hBx⟩ : ∃ x, wz.heap.size = x := ⟨_, rfl⟩
            have hbs := hb9.size
            have hx := heap_lft hx9 hbc
            rw [hBx] at hx n11
            have hbx := below_thn hq9 hbc
            have hq1 := ho1.base (show wr.heap.size ≤ u9.heap.size by omega)
            have hq2 := ho2.base (show wr.heap.size ≤ u9.heap.size by omega)
            obtain ⟨Z, hZ⟩ : ∃ zz, ((w'.setCell ⟨Bx, 0, none⟩ (.slice a2 n2 c2)).setCell ⟨Bx, 1, none⟩ (.slice b2 m2 d2)).setCell ⟨Bx, 2, none⟩ (.int .i64 k2) = zz := ⟨_, rfl⟩
            have zx : Z.heap[Bx]? = some (cansB a2 n2 c2 b2 m2 d2 k2) := by rw [← hZ]; exact heap_set (heap_set (heap_set hx 0 _) 1 _) 2 _
            have hSZ : Z.heap[B8]? = some (cansB a1 m c1 b1 m d1 ((Pure.stS A X (startS k m B) j) 0)) ∧ NumsAt Z (some ⟨gl, ol, none⟩) (len * 2) X := by
              have hbz : Below wr.heap.size wr Z := by rw [← hZ]; exact ((hbx.setCell (by dsimp only; omega) _).setCell (by dsimp only; omega) _).setCell (by dsimp only; omega) _
              exact ⟨heap_lft HC.out hbz, HLr.out.below hbz⟩
            have hbz : Below wr.heap.size wr Z := by rw [← hZ]; exact ((hbx.setCell (by dsimp only; omega) _).setCell (by dsimp only; omega) _).setCell (by dsimp only; omega) _
            have zhq1 : OwnNums Z wr.heap.size 3 1 a2 n2 c2 A2 := by rw [← hZ]; exact hq1.kept (fun x hx9 => (setCell_other (by have h9 := hq1.ne hx (by decide) x hx9; dsimp only; omega)).trans ((setCell_other (by have h9 := hq1.ne hx (by decide) x hx9; dsimp only; omega)).trans (setCell_other (by have h9 := hq1.ne hx (by decide) x hx9; dsimp only; omega))))
            have zhq2 : OwnNums Z wr.heap.size 3 1 b2 m2 d2 B2 := by rw [← hZ]; exact hq2.kept (fun x hx9 => (setCell_other (by have h9 := hq2.ne hx (by decide) x hx9; dsimp only; omega)).trans ((setCell_other (by have h9 := hq2.ne hx (by decide) x hx9; dsimp only; omega)).trans (setCell_other (by have h9 := hq2.ne hx (by decide) x hx9; dsimp only; omega))))
            refine rest_only (k := 10) (by kernel_rfl) (op_store (k := 10) rfl rfl (wanted_free rfl) (by have e11 := n11; have f11 := n11.eval; unfold At at e11; have e32 := n32; have f32 := n32.eval; unfold At at e32; have k0 := heap_cell hx (j := 0) rfl; have k1 := heap_cell hx (j := 1) rfl; have k2' := heap_cell hx (j := 2) rfl; have f0 := heap_frozen hx 0; have f1 := heap_frozen hx 1; have f2 := heap_frozen hx 2; simp [go_sem, e11, e32, k0, k1, k2', f0, f1, f2]; try rfl) ⟨by rw [hZ]; exact hSZ, ?_⟩)
            rw [hZ]
            replace hS := hSZ
            refine rest_take (k := 11) (d := 12) (v := .int .i64 er) hI rfl rfl (by kernel_rfl) (Nat.lt_of_le_of_lt (by decide) hsz) (by kernel_rfl) hpan (by kernel_rfl) hS (wanted_free rfl) (fun z hz => by have e33 := n33; have f33 := n33.eval; unfold At at e33; simp [go_sem, e33]) (fun a' hI' n12' hk => ?_)
            replace n26 := hk _ _ n26 rfl
            replace n27 := hk _ _ n27 rfl
            replace n28 := hk _ _ n28 rfl
            replace n29 := hk _ _ n29 rfl
            replace n30 := hk _ _ n30 rfl
            replace n11 := hk _ _ n11 rfl
            replace n31 := hk _ _ n31 rfl
            replace n25 := hk _ _ n25 rfl
            replace n32 := hk _ _ n32 rfl
            replace n33 := hk _ _ n33 rfl
            have n12 := n12'
            replace hI := hI'
            clear hk hI' n12'
            obtain ⟨act9, rfl⟩ : ∃ x, x = a' := ⟨_, rfl⟩
            refine rest_done (by kernel_rfl) ?_
            exact hfin _ _ hI ⟨Bx, a2, n2, c2, b2, m2, d2, k2, er, A2, B2, by have g := n11; unfold At at g; rw [Array.getD_eq_getD_getElem?, g]; rfl, by have g := n12; unfold At at g; rw [Array.getD_eq_getD_getElem?, g]; rfl, by omega, zx, zhq1, zhq2, hap, hpi, hbz⟩
        case rest =>
          obtain ⟨V, rfl⟩ : ∃ x, x = wc := ⟨_, rfl⟩
          obtain ⟨Bx, a2, n2, c2, b2, m2, d2, k2, er, A2, B2, rfl, rfl, hbx, hx, ho1, ho2, hap, hpi, hb⟩ := hcut
          have hfj := Pure.fine_st HF.out j HALL.out
          have hss := Pure.start_self (Pure.st_zero (Pure.start_over k m B) j HALL.out)
          unfold Pure.PourIs at hpi
          rw [hss] at hpi
          have HBV := Lib.hid (below_thn HBr.out hb)
          have HRV := Lib.hid (heap_lft HRr.out hb)
          have HCV := Lib.hid (heap_lft HC.out hb)
          have HLV := Lib.hid (HLr.out.below hb)
          have HXV := Lib.hid hx
          have HWB := Lib.hid (show w.heap.size ≤ wr.heap.size by have h1 := HSW.out; have h2 := HS8.out; omega)
          rcases hpi with ⟨hcf, _⟩ | ⟨_, hcase, rfl, rfl, rfl⟩ | ⟨_, hv, hcan, rfl, rfl, hA2, hB2, hk2, rfl⟩
          · rw [Pure.cans_self hfj.1 h1 h3] at hcf
            cases hcf
          · have hno : ¬ Pure.okP m A X (startS k m B) j ∧ er = Pure.erP m X j := by
              rcases hcase with ⟨h, rfl⟩ | ⟨h, h2, rfl⟩
              · exact ⟨fun g => h g.1, by unfold Pure.erP; rw [if_neg h]⟩
              · exact ⟨fun g => (by rw [g.2] at h2; cases h2), by unfold Pure.erP; rw [if_pos h]⟩
            have HNO := Lib.hid hno
            have e1 : (er != 0) = true := by have := Pure.er_ne m X j; rw [← hno.2] at this; simpa using this
            clear hno hcase hss hfj hx ho1 ho2 hap hb hbx
            have r0 := heap_cell HRV.out (v := .slice none 0 0) (j := 0) rfl
            have r1 := heap_cell HRV.out (v := .slice none 0 0) (j := 1) rfl
            have r2 := heap_cell HRV.out (v := .int .i64 0) (j := 2) rfl
            have s0 := heap_frozen HRV.out 0
            have s1 := heap_frozen HRV.out 1
            have s2 := heap_frozen HRV.out 2
            obtain ⟨T, hT⟩ : ∃ zz, ((V.setCell ⟨w.heap.size + 1, 0, none⟩ (.slice none 0 0)).setCell ⟨w.heap.size + 1, 1, none⟩ (.slice none 0 0)).setCell ⟨w.heap.size + 1, 2, none⟩ (.int .i64 0) = zz := ⟨_, rfl⟩
            have hvv : T.heap[w.heap.size + 1]? = some (cansB none 0 0 none 0 0 0) := by rw [← hT]; exact heap_set (heap_set (heap_set HRV.out 0 _) 1 _) 2 _
            have v0 := heap_cell hvv (j := 0) rfl
            have v1 := heap_cell hvv (j := 1) rfl
            have v2 := heap_cell hvv (j := 2) rfl
            have HVB : Hid (Below w.heap.size w T) := Lib.hid (by rw [← hT]; exact ((HBV.out.setCell (by dsimp only; omega) _).setCell (by dsimp only; omega) _).setCell (by dsimp only; omega) _)
            clear hvv
            go_wp2_with fail
            try rw [hT]
            exact bodyPost_ret (v := .tuple #[cansV none 0 0 none 0 0 0, .int .i64 0, .int .i64 (j : Int), .int .i64 er]) (by simp [results, Try.results9, go_sem, v0, v1, v2]; try rfl) rfl ⟨none, 0, 0, none, 0, 0, 0, 0, j, er, fun _ => 0, fun _ => 0, rfl, own_nil _ _ _ _ _, own_nil _ _ _ _ _, fun _ _ h => (by cases h), .inr (.inl ⟨HQ.out, ⟨j, hlt, HALL.out, HNO.out.1, rfl, HNO.out.2⟩, rfl, rfl, rfl, rfl⟩), HVB.out⟩
          · have hok : Pure.okP m2 A X (startS k m2 B) j := ⟨hv, hcan⟩
            have HOK := Lib.hid hok
            have hall1 : AllOk m2 A X (startS k m2 B) (j + 1) := fun q hq => by
              by_cases e : q = j
              · subst e; exact hok
              · exact HALL.out q (by omega)
            have HALL1 := Lib.hid hall1
            have hk3 : k2 = Pure.stS A X (startS k m2 B) (j + 1) 0 := hk2
            have hbs := Pure.bk_step HF.out HALL.out hok
            have hf1 := (Pure.fine_st HF.out (j + 1) hall1).2 0 (by omega)
            have hf0 := hfj.2 0 (by omega)
            have hbb := Pure.bk_bound HF.out (j + 1) hall1
            rw [← hk3] at hbs hf1
            obtain ⟨sb, hsb⟩ : ∃ sb, k2 - Pure.stS A X (startS k m2 B) j 0 = sb := ⟨_, rfl⟩
            have hw1 : IntKind.i64.wrap (k2 - Pure.stS A X (startS k m2 B) j 0) = sb := by rw [IntWalk.i64_in _ (by omega), hsb]
            rw [hsb] at hbs
            obtain ⟨mx, hmx⟩ : ∃ mx, (if 0 < sb then sb else 0) = mx := ⟨_, rfl⟩
            have hbs2 : Pure.bkS A X (startS k m2 B) j + mx = Pure.bkS A X (startS k m2 B) (j + 1) := by rw [← hbs, ← hmx]
            have hw2 : IntKind.i64.wrap (Pure.bkS A X (startS k m2 B) j + mx) = Pure.bkS A X (startS k m2 B) (j + 1) := by rw [hbs2]; exact IntWalk.i64_in _ (by omega)
            have h64 : ∀ v : Int, -9223372036854775808 ≤ v ∧ v ≤ 9223372036854775807 → wrap64 v = v := fun v hv => by unfold wrap64; omega
            have hs64 : wrap64 sb = sb := h64 _ (by omega)
            have HWR : Hid (wrap64 (Pure.bkS A X (startS k m2 B) j + if 0 < wrap64 sb then wrap64 sb else 0) = Pure.bkS A X (startS k m2 B) (j + 1)) := Lib.hid (by rw [hs64, hmx, hbs2]; exact h64 _ (by omega))
            clear hs64 h64
            have hne : Bx ≠ B8 := by have := HSW.out; omega
            obtain ⟨Z, hZ⟩ : ∃ zz, ((V.setCell ⟨B8, 0, none⟩ (.slice a2 m2 c2)).setCell ⟨B8, 1, none⟩ (.slice b2 m2 d2)).setCell ⟨B8, 2, none⟩ (.int .i64 k2) = zz := ⟨_, rfl⟩
            have HZC : Hid (Z.heap[B8]? = some (cansB a2 m2 c2 b2 m2 d2 (Pure.stS A X (startS k m2 B) (j + 1) 0))) := Lib.hid (by rw [← hZ, ← hk3]; exact heap_set (heap_set (heap_set HCV.out 0 _) 1 _) 2 _)
            have HZ1 : Hid (OwnNums Z w.heap.size 3 1 a2 m2 c2 A) := Lib.hid (by
              rw [← hZ]
              exact (((ho1.kept (fun x hx9 => by have h9 := ho1.ne HCV.out (by decide) x hx9; exact (setCell_other (by dsimp only; omega)).trans ((setCell_other (by dsimp only; omega)).trans (setCell_other (by dsimp only; omega))))).congr (fun q hq => hA2 q (by omega))).base HWB.out))
            have HZ2 : Hid (OwnNums Z w.heap.size 3 1 b2 m2 d2 (fun q => Pure.stS A X (startS k m2 B) (j + 1) (q + 1))) := Lib.hid (by
              rw [← hZ]
              exact (((ho2.kept (fun x hx9 => by have h9 := ho2.ne HCV.out (by decide) x hx9; exact (setCell_other (by dsimp only; omega)).trans ((setCell_other (by dsimp only; omega)).trans (setCell_other (by dsimp only; omega))))).congr (fun q hq => hB2 q (by omega))).base HWB.out))
            have HZR : Hid (Z.heap[w.heap.size + 1]? = some (cansB none 0 0 none 0 0 0)) := Lib.hid (by rw [← hZ]; have h8 := HS8.out; exact (setCell_other (by dsimp only; omega)).trans ((setCell_other (by dsimp only; omega)).trans ((setCell_other (by dsimp only; omega)).trans HRV.out)))
            have HZB : Hid (Below w.heap.size w Z) := Lib.hid (by rw [← hZ]; have h8 := HS8.out; exact ((HBV.out.setCell (by dsimp only; omega) _).setCell (by dsimp only; omega) _).setCell (by dsimp only; omega) _)
            have HZL : Hid (NumsAt Z (some ⟨gl, ol, none⟩) (len * 2) X) := Lib.hid (by
              rw [hZ.symm]
              have h8 := HS8.out
              exact HLw.out.low HLV.out (((Below.refl w.heap.size V).setCell (by dsimp only; omega) _).setCell (by dsimp only; omega) _ |>.setCell (by dsimp only; omega) _))
            have HAP2 := Lib.hid hap
            clear hok hall1 hbs hf1 hf0 hbb hbs2 hss hfj hx ho1 ho2 hap hb hbx hA2 hB2 hcan hv
            have p2 := heap_cell HXV.out (v := .int .i64 k2) (j := 2) rfl
            have p0 := heap_cell HXV.out (v := .slice a2 m2 c2) (j := 0) rfl
            have p1 := heap_cell HXV.out (v := .slice b2 m2 d2) (j := 1) rfl
            have q0 := heap_cell HCV.out (v := .slice a1 m2 c1) (j := 0) rfl
            have q1 := heap_cell HCV.out (v := .slice b1 m2 d1) (j := 1) rfl
            have q2 := heap_cell HCV.out (v := .int .i64 (Pure.stS A X (startS k m2 B) j 0)) (j := 2) rfl
            have s0 := heap_frozen HCV.out 0
            have s1 := heap_frozen HCV.out 1
            have s2 := heap_frozen HCV.out 2
            clear hk2 hk3
            go_wp2_with fail
            try rw [hZ]
            go_roundw
            case rel => exact ⟨j + 1, hlt, by go_num, congrArg (Value.int .i64) HWR.out, HALL1.out, ⟨a2, c2, b2, d2, HZC.out, HZ1.out, HZ2.out, HAP2.out⟩, HZR.out, HZL.out, HZB.out⟩
            case measure => simp [intOf]; omega
      · obtain rfl : j = len := by omega
        have n1 : ¬ (j : Int) < (j : Int) := by omega
        have q0 := heap_cell HC.out (v := .slice a1 m c1) (j := 0) rfl
        have q1 := heap_cell HC.out (v := .slice b1 m d1) (j := 1) rfl
        have q2 := heap_cell HC.out (v := .int .i64 (Pure.stS A X (startS k m B) j 0)) (j := 2) rfl
        have r0 := heap_cell HRr.out (v := .slice none 0 0) (j := 0) rfl
        have r1 := heap_cell HRr.out (v := .slice none 0 0) (j := 1) rfl
        have r2 := heap_cell HRr.out (v := .int .i64 0) (j := 2) rfl
        have s0 := heap_frozen HRr.out 0
        have s1 := heap_frozen HRr.out 1
        have s2 := heap_frozen HRr.out 2
        obtain ⟨T, hT⟩ : ∃ zz, ((wr.setCell ⟨w.heap.size + 1, 0, none⟩ (.slice a1 m c1)).setCell ⟨w.heap.size + 1, 1, none⟩ (.slice b1 m d1)).setCell ⟨w.heap.size + 1, 2, none⟩ (.int .i64 (Pure.stS A X (startS k m B) j 0)) = zz := ⟨_, rfl⟩
        have hvv : T.heap[w.heap.size + 1]? = some (cansB a1 m c1 b1 m d1 (Pure.stS A X (startS k m B) j 0)) := by rw [← hT]; exact heap_set (heap_set (heap_set HRr.out 0 _) 1 _) 2 _
        have v0 := heap_cell hvv (j := 0) rfl
        have v1 := heap_cell hvv (j := 1) rfl
        have v2 := heap_cell hvv (j := 2) rfl
        have HVB : Hid (Below w.heap.size w T) := Lib.hid (by rw [← hT]; exact ((HBr.out.setCell (by dsimp only; omega) _).setCell (by dsimp only; omega) _).setCell (by dsimp only; omega) _)
        have HT1 : Hid (OwnNums T w.heap.size 3 1 a1 m c1 A) := Lib.hid (by
          rw [← hT]
          exact HO1.out.kept (fun x hx9 => by have h9 := HO1.out.ne HRr.out (by decide) x hx9; exact (setCell_other (by dsimp only; omega)).trans ((setCell_other (by dsimp only; omega)).trans (setCell_other (by dsimp only; omega)))))
        have HT2 : Hid (OwnNums T w.heap.size 3 1 b1 m d1 (fun q => Pure.stS A X (startS k m B) j (q + 1))) := Lib.hid (by
          rw [← hT]
          exact HO2.out.kept (fun x hx9 => by have h9 := HO2.out.ne HRr.out (by decide) x hx9; exact (setCell_other (by dsimp only; omega)).trans ((setCell_other (by dsimp only; omega)).trans (setCell_other (by dsimp only; omega)))))
        clear hvv
        go_wp2_with fail
        try rw [hT]
        exact bodyPost_ret (v := .tuple #[cansV a1 m c1 b1 m d1 (Pure.stS A X (startS k m B) j 0), .int .i64 (Pure.bkS A X (startS k m B) j), .int .i64 0, .int .i64 0]) (by simp [results, Try.results9, go_sem, v0, v1, v2]; try rfl) rfl ⟨a1, m, c1, b1, m, d1, _, _, 0, 0, A, _, rfl, HT1.out, HT2.out, HAP.out, .inr (.inr ⟨HQ.out, HALL.out, rfl, rfl, fun _ _ => rfl, fun _ _ => rfl, rfl, rfl, rfl, rfl⟩), HVB.out⟩
end Go.Proofs.Ytjemcmehgkhhlaa
