/-
  The contract of Play.
-/
import Derived.Test.YtjemcmehgkhhlaaCLists
namespace Go.Proofs.Ytjemcmehgkhhlaa
open Go.RowKit
attribute [local go_sem] Oper.semAt_some

set_option maxRecDepth 100000 in
set_option maxHeartbeats 8000000 in
theorem playAll_any (a : Option Addr) (n c : Nat) (b : Option Addr) (m d : Nat) (k : Int) (la : Option Addr) (len cap : Nat) (A B X : Nat → Int) (hn : n ≤ 60) (hm : m ≤ 60) (hlen : len ≤ 100) (hna : a = none → n = 0 ∧ c = 0) (w : World) (hA : NumsAt w a n A) (hB : NumsAt w b m B) (hL : NumsAt w la (len * 2) X) :
    Calls Try.prog 8 #[cansV a n c b m d k, .slice la len cap] w (PlayOut n A m B k len X w) := by
  obtain ⟨W, hW⟩ : ∃ W, ((((w.alloc (cansB a n c b m d k)).alloc (cansB none 0 0 none 0 0 0)).alloc (.cells #[.int .i64 0] 3)).alloc (.cells #[.int .i64 0] 3)).alloc (.cells #[.int .i64 0] 30) = W := ⟨_, rfl⟩
  have HB : Hid (Below w.heap.size w W) := Lib.hid (by rw [← hW]; exact (((((below_new _ _).alloc (by simp) _).alloc (by simp; omega) _).alloc (by simp; omega) _).alloc (by simp; omega) _))
  have HX : Hid (W.heap[w.heap.size]? = some (cansB a n c b m d k)) := Lib.hid (by rw [← hW]; exact heap_up (heap_up (heap_up (heap_up (heap_top _ _ rfl) _) _) _) _)
  have HR0 : Hid (W.heap[w.heap.size + 1]? = some (cansB none 0 0 none 0 0 0)) := Lib.hid (by rw [← hW]; exact heap_up (heap_up (heap_up (heap_top _ _ (by simp)) _) _) _)
  have HR1 : Hid (W.heap[w.heap.size + 1 + 1]? = some (.cells #[.int .i64 0] 3)) := Lib.hid (by rw [← hW]; exact heap_up (heap_up (heap_top _ _ (by simp)) _) _)
  have HR2 : Hid (W.heap[w.heap.size + 1 + 1 + 1]? = some (.cells #[.int .i64 0] 3)) := Lib.hid (by rw [← hW]; exact heap_up (heap_top _ _ (by simp)) _)
  have HR3 : Hid (W.heap[w.heap.size + 1 + 1 + 1 + 1]? = some (.cells #[.int .i64 0] 30)) := Lib.hid (by rw [← hW]; exact heap_top _ _ (by simp))
  have HSZ : Hid (W.heap.size = w.heap.size + 5) := Lib.hid (by rw [← hW]; simp)
  have HA := Lib.hid (hA.below HB.out)
  have HBB := Lib.hid (hB.below HB.out)
  have HL := Lib.hid (hL.below HB.out)
  have HNA := Lib.hid hna
  have HAw := Lib.hid hA
  have HLw := Lib.hid hL
  have x0 := heap_cell HX.out (v := .slice a n c) (j := 0) rfl
  have x1 := heap_cell HX.out (v := .slice b m d) (j := 1) rfl
  have x2 := heap_cell HX.out (v := .int .i64 k) (j := 2) rfl
  clear hA hB hL hna
  refine (callsIn_wide (n := 5)).1 ?_
  refine callsIn_of_wp_marks Try.func8 rfl trivial ?_ rfl
  simp only [Try.ntmps8, List.size_toArray, List.length_cons, List.length_nil, Nat.reduceAdd, Nat.reduceSub, Array.replicate_succ, Array.replicate_zero, List.push_toArray, List.append_toArray, List.nil_append, List.cons_append]
  gi_wp2_with fail
  clear hW x0 x1 x2
  refine ⟨trivial, (callsIn_wide.2 (check_any a n c b m d k A B hn hm W HA.out HBB.out)).mono ?_⟩
  rintro e W1 ⟨rfl, hb⟩
  have HB1 := Lib.hid (below_thn HB.out hb)
  have HX1 := Lib.hid (heap_lft HX.out hb)
  have HR01 := Lib.hid (heap_lft HR0.out hb)
  have HR11 := Lib.hid (heap_lft HR1.out hb)
  have HR21 := Lib.hid (heap_lft HR2.out hb)
  have HR31 := Lib.hid (heap_lft HR3.out hb)
  have HA1 := Lib.hid (HA.out.below hb)
  have HBB1 := Lib.hid (HBB.out.below hb)
  have HL1 := Lib.hid (HL.out.below hb)
  have HSZ1 : Hid (w.heap.size + 5 ≤ W1.heap.size) := Lib.hid (by have h1 := hb.size; have h2 := HSZ.out; omega)
  clear hb HB HX HR0 HR1 HR2 HR3 HA HBB HL HSZ
  by_cases hc : Pure.cans n A m B k = true
  · rw [hc]
    have HC := Lib.hid hc
    obtain ⟨⟨h1, h3, rfl⟩, hfine⟩ := Pure.fine_start hc
    have HF := Lib.hid hfine
    have he : Pure.err true 80 = 0 := rfl
    rw [he]
    clear hc he hfine
    have x0 := heap_cell HX1.out (v := .slice a m c) (j := 0) rfl
    have x1 := heap_cell HX1.out (v := .slice b m d) (j := 1) rfl
    have x2 := heap_cell HX1.out (v := .int .i64 k) (j := 2) rfl
    gi_wp2_with fail
    clear x0 x1 x2
    refine ⟨trivial, (callsIn_wide.2 (work_any a m c b m d k (by omega) W1)).mono ?_⟩
    rintro e W2 ⟨Bn, rfl, hBn, ⟨L, ln, lc, Y, hbx, hown, hP, hln⟩, hb⟩
    have HX2 := Lib.hid hbx
    have HO2 := Lib.hid hown
    have HB2 := Lib.hid (below_thn HB1.out hb)
    have HR02 := Lib.hid (heap_lft HR01.out hb)
    have HR12 := Lib.hid (heap_lft HR11.out hb)
    have HR22 := Lib.hid (heap_lft HR21.out hb)
    have HR32 := Lib.hid (heap_lft HR31.out hb)
    have HA2 := Lib.hid (HA1.out.below hb)
    have HBB2 := Lib.hid (HBB1.out.below hb)
    have HL2 := Lib.hid (HL1.out.below hb)
    have HNB : Hid (w.heap.size + 5 ≤ Bn) := Lib.hid (by have := HSZ1.out; omega)
    have HLB : Hid (∀ x, L = some x → w.heap.size + 5 ≤ x.block ∧ x.block < W2.heap.size) := Lib.hid (fun x hx => by have h4 := hown.lt x hx; have h5 := HSZ1.out; omega)
    have HNP := Lib.hid (And.intro hP hln)
    have HNS : Hid (Bn < W2.heap.size) := Lib.hid (Array.getElem?_eq_some_iff.1 hbx).1
    clear hb hbx hown hP hln hBn HX1 HR01 HR11 HR21 HR31 HA1 HBB1 HL1 HB1 HSZ1
    gi_wp2_with fail
    refine ⟨trivial, (callsIn_wide.2 (now_any Bn a m c b m d k L ln lc B h1 h3 W2 HX2.out HBB2.out)).mono ?_⟩
    rintro e W3 ⟨rfl, hb⟩
    obtain ⟨W4, hW4⟩ : ∃ W4, W3.alloc (insB (startS k m B)) = W4 := ⟨_, rfl⟩
    have hb4 : Below W2.heap.size W2 W4 := by rw [← hW4]; exact below_thn hb (below_new _ _)
    have HS4 : Hid (W4.heap[W3.heap.size]? = some (insB (startS k m B))) := Lib.hid (by rw [← hW4]; exact heap_top _ _ rfl)
    have HSS : Hid (W2.heap.size ≤ W3.heap.size ∧ W4.heap.size = W3.heap.size + 1) := Lib.hid ⟨hb.size, by rw [← hW4]; simp⟩
    have HX4 := Lib.hid (heap_lft HX2.out hb4)
    have HO4 := Lib.hid (HO2.out.below hb4)
    have HB4 := Lib.hid (below_thn HB2.out hb4)
    have HR04 := Lib.hid (heap_lft HR02.out hb4)
    have HR14 := Lib.hid (heap_lft HR12.out hb4)
    have HR24 := Lib.hid (heap_lft HR22.out hb4)
    have HR34 := Lib.hid (heap_lft HR32.out hb4)
    have HA4 := Lib.hid (HA2.out.below hb4)
    have HBB4 := Lib.hid (HBB2.out.below hb4)
    have HL4 := Lib.hid (HL2.out.below hb4)
    clear hb hb4 HX2 HO2 HB2 HR02 HR12 HR22 HR32 HA2 HBB2 HL2
    gi_wp2_with fail
    clear hW4
    refine ⟨trivial, (callsIn_wide.2 (play_any Bn la len cap W4)).mono ?_⟩
    rintro e W5 ⟨rfl, hW5⟩
    have hb5 : Below W4.heap.size W4 W5 := by rw [hW5]; exact (below_new _ _).alloc (by simp) _
    have HP1 : Hid (W5.heap[W4.heap.size]? = some (.cells #[.pointer (some ⟨Bn, 0, none⟩)] 48)) := Lib.hid (by rw [hW5]; exact heap_up (heap_top _ _ rfl) _)
    have HP2 : Hid (W5.heap[W4.heap.size + 1]? = some (.cells #[.slice la len cap] 27)) := Lib.hid (by rw [hW5]; exact heap_top _ _ (by simp))
    have HX5 := Lib.hid (heap_lft HX4.out hb5)
    have HO5 := Lib.hid (HO4.out.below hb5)
    have HB5 := Lib.hid (below_thn HB4.out hb5)
    have HR05 := Lib.hid (heap_lft HR04.out hb5)
    have HR15 := Lib.hid (heap_lft HR14.out hb5)
    have HR25 := Lib.hid (heap_lft HR24.out hb5)
    have HR35 := Lib.hid (heap_lft HR34.out hb5)
    have HS5 := Lib.hid (heap_lft HS4.out hb5)
    have HA5 := Lib.hid (HA4.out.below hb5)
    have HBB5 := Lib.hid (HBB4.out.below hb5)
    have HL5 := Lib.hid (HL4.out.below hb5)
    have HW5 : Hid (W5.heap.size = W4.heap.size + 2) := Lib.hid (by rw [hW5]; simp)
    clear hW5 hb5 HX4 HO4 HB4 HR04 HR14 HR24 HR34 HS4 HA4 HBB4 HL4
    gi_wp2_with fail
    have hpa : PlayAt (BadP w.heap.size W3.heap.size) W5 W4.heap.size (W4.heap.size + 1) Bn a m c b m d k L ln lc la len cap A Y X :=
      { b1 := fun h => by unfold BadP at h; have := HNB.out; have := HNS.out; have := HSS.out; omega
        b2 := fun h => by unfold BadP at h; have := HNB.out; have := HNS.out; have := HSS.out; omega
        b3 := fun h => by unfold BadP at h; have := HNB.out; have := HNS.out; have := HSS.out; omega
        b4 := fun h0 x hx h => by
          obtain ⟨g, off, h1, h2⟩ := HAw.out 0 h0
          rw [hx] at h1
          cases h1
          have := World.block_lt_of_cell? _ _ h2
          unfold BadP at h; have := HNB.out; have := HNS.out; have := HSS.out; dsimp only at *; omega
        b5 := fun _ x hx h => by have := HLB.out x hx; unfold BadP at h; have := HNB.out; have := HNS.out; have := HSS.out; omega
        b6 := fun h0 x hx h => by
          obtain ⟨g, off, h1, h2⟩ := HLw.out 0 h0
          rw [hx] at h1
          cases h1
          have := World.block_lt_of_cell? _ _ h2
          unfold BadP at h; have := HNB.out; have := HNS.out; have := HSS.out; dsimp only at *; omega
        w1 := HP1.out, w2 := HP2.out, w3 := HX5.out, w4 := HA5.out, w5 := HO5.out.nums, w6 := HL5.out }
    have HPA := Lib.hid hpa
    clear hpa
    have hbs : ∀ i, BadP w.heap.size W3.heap.size i → i < W5.heap.size := fun i h => by unfold BadP at h; have := HNB.out; have := HNS.out; have := HSS.out; have := HW5.out; omega
    have hi0 : PlayI w W5 w.heap.size W3.heap.size (startS k m B) [] W5 := ⟨fun _ h => absurd h (by simp), HS5.out, HR05.out, HR15.out, HR25.out, HR35.out, ⟨Nat.le_refl _, fun _ _ _ h _ => h⟩, HB5.out⟩
    have hsz5 : w.heap.size + 5 ≤ W5.heap.size ∧ W3.heap.size < W5.heap.size := by have := HNB.out; have := HNS.out; have := HSS.out; have := HW5.out; omega
    have HI0 := Lib.hid hi0
    have HSZ5 := Lib.hid hsz5
    have HBS := Lib.hid hbs
    clear hi0 hsz5 hbs HS5 HR05 HR15 HR25 HR35 HP1 HP2
    refine wp_range_state (n := 5) (by omega) (gf := 26) (lb := #[.pointer (some ⟨W4.heap.size, 0, none⟩), .pointer (some ⟨W4.heap.size + 1, 0, none⟩)]) rfl (enters_of Try.func26 (by kernel_rfl) rfl)
      (play_seq 3 (BadP w.heap.size W3.heap.size) W5 W4.heap.size (W4.heap.size + 1) Bn a m c b d k L ln lc la len cap A B Y X HBS.out HPA.out HBB5.out h1 h3 HNP.out.1 HNP.out.2 hlen HF.out) (Below.refl _ _) (fun _ => rfl) HBS.out
      (PlayI w W5 w.heap.size W3.heap.size (startS k m B)) (fun c pre W => ∃ ini x, pre = ini ++ [x] ∧ PlayX w w.heap.size c ini x W)
      (PlayI.stays HSZ5.out.1 HSZ5.out.2 (Nat.le_refl _)) (fun c => PlayX.stays HSZ5.out.1) HI0.out
      (fun x a' W => ∃ Bx, W.heap[Bx]? = some (stepB x.f x.t (x.p.val : Int) x.S) ∧ (W5.heap.size ≤ Bx ∧ a' = { tmps := #[cansV a m c b m d k, .slice la len cap, .pointer (some ⟨w.heap.size, 0, none⟩), undef, .pointer (some ⟨w.heap.size + 1, 0, none⟩), .pointer (some ⟨w.heap.size + 1 + 1, 0, none⟩), .pointer (some ⟨w.heap.size + 1 + 1 + 1, 0, none⟩), .pointer (some ⟨w.heap.size + 1 + 1 + 1 + 1, 0, none⟩), .int .i64 0, .pointer (some ⟨Bn, 0, none⟩), .pointer (some ⟨W3.heap.size, 0, none⟩), .pointer (some ⟨Bx, 0, none⟩), .int .i64 x.e, cansV a m c b m d k, .int .i64 0, .int .i64 0, .bool false, undef, undef, cansV a m c b m d k, .pointer (some ⟨Bn, 0, none⟩), .pointer (some ⟨Bn, 0, none⟩), insV (startS k m B), .pointer (some ⟨Bn, 0, none⟩), .slice la len cap, .func (.func 26) #[] #[.pointer (some ⟨W4.heap.size, 0, none⟩), .pointer (some ⟨W4.heap.size + 1, 0, none⟩)], stepV x.f x.t (x.p.val : Int) x.S, .int .i64 x.e, undef, undef, undef, undef, undef, undef, undef, undef, undef, undef, undef, undef, undef, undef, undef, undef, undef], defers := [] })) ?hAx ?assign ?body ?done ?stop
    case hAx =>
      intro x a' s X Y row hs hg hr
      obtain ⟨Bx, h⟩ := hs
      exact ⟨Bx, step_own rfl () X Y row h hg hr⟩
    case assign =>
      intro l pre x W K hi hsz hK
      gi_wp2
      have hb := below_new W (stepB x.f x.t (x.p.val : Int) x.S)
      exact hK _ _ (KeptR.of_below hb) (PlayI.stays HSZ5.out.1 HSZ5.out.2 (Nat.le_refl _) _ _ _ (hb.mono hsz) hi) ⟨W.heap.size, heap_top W (stepB x.f x.t (x.p.val : Int) x.S) rfl, hsz, rfl⟩
    case body =>
      rintro l pre x a' W hsz hi ⟨Bx, hx, hBx, rfl⟩ hlt
      have HI := Lib.hid hi
      have HXB := Lib.hid hx
      have HLT := Lib.hid hlt
      have HSW := Lib.hid hsz
      clear hi hx hlt hsz
      by_cases he : x.e = 0
      · have he1 : (x.e != 0) = false := by simp [he]
        have HE := Lib.hid he
        clear he
        gi_wp2_with fail
        generalize hA : (Act.mk _ _ : Act) = a0
        have m4 : At a0 4 (.pointer (some ⟨w.heap.size + 1, 0, none⟩)) := by rw [← hA]; rfl
        have m5 : At a0 5 (.pointer (some ⟨w.heap.size + 1 + 1, 0, none⟩)) := by rw [← hA]; rfl
        have m6 : At a0 6 (.pointer (some ⟨w.heap.size + 1 + 1 + 1, 0, none⟩)) := by rw [← hA]; rfl
        have m10 : At a0 10 (.pointer (some ⟨W3.heap.size, 0, none⟩)) := by rw [← hA]; rfl
        have m11 : At a0 11 (.pointer (some ⟨Bx, 0, none⟩)) := by rw [← hA]; rfl
        have hsz : 44 < a0.tmps.size := by rw [← hA]; exact of_decide_eq_true (by kernel_rfl)
        have hI : Kept (List.range' 33 12) a0 a0 := Kept.refl _ _
        clear hA
        refine with_panIn (fun d _ _ _ _ h => by cases d <;> exact h) ?_
        intro hpan
        refine wpIn_region_rest (fun u => u.heap[Bx]? = some (stepB x.f x.t (x.p.val : Int) x.S) ∧ u.heap[w.heap.size + 1 + 1 + 1]? = some (.cells #[.int .i64 (pre.length : Int)] 3)) 10 (by kernel_rfl) ?_
        obtain ⟨wz, hwz⟩ : ∃ x, W.drew = x := ⟨_, rfl⟩
        change RestIn _ _ _ _ _ _ _ _ _ _ (W.drew)
        rw [hwz]
        have hq : Below W.heap.size W wz := by rw [← hwz]; exact (Below.refl _ _).drew
        have hne : Bx ≠ W3.heap.size ∧ Bx ≠ w.heap.size + 1 + 1 ∧ Bx ≠ w.heap.size + 1 + 1 + 1 := by have := HSZ5.out; omega
        have hns : W3.heap.size ≠ w.heap.size + 1 ∧ W3.heap.size ≠ w.heap.size + 1 + 1 ∧ W3.heap.size ≠ w.heap.size + 1 + 1 + 1 ∧ W3.heap.size ≠ w.heap.size + 1 + 1 + 1 + 1 := by have := HNB.out; have := HNS.out; have := HSS.out; omega
        have hx := heap_lft HXB.out hq
        have hs := heap_lft HI.out.s hq
        have h0 := heap_lft HI.out.r0 hq
        have h1' := heap_lft HI.out.r1 hq
        have h2 := heap_lft HI.out.r2 hq
        have h3' := heap_lft HI.out.r3 hq
        have hS : wz.heap[Bx]? = some (stepB x.f x.t (x.p.val : Int) x.S) ∧ wz.heap[w.heap.size + 1 + 1 + 1]? = some (.cells #[.int .i64 (pre.length : Int)] 3) := ⟨hx, h2⟩
        obtain ⟨p0, hp0⟩ : ∃ p0 : Int, (if x.t = 0 then (x.p.val : Int) else 0) = p0 := ⟨_, rfl⟩
        have hpb : 0 ≤ p0 ∧ p0 ≤ 600 := by have := x.p.isLt; rw [← hp0]; split <;> omega
        have hbb := Pure.bkL_bound pre
        have hw1 : IntKind.i64.wrap ((Pure.bkL pre) + p0) = (Pure.bkL pre) + p0 := IntWalk.i64_in _ (by have := HLT.out; omega)
        have hw2 : IntKind.i64.wrap ((pre.length : Int) + 1) = (pre.length : Int) + 1 := IntWalk.i64_in _ (by have := HLT.out; omega)
        have fin : ∀ (v1 u8 u9 u10 : World), Below wz.heap.size wz v1 → (((v1.setCell ⟨W3.heap.size, 0, none⟩ (.int .i64 (x.S 0))).setCell ⟨W3.heap.size, 1, none⟩ (.int .i64 (x.S 1))).setCell ⟨W3.heap.size, 2, none⟩ (.int .i64 (x.S 2))).setCell ⟨W3.heap.size, 3, none⟩ (.int .i64 (x.S 3)) = u8 → u8.setCell ⟨w.heap.size + 1 + 1, 0, none⟩ (.int .i64 ((Pure.bkL pre) + p0)) = u9 → u9.setCell ⟨w.heap.size + 1 + 1 + 1, 0, none⟩ (.int .i64 ((pre.length : Int) + 1)) = u10 → KeptR (BadP w.heap.size W3.heap.size) W u10 ∧ PlayI w W5 w.heap.size W3.heap.size (startS k m B) (pre ++ [x]) u10 := by
          rintro v1 u8 u9 u10 hb e8 e9 e10
          have hkp : KeptR (BadP w.heap.size W3.heap.size) W u10 := by
            rw [← e10, ← e9, ← e8]
            refine (KeptR.of_below (below_thn hq hb)).trans ?_
            have hB : BadP w.heap.size W3.heap.size W3.heap.size := .inr (.inr (.inr (.inr rfl)))
            exact (((((KeptR.set _ hB _).trans (KeptR.set _ hB _)).trans (KeptR.set _ hB _)).trans (KeptR.set _ hB _)).trans (KeptR.set _ (.inr (.inl rfl)) _)).trans (KeptR.set _ (.inr (.inr (.inl rfl))) _)
          refine ⟨hkp, ⟨Pure.cleanL_snoc HI.out.clean HE.out, ?_, ?_, ?_, ?_, ?_, HI.out.kept.trans hkp.cells, ?_⟩⟩
          · rw [← e10, ← e9, ← e8, Pure.lastL_snoc]; exact (setCell_other (by simp; try omega)).trans ((setCell_other (by simp; try omega)).trans (heap_set (heap_set (heap_set (heap_set (heap_lft hs hb) 0 _) 1 _) 2 _) 3 _))
          · rw [← e10, ← e9, ← e8]; exact (setCell_other (by simp; try omega)).trans ((setCell_other (by simp; try omega)).trans ((setCell_other (by simp; try omega)).trans ((setCell_other (by simp; try omega)).trans ((setCell_other (by simp; try omega)).trans ((setCell_other (by simp; try omega)).trans (heap_lft h0 hb))))))
          · rw [← e10, ← e9, ← e8, Pure.bkL_snoc, hp0]; exact (setCell_other (by simp; try omega)).trans (heap_set ((setCell_other (by simp; try omega)).trans ((setCell_other (by simp; try omega)).trans ((setCell_other (by simp; try omega)).trans ((setCell_other (by simp; try omega)).trans (heap_lft h1' hb))))) 0 _)
          · rw [← e10, ← e9, ← e8, List.length_append]; exact heap_set ((setCell_other (by simp; try omega)).trans ((setCell_other (by simp; try omega)).trans ((setCell_other (by simp; try omega)).trans ((setCell_other (by simp; try omega)).trans ((setCell_other (by simp; try omega)).trans (heap_lft h2 hb)))))) 0 _
          · rw [← e10, ← e9, ← e8]; exact (setCell_other (by simp; try omega)).trans ((setCell_other (by simp; try omega)).trans ((setCell_other (by simp; try omega)).trans ((setCell_other (by simp; try omega)).trans ((setCell_other (by simp; try omega)).trans ((setCell_other (by simp; try omega)).trans (heap_lft h3' hb))))))
          · rw [← e10, ← e9, ← e8]
            have hb0 := HI.out.below.trans ((below_thn hq hb).mono (show w.heap.size ≤ W.heap.size by have := HSZ5.out; have := HSW.out; omega))
            have hns1 : w.heap.size ≤ W3.heap.size := by have := HNB.out; have := HNS.out; have := HSS.out; omega
            exact (((((hb0.setCell hns1 _).setCell hns1 _).setCell hns1 _).setCell hns1 _).setCell (by dsimp only; omega) _).setCell (by dsimp only; omega) _
        refine restIn_take (k := 0) (d := 33) (v := .pointer (some ⟨Bx, 3, none⟩)) hI rfl rfl (by kernel_rfl) (Nat.lt_of_le_of_lt (by decide) hsz) (by kernel_rfl) (by kernel_rfl) (by kernel_rfl) (by kernel_rfl) (by kernel_rfl) (by kernel_rfl) hpan hS (wanted_free rfl) (fun z hz => by have n11 := hI.at m11 (by kernel_rfl); have e11 := n11; have f11 := n11.eval; unfold At at e11; simp [go_sem, e11]) (fun a' hI' n33' hk => ?_)
        have n33 := n33'
        replace hI := hI'
        clear hk hI' n33'
        obtain ⟨act9, rfl⟩ : ∃ x, x = a' := ⟨_, rfl⟩
        refine restIn_take (k := 1) (d := 34) (v := insV x.S) hI rfl rfl (by kernel_rfl) (Nat.lt_of_le_of_lt (by decide) hsz) (by kernel_rfl) (by kernel_rfl) (by kernel_rfl) (by kernel_rfl) (by kernel_rfl) (by kernel_rfl) hpan hS (wanted_free rfl) (fun z hz => by have e33 := n33; have f33 := n33.eval; unfold At at e33; have zk0 := heap_cell hz.1 (j := 0) rfl; have zf0 := heap_frozen hz.1 0; have zk1 := heap_cell hz.1 (j := 1) rfl; have zf1 := heap_frozen hz.1 1; have zk2 := heap_cell hz.1 (j := 2) rfl; have zf2 := heap_frozen hz.1 2; have zk3 := heap_cell hz.1 (j := 3) rfl; have zf3 := heap_frozen hz.1 3; have zk4 := heap_cell hz.1 (j := 4) rfl; have zf4 := heap_frozen hz.1 4; have zk5 := heap_cell hz.1 (j := 5) rfl; have zf5 := heap_frozen hz.1 5; have zk6 := heap_cell hz.1 (j := 6) rfl; have zf6 := heap_frozen hz.1 6; simp [go_sem, e33, zk3, zk4, zk5, zk6]) (fun a' hI' n34' hk => ?_)
        replace n33 := hk _ _ n33 rfl
        have n34 := n34'
        replace hI := hI'
        clear hk hI' n34'
        obtain ⟨act9, rfl⟩ : ∃ x, x = a' := ⟨_, rfl⟩
        refine restIn_take (k := 3) (d := 36) (v := stepV x.f x.t (x.p.val : Int) x.S) hI rfl rfl (by kernel_rfl) (Nat.lt_of_le_of_lt (by decide) hsz) (by kernel_rfl) (by kernel_rfl) (by kernel_rfl) (by kernel_rfl) (by kernel_rfl) (by kernel_rfl) hpan hS (wanted_free rfl) (fun z hz => by have n11 := hI.at m11 (by kernel_rfl); have e11 := n11; have f11 := n11.eval; unfold At at e11; have zk0 := heap_cell hz.1 (j := 0) rfl; have zf0 := heap_frozen hz.1 0; have zk1 := heap_cell hz.1 (j := 1) rfl; have zf1 := heap_frozen hz.1 1; have zk2 := heap_cell hz.1 (j := 2) rfl; have zf2 := heap_frozen hz.1 2; have zk3 := heap_cell hz.1 (j := 3) rfl; have zf3 := heap_frozen hz.1 3; have zk4 := heap_cell hz.1 (j := 4) rfl; have zf4 := heap_frozen hz.1 4; have zk5 := heap_cell hz.1 (j := 5) rfl; have zf5 := heap_frozen hz.1 5; have zk6 := heap_cell hz.1 (j := 6) rfl; have zf6 := heap_frozen hz.1 6; simp [go_sem, e11, zk0, zk1, zk2, zk3, zk4, zk5, zk6]) (fun a' hI' n36' hk => ?_)
        replace n33 := hk _ _ n33 rfl
        replace n34 := hk _ _ n34 rfl
        have n36 := n36'
        replace hI := hI'
        clear hk hI' n36'
        obtain ⟨act9, rfl⟩ : ∃ x, x = a' := ⟨_, rfl⟩
        refine restIn_take (k := 6) (d := 39) (v := .int .i64 (pre.length : Int)) hI rfl rfl (by kernel_rfl) (Nat.lt_of_le_of_lt (by decide) hsz) (by kernel_rfl) (by kernel_rfl) (by kernel_rfl) (by kernel_rfl) (by kernel_rfl) (by kernel_rfl) hpan hS (wanted_free rfl) (fun z hz => by have n6 := hI.at m6 (by kernel_rfl); have e6 := n6; have f6 := n6.eval; unfold At at e6; have yk0 := heap_cell hz.2 (j := 0) rfl; have yf0 := heap_frozen hz.2 0; simp [go_sem, e6, yk0]) (fun a' hI' n39' hk => ?_)
        replace n33 := hk _ _ n33 rfl
        replace n34 := hk _ _ n34 rfl
        replace n36 := hk _ _ n36 rfl
        have n39 := n39'
        replace hI := hI'
        clear hk hI' n39'
        obtain ⟨act9, rfl⟩ : ∃ x, x = a' := ⟨_, rfl⟩
        refine restIn_take (k := 7) (d := 40) (v := .int .i64 ((pre.length : Int) + 1)) hI rfl rfl (by kernel_rfl) (Nat.lt_of_le_of_lt (by decide) hsz) (by kernel_rfl) (by kernel_rfl) (by kernel_rfl) (by kernel_rfl) (by kernel_rfl) (by kernel_rfl) hpan hS (wanted_free rfl) (fun z hz => by have e39 := n39; have f39 := n39.eval; unfold At at e39; simp [go_sem, e39, hw2]) (fun a' hI' n40' hk => ?_)
        replace n33 := hk _ _ n33 rfl
        replace n34 := hk _ _ n34 rfl
        replace n36 := hk _ _ n36 rfl
        replace n39 := hk _ _ n39 rfl
        have n40 := n40'
        replace hI := hI'
        clear hk hI' n40'
        obtain ⟨act9, rfl⟩ : ∃ x, x = a' := ⟨_, rfl⟩
        refine restIn_split [2, 4] (by kernel_rfl) rfl (fun i9 hi9 => ?_)
        have hi9' : i9 = 2 ∨ i9 = 4 := by simpa using hi9
        clear hi9
        rcases hi9' with rfl | rfl
        · have hbk := h1'
          refine _root_.id (opIn_value (k := 2) (d := 35) (v := .int .i64 (Pure.bkL pre)) hI rfl rfl rfl (by kernel_rfl) (Nat.lt_of_le_of_lt (by decide) hsz) (wanted_free rfl) (by have n5 := hI.at m5 (by kernel_rfl); have e5 := n5; have f5 := n5.eval; unfold At at e5; have bk0 := heap_cell hbk (j := 0) rfl; have bf0 := heap_frozen hbk 0; simp [go_sem, e5, bk0]; try rfl) (fun a' hI' n35' hk => ⟨fun _ => hS, ?_⟩))
          replace n33 := hk _ _ n33 rfl
          replace n34 := hk _ _ n34 rfl
          replace n36 := hk _ _ n36 rfl
          replace n39 := hk _ _ n39 rfl
          replace n40 := hk _ _ n40 rfl
          have n35 := n35'
          replace hI := hI'
          clear hk hI' n35'
          obtain ⟨act9, rfl⟩ : ∃ x, x = a' := ⟨_, rfl⟩
          refine restIn_only (k := 4) (by kernel_rfl) (opIn_call (k := 4) (d := 37) (R := fun v w' => v = .int .i64 p0 ∧ Below wz.heap.size wz w') hI rfl rfl rfl (by kernel_rfl) (Nat.lt_of_le_of_lt (by decide) hsz) (wanted_free rfl) ((back_any x.f x.t (x.p.val : Int) x.S _).mono fun e w' g => ⟨_, g.1, by rw [hp0], g.2⟩) (by have e36 := n36; have f36 := n36.eval; unfold At at e36; simp [go_sem, e36]) ?_)
          intro v w' a' hR hI' n37' hk
          obtain ⟨rfl, hb⟩ := hR
          refine ⟨fun _ => ⟨heap_lft hx hb, heap_lft h2 hb⟩, ?_⟩
          replace n33 := hk _ _ n33 rfl
          replace n34 := hk _ _ n34 rfl
          replace n36 := hk _ _ n36 rfl
          replace n39 := hk _ _ n39 rfl
          replace n40 := hk _ _ n40 rfl
          replace n35 := hk _ _ n35 rfl
          have n37 := n37'
          replace hI := hI'
          clear hk hI' n37'
          obtain ⟨act9, rfl⟩ : ∃ x, x = a' := ⟨_, rfl⟩
          replace hS := (⟨heap_lft hx hb, heap_lft h2 hb⟩ : _ ∧ _)
          refine restIn_take (k := 5) (d := 38) (v := .int .i64 ((Pure.bkL pre) + p0)) hI rfl rfl (by kernel_rfl) (Nat.lt_of_le_of_lt (by decide) hsz) (by kernel_rfl) (by kernel_rfl) (by kernel_rfl) (by kernel_rfl) (by kernel_rfl) (by kernel_rfl) hpan hS (wanted_free rfl) (fun z hz => by have e35 := n35; have f35 := n35.eval; unfold At at e35; have e37 := n37; have f37 := n37.eval; unfold At at e37; simp [go_sem, e35, e37, hw1]) (fun a' hI' n38' hk => ?_)
          replace n33 := hk _ _ n33 rfl
          replace n34 := hk _ _ n34 rfl
          replace n36 := hk _ _ n36 rfl
          replace n39 := hk _ _ n39 rfl
          replace n40 := hk _ _ n40 rfl
          replace n35 := hk _ _ n35 rfl
          replace n37 := hk _ _ n37 rfl
          have n38 := n38'
          replace hI := hI'
          clear hk hI' n38'
          obtain ⟨act9, rfl⟩ : ∃ x, x = a' := ⟨_, rfl⟩
          have hsv := heap_lft hs hb
          obtain ⟨u8, e8⟩ : ∃ zz, (((w'.setCell ⟨W3.heap.size, 0, none⟩ (.int .i64 (x.S 0))).setCell ⟨W3.heap.size, 1, none⟩ (.int .i64 (x.S 1))).setCell ⟨W3.heap.size, 2, none⟩ (.int .i64 (x.S 2))).setCell ⟨W3.heap.size, 3, none⟩ (.int .i64 (x.S 3)) = zz := ⟨_, rfl⟩
          have hxu8 : u8.heap[Bx]? = some (stepB x.f x.t (x.p.val : Int) x.S) := by rw [← e8]; exact (setCell_other (by simp; try omega)).trans ((setCell_other (by simp; try omega)).trans ((setCell_other (by simp; try omega)).trans ((setCell_other (by simp; try omega)).trans (heap_lft hx hb))))
          have h1u8 : u8.heap[w.heap.size + 1 + 1]? = some (.cells #[.int .i64 (Pure.bkL pre)] 3) := by rw [← e8]; exact (setCell_other (by simp; try omega)).trans ((setCell_other (by simp; try omega)).trans ((setCell_other (by simp; try omega)).trans ((setCell_other (by simp; try omega)).trans (heap_lft h1' hb))))
          have h2u8 : u8.heap[w.heap.size + 1 + 1 + 1]? = some (.cells #[.int .i64 (pre.length : Int)] 3) := by rw [← e8]; exact (setCell_other (by simp; try omega)).trans ((setCell_other (by simp; try omega)).trans ((setCell_other (by simp; try omega)).trans ((setCell_other (by simp; try omega)).trans (heap_lft h2 hb))))
          refine restIn_only (k := 8) (by kernel_rfl) (opIn_store (k := 8) rfl rfl rfl (wanted_free rfl) (by have n10 := hI.at m10 (by kernel_rfl); have e10 := n10; have f10 := n10.eval; unfold At at e10; have e34 := n34; have f34 := n34.eval; unfold At at e34; have ak0 := heap_cell hsv (j := 0) rfl; have af0 := heap_frozen hsv 0; have ak1 := heap_cell hsv (j := 1) rfl; have af1 := heap_frozen hsv 1; have ak2 := heap_cell hsv (j := 2) rfl; have af2 := heap_frozen hsv 2; have ak3 := heap_cell hsv (j := 3) rfl; have af3 := heap_frozen hsv 3; simp [go_sem, e10, e34, ak0, af0, ak1, af1, ak2, af2, ak3, af3]; try rfl) ⟨fun _ => by rw [e8]; exact ⟨hxu8, h2u8⟩, ?_⟩)
          rw [e8]
          replace hS := (⟨hxu8, h2u8⟩ : _ ∧ _)
          obtain ⟨u9, e9⟩ : ∃ zz, u8.setCell ⟨w.heap.size + 1 + 1, 0, none⟩ (.int .i64 ((Pure.bkL pre) + p0)) = zz := ⟨_, rfl⟩
          have h2u9 : u9.heap[w.heap.size + 1 + 1 + 1]? = some (.cells #[.int .i64 (pre.length : Int)] 3) := by rw [← e9]; exact (setCell_other (by simp; try omega)).trans (h2u8)
          have hxu9 : u9.heap[Bx]? = some (stepB x.f x.t (x.p.val : Int) x.S) := by rw [← e9]; exact (setCell_other (by simp; try omega)).trans (hxu8)
          refine restIn_only (k := 9) (by kernel_rfl) (opIn_store (k := 9) rfl rfl rfl (wanted_free rfl) (by have n5 := hI.at m5 (by kernel_rfl); have e5 := n5; have f5 := n5.eval; unfold At at e5; have e38 := n38; have f38 := n38.eval; unfold At at e38; have ak0 := heap_cell h1u8 (j := 0) rfl; have af0 := heap_frozen h1u8 0; simp [go_sem, e5, e38, ak0, af0]; try rfl) ⟨fun _ => by rw [e9]; exact ⟨hxu9, h2u9⟩, ?_⟩)
          rw [e9]
          obtain ⟨u10, e10⟩ : ∃ zz, u9.setCell ⟨w.heap.size + 1 + 1 + 1, 0, none⟩ (.int .i64 ((pre.length : Int) + 1)) = zz := ⟨_, rfl⟩
          refine restIn_only (k := 10) (by kernel_rfl) (opIn_store (k := 10) rfl rfl rfl (wanted_free rfl) (by have n6 := hI.at m6 (by kernel_rfl); have e6 := n6; have f6 := n6.eval; unfold At at e6; have e40 := n40; have f40 := n40.eval; unfold At at e40; have ak0 := heap_cell h2u9 (j := 0) rfl; have af0 := heap_frozen h2u9 0; simp [go_sem, e6, e40, ak0, af0]; try rfl) ⟨fun h => absurd rfl h, ?_⟩)
          rw [e10]
          refine restIn_done (by kernel_rfl) ?_
          exact fin _ u8 u9 u10 hb e8 e9 e10
        · refine _root_.id (opIn_call (k := 4) (d := 37) (R := fun v w' => v = .int .i64 p0 ∧ Below wz.heap.size wz w') hI rfl rfl rfl (by kernel_rfl) (Nat.lt_of_le_of_lt (by decide) hsz) (wanted_free rfl) ((back_any x.f x.t (x.p.val : Int) x.S _).mono fun e w' g => ⟨_, g.1, by rw [hp0], g.2⟩) (by have e36 := n36; have f36 := n36.eval; unfold At at e36; simp [go_sem, e36]) ?_)
          intro v w' a' hR hI' n37' hk
          obtain ⟨rfl, hb⟩ := hR
          refine ⟨fun _ => ⟨heap_lft hx hb, heap_lft h2 hb⟩, ?_⟩
          replace n33 := hk _ _ n33 rfl
          replace n34 := hk _ _ n34 rfl
          replace n36 := hk _ _ n36 rfl
          replace n39 := hk _ _ n39 rfl
          replace n40 := hk _ _ n40 rfl
          have n37 := n37'
          replace hI := hI'
          clear hk hI' n37'
          obtain ⟨act9, rfl⟩ : ∃ x, x = a' := ⟨_, rfl⟩
          replace hS := (⟨heap_lft hx hb, heap_lft h2 hb⟩ : _ ∧ _)
          refine restIn_split [2, 8] (by kernel_rfl) rfl (fun i9 hi9 => ?_)
          have hi9' : i9 = 2 ∨ i9 = 8 := by simpa using hi9
          clear hi9
          rcases hi9' with rfl | rfl
          · have hbk := heap_lft h1' hb
            refine _root_.id (opIn_value (k := 2) (d := 35) (v := .int .i64 (Pure.bkL pre)) hI rfl rfl rfl (by kernel_rfl) (Nat.lt_of_le_of_lt (by decide) hsz) (wanted_free rfl) (by have n5 := hI.at m5 (by kernel_rfl); have e5 := n5; have f5 := n5.eval; unfold At at e5; have bk0 := heap_cell hbk (j := 0) rfl; have bf0 := heap_frozen hbk 0; simp [go_sem, e5, bk0]; try rfl) (fun a' hI' n35' hk => ⟨fun _ => hS, ?_⟩))
            replace n33 := hk _ _ n33 rfl
            replace n34 := hk _ _ n34 rfl
            replace n36 := hk _ _ n36 rfl
            replace n39 := hk _ _ n39 rfl
            replace n40 := hk _ _ n40 rfl
            replace n37 := hk _ _ n37 rfl
            have n35 := n35'
            replace hI := hI'
            clear hk hI' n35'
            obtain ⟨act9, rfl⟩ : ∃ x, x = a' := ⟨_, rfl⟩
            refine restIn_take (k := 5) (d := 38) (v := .int .i64 ((Pure.bkL pre) + p0)) hI rfl rfl (by kernel_rfl) (Nat.lt_of_le_of_lt (by decide) hsz) (by kernel_rfl) (by kernel_rfl) (by kernel_rfl) (by kernel_rfl) (by kernel_rfl) (by kernel_rfl) hpan hS (wanted_free rfl) (fun z hz => by have e35 := n35; have f35 := n35.eval; unfold At at e35; have e37 := n37; have f37 := n37.eval; unfold At at e37; simp [go_sem, e35, e37, hw1]) (fun a' hI' n38' hk => ?_)
            replace n33 := hk _ _ n33 rfl
            replace n34 := hk _ _ n34 rfl
            replace n36 := hk _ _ n36 rfl
            replace n39 := hk _ _ n39 rfl
            replace n40 := hk _ _ n40 rfl
            replace n37 := hk _ _ n37 rfl
            replace n35 := hk _ _ n35 rfl
            have n38 := n38'
            replace hI := hI'
            clear hk hI' n38'
            obtain ⟨act9, rfl⟩ : ∃ x, x = a' := ⟨_, rfl⟩
            have hsv := heap_lft hs hb
            obtain ⟨u8, e8⟩ : ∃ zz, (((w'.setCell ⟨W3.heap.size, 0, none⟩ (.int .i64 (x.S 0))).setCell ⟨W3.heap.size, 1, none⟩ (.int .i64 (x.S 1))).setCell ⟨W3.heap.size, 2, none⟩ (.int .i64 (x.S 2))).setCell ⟨W3.heap.size, 3, none⟩ (.int .i64 (x.S 3)) = zz := ⟨_, rfl⟩
            have hxu8 : u8.heap[Bx]? = some (stepB x.f x.t (x.p.val : Int) x.S) := by rw [← e8]; exact (setCell_other (by simp; try omega)).trans ((setCell_other (by simp; try omega)).trans ((setCell_other (by simp; try omega)).trans ((setCell_other (by simp; try omega)).trans (heap_lft hx hb))))
            have h1u8 : u8.heap[w.heap.size + 1 + 1]? = some (.cells #[.int .i64 (Pure.bkL pre)] 3) := by rw [← e8]; exact (setCell_other (by simp; try omega)).trans ((setCell_other (by simp; try omega)).trans ((setCell_other (by simp; try omega)).trans ((setCell_other (by simp; try omega)).trans (heap_lft h1' hb))))
            have h2u8 : u8.heap[w.heap.size + 1 + 1 + 1]? = some (.cells #[.int .i64 (pre.length : Int)] 3) := by rw [← e8]; exact (setCell_other (by simp; try omega)).trans ((setCell_other (by simp; try omega)).trans ((setCell_other (by simp; try omega)).trans ((setCell_other (by simp; try omega)).trans (heap_lft h2 hb))))
            refine restIn_only (k := 8) (by kernel_rfl) (opIn_store (k := 8) rfl rfl rfl (wanted_free rfl) (by have n10 := hI.at m10 (by kernel_rfl); have e10 := n10; have f10 := n10.eval; unfold At at e10; have e34 := n34; have f34 := n34.eval; unfold At at e34; have ak0 := heap_cell hsv (j := 0) rfl; have af0 := heap_frozen hsv 0; have ak1 := heap_cell hsv (j := 1) rfl; have af1 := heap_frozen hsv 1; have ak2 := heap_cell hsv (j := 2) rfl; have af2 := heap_frozen hsv 2; have ak3 := heap_cell hsv (j := 3) rfl; have af3 := heap_frozen hsv 3; simp [go_sem, e10, e34, ak0, af0, ak1, af1, ak2, af2, ak3, af3]; try rfl) ⟨fun _ => by rw [e8]; exact ⟨hxu8, h2u8⟩, ?_⟩)
            rw [e8]
            replace hS := (⟨hxu8, h2u8⟩ : _ ∧ _)
            obtain ⟨u9, e9⟩ : ∃ zz, u8.setCell ⟨w.heap.size + 1 + 1, 0, none⟩ (.int .i64 ((Pure.bkL pre) + p0)) = zz := ⟨_, rfl⟩
            have h2u9 : u9.heap[w.heap.size + 1 + 1 + 1]? = some (.cells #[.int .i64 (pre.length : Int)] 3) := by rw [← e9]; exact (setCell_other (by simp; try omega)).trans (h2u8)
            have hxu9 : u9.heap[Bx]? = some (stepB x.f x.t (x.p.val : Int) x.S) := by rw [← e9]; exact (setCell_other (by simp; try omega)).trans (hxu8)
            refine restIn_only (k := 9) (by kernel_rfl) (opIn_store (k := 9) rfl rfl rfl (wanted_free rfl) (by have n5 := hI.at m5 (by kernel_rfl); have e5 := n5; have f5 := n5.eval; unfold At at e5; have e38 := n38; have f38 := n38.eval; unfold At at e38; have ak0 := heap_cell h1u8 (j := 0) rfl; have af0 := heap_frozen h1u8 0; simp [go_sem, e5, e38, ak0, af0]; try rfl) ⟨fun _ => by rw [e9]; exact ⟨hxu9, h2u9⟩, ?_⟩)
            rw [e9]
            obtain ⟨u10, e10⟩ : ∃ zz, u9.setCell ⟨w.heap.size + 1 + 1 + 1, 0, none⟩ (.int .i64 ((pre.length : Int) + 1)) = zz := ⟨_, rfl⟩
            refine restIn_only (k := 10) (by kernel_rfl) (opIn_store (k := 10) rfl rfl rfl (wanted_free rfl) (by have n6 := hI.at m6 (by kernel_rfl); have e6 := n6; have f6 := n6.eval; unfold At at e6; have e40 := n40; have f40 := n40.eval; unfold At at e40; have ak0 := heap_cell h2u9 (j := 0) rfl; have af0 := heap_frozen h2u9 0; simp [go_sem, e6, e40, ak0, af0]; try rfl) ⟨fun h => absurd rfl h, ?_⟩)
            rw [e10]
            refine restIn_done (by kernel_rfl) ?_
            exact fin _ u8 u9 u10 hb e8 e9 e10
          · have hsv := heap_lft hs hb
            obtain ⟨u8, e8⟩ : ∃ zz, (((w'.setCell ⟨W3.heap.size, 0, none⟩ (.int .i64 (x.S 0))).setCell ⟨W3.heap.size, 1, none⟩ (.int .i64 (x.S 1))).setCell ⟨W3.heap.size, 2, none⟩ (.int .i64 (x.S 2))).setCell ⟨W3.heap.size, 3, none⟩ (.int .i64 (x.S 3)) = zz := ⟨_, rfl⟩
            have hxu8 : u8.heap[Bx]? = some (stepB x.f x.t (x.p.val : Int) x.S) := by rw [← e8]; exact (setCell_other (by simp; try omega)).trans ((setCell_other (by simp; try omega)).trans ((setCell_other (by simp; try omega)).trans ((setCell_other (by simp; try omega)).trans (heap_lft hx hb))))
            have h1u8 : u8.heap[w.heap.size + 1 + 1]? = some (.cells #[.int .i64 (Pure.bkL pre)] 3) := by rw [← e8]; exact (setCell_other (by simp; try omega)).trans ((setCell_other (by simp; try omega)).trans ((setCell_other (by simp; try omega)).trans ((setCell_other (by simp; try omega)).trans (heap_lft h1' hb))))
            have h2u8 : u8.heap[w.heap.size + 1 + 1 + 1]? = some (.cells #[.int .i64 (pre.length : Int)] 3) := by rw [← e8]; exact (setCell_other (by simp; try omega)).trans ((setCell_other (by simp; try omega)).trans ((setCell_other (by simp; try omega)).trans ((setCell_other (by simp; try omega)).trans (heap_lft h2 hb))))
            refine _root_.id (opIn_store (k := 8) rfl rfl rfl (wanted_free rfl) (by have n10 := hI.at m10 (by kernel_rfl); have e10 := n10; have f10 := n10.eval; unfold At at e10; have e34 := n34; have f34 := n34.eval; unfold At at e34; have ak0 := heap_cell hsv (j := 0) rfl; have af0 := heap_frozen hsv 0; have ak1 := heap_cell hsv (j := 1) rfl; have af1 := heap_frozen hsv 1; have ak2 := heap_cell hsv (j := 2) rfl; have af2 := heap_frozen hsv 2; have ak3 := heap_cell hsv (j := 3) rfl; have af3 := heap_frozen hsv 3; simp [go_sem, e10, e34, ak0, af0, ak1, af1, ak2, af2, ak3, af3]; try rfl) ⟨fun _ => by rw [e8]; exact ⟨hxu8, h2u8⟩, ?_⟩)
            rw [e8]
            replace hS := (⟨hxu8, h2u8⟩ : _ ∧ _)
            have hbk := h1u8
            refine restIn_only (k := 2) (by kernel_rfl) (opIn_value (k := 2) (d := 35) (v := .int .i64 (Pure.bkL pre)) hI rfl rfl rfl (by kernel_rfl) (Nat.lt_of_le_of_lt (by decide) hsz) (wanted_free rfl) (by have n5 := hI.at m5 (by kernel_rfl); have e5 := n5; have f5 := n5.eval; unfold At at e5; have bk0 := heap_cell hbk (j := 0) rfl; have bf0 := heap_frozen hbk 0; simp [go_sem, e5, bk0]; try rfl) (fun a' hI' n35' hk => ⟨fun _ => hS, ?_⟩))
            replace n33 := hk _ _ n33 rfl
            replace n34 := hk _ _ n34 rfl
            replace n36 := hk _ _ n36 rfl
            replace n39 := hk _ _ n39 rfl
            replace n40 := hk _ _ n40 rfl
            replace n37 := hk _ _ n37 rfl
            have n35 := n35'
            replace hI := hI'
            clear hk hI' n35'
            obtain ⟨act9, rfl⟩ : ∃ x, x = a' := ⟨_, rfl⟩
            refine restIn_take (k := 5) (d := 38) (v := .int .i64 ((Pure.bkL pre) + p0)) hI rfl rfl (by kernel_rfl) (Nat.lt_of_le_of_lt (by decide) hsz) (by kernel_rfl) (by kernel_rfl) (by kernel_rfl) (by kernel_rfl) (by kernel_rfl) (by kernel_rfl) hpan hS (wanted_free rfl) (fun z hz => by have e35 := n35; have f35 := n35.eval; unfold At at e35; have e37 := n37; have f37 := n37.eval; unfold At at e37; simp [go_sem, e35, e37, hw1]) (fun a' hI' n38' hk => ?_)
            replace n33 := hk _ _ n33 rfl
            replace n34 := hk _ _ n34 rfl
            replace n36 := hk _ _ n36 rfl
            replace n39 := hk _ _ n39 rfl
            replace n40 := hk _ _ n40 rfl
            replace n37 := hk _ _ n37 rfl
            replace n35 := hk _ _ n35 rfl
            have n38 := n38'
            replace hI := hI'
            clear hk hI' n38'
            obtain ⟨act9, rfl⟩ : ∃ x, x = a' := ⟨_, rfl⟩
            obtain ⟨u9, e9⟩ : ∃ zz, u8.setCell ⟨w.heap.size + 1 + 1, 0, none⟩ (.int .i64 ((Pure.bkL pre) + p0)) = zz := ⟨_, rfl⟩
            have h2u9 : u9.heap[w.heap.size + 1 + 1 + 1]? = some (.cells #[.int .i64 (pre.length : Int)] 3) := by rw [← e9]; exact (setCell_other (by simp; try omega)).trans (h2u8)
            have hxu9 : u9.heap[Bx]? = some (stepB x.f x.t (x.p.val : Int) x.S) := by rw [← e9]; exact (setCell_other (by simp; try omega)).trans (hxu8)
            refine restIn_only (k := 9) (by kernel_rfl) (opIn_store (k := 9) rfl rfl rfl (wanted_free rfl) (by have n5 := hI.at m5 (by kernel_rfl); have e5 := n5; have f5 := n5.eval; unfold At at e5; have e38 := n38; have f38 := n38.eval; unfold At at e38; have ak0 := heap_cell h1u8 (j := 0) rfl; have af0 := heap_frozen h1u8 0; simp [go_sem, e5, e38, ak0, af0]; try rfl) ⟨fun _ => by rw [e9]; exact ⟨hxu9, h2u9⟩, ?_⟩)
            rw [e9]
            obtain ⟨u10, e10⟩ : ∃ zz, u9.setCell ⟨w.heap.size + 1 + 1 + 1, 0, none⟩ (.int .i64 ((pre.length : Int) + 1)) = zz := ⟨_, rfl⟩
            refine restIn_only (k := 10) (by kernel_rfl) (opIn_store (k := 10) rfl rfl rfl (wanted_free rfl) (by have n6 := hI.at m6 (by kernel_rfl); have e6 := n6; have f6 := n6.eval; unfold At at e6; have e40 := n40; have f40 := n40.eval; unfold At at e40; have ak0 := heap_cell h2u9 (j := 0) rfl; have af0 := heap_frozen h2u9 0; simp [go_sem, e6, e40, ak0, af0]; try rfl) ⟨fun h => absurd rfl h, ?_⟩)
            rw [e10]
            refine restIn_done (by kernel_rfl) ?_
            exact fin _ u8 u9 u10 hb e8 e9 e10
      · have he1 : (x.e != 0) = true := by simp [he]
        have HE := Lib.hid he
        clear he
        gi_wp2_with fail
        generalize hA : (Act.mk _ _ : Act) = a0
        have m4 : At a0 4 (.pointer (some ⟨w.heap.size + 1, 0, none⟩)) := by rw [← hA]; rfl
        have m5 : At a0 5 (.pointer (some ⟨w.heap.size + 1 + 1, 0, none⟩)) := by rw [← hA]; rfl
        have m6 : At a0 6 (.pointer (some ⟨w.heap.size + 1 + 1 + 1, 0, none⟩)) := by rw [← hA]; rfl
        have m7 : At a0 7 (.pointer (some ⟨w.heap.size + 1 + 1 + 1 + 1, 0, none⟩)) := by rw [← hA]; rfl
        have m12 : At a0 12 (.int .i64 x.e) := by rw [← hA]; rfl
        have hsz : 44 < a0.tmps.size := by rw [← hA]; exact of_decide_eq_true (by kernel_rfl)
        have hI : Kept (List.range' 30 15) a0 a0 := Kept.refl _ _
        clear hA
        refine with_panIn (fun d _ _ _ _ h => by cases d <;> exact h) ?_
        intro hpan
        refine wpIn_region_rest (fun u => u.heap[w.heap.size + 1 + 1 + 1]? = some (.cells #[.int .i64 (pre.length : Int)] 3)) 6 (by kernel_rfl) ?_
        obtain ⟨wz, hwz⟩ : ∃ x, W.drew = x := ⟨_, rfl⟩
        change RestIn _ _ _ _ _ _ _ _ _ _ (W.drew)
        rw [hwz]
        have hq : Below W.heap.size W wz := by rw [← hwz]; exact (Below.refl _ _).drew
        have h0 := heap_lft HI.out.r0 hq
        have h1' := heap_lft HI.out.r1 hq
        have h2 := heap_lft HI.out.r2 hq
        have h3' := heap_lft HI.out.r3 hq
        have hS := h2
        refine restIn_take (k := 0) (d := 30) (v := cansV none 0 0 none 0 0 0) hI rfl rfl (by kernel_rfl) (Nat.lt_of_le_of_lt (by decide) hsz) (by kernel_rfl) (by kernel_rfl) (by kernel_rfl) (by kernel_rfl) (by kernel_rfl) (by kernel_rfl) hpan hS (wanted_free rfl) (fun z hz => by simp [go_sem]) (fun a' hI' n30' hk => ?_)
        have n30 := n30'
        replace hI := hI'
        clear hk hI' n30'
        obtain ⟨act9, rfl⟩ : ∃ x, x = a' := ⟨_, rfl⟩
        refine restIn_take (k := 1) (d := 31) (v := .int .i64 (pre.length : Int)) hI rfl rfl (by kernel_rfl) (Nat.lt_of_le_of_lt (by decide) hsz) (by kernel_rfl) (by kernel_rfl) (by kernel_rfl) (by kernel_rfl) (by kernel_rfl) (by kernel_rfl) hpan hS (wanted_free rfl) (fun z hz => by have n6 := hI.at m6 (by kernel_rfl); have e6 := n6; have f6 := n6.eval; unfold At at e6; have zk0 := heap_cell hz (j := 0) rfl; have zf0 := heap_frozen hz 0; simp [go_sem, e6, zk0]) (fun a' hI' n31' hk => ?_)
        replace n30 := hk _ _ n30 rfl
        have n31 := n31'
        replace hI := hI'
        clear hk hI' n31'
        obtain ⟨act9, rfl⟩ : ∃ x, x = a' := ⟨_, rfl⟩
        refine restIn_take (k := 2) (d := 32) (v := .int .i64 x.e) hI rfl rfl (by kernel_rfl) (Nat.lt_of_le_of_lt (by decide) hsz) (by kernel_rfl) (by kernel_rfl) (by kernel_rfl) (by kernel_rfl) (by kernel_rfl) (by kernel_rfl) hpan hS (wanted_free rfl) (fun z hz => by have n12 := hI.at m12 (by kernel_rfl); have e12 := n12; have f12 := n12.eval; unfold At at e12; simp [go_sem, e12]) (fun a' hI' n32' hk => ?_)
        replace n30 := hk _ _ n30 rfl
        replace n31 := hk _ _ n31 rfl
        have n32 := n32'
        replace hI := hI'
        clear hk hI' n32'
        obtain ⟨act9, rfl⟩ : ∃ x, x = a' := ⟨_, rfl⟩
        obtain ⟨u3, hu3⟩ : ∃ zz, (((wz.setCell ⟨w.heap.size + 1, 0, none⟩ (.slice none 0 0)).setCell ⟨w.heap.size + 1, 1, none⟩ (.slice none 0 0)).setCell ⟨w.heap.size + 1, 2, none⟩ (.int .i64 0)) = zz := ⟨_, rfl⟩
        have h0u3 : u3.heap[w.heap.size + 1]? = some (cansB none 0 0 none 0 0 0) := by rw [← hu3]; exact heap_set (heap_set (heap_set h0 0 _) 1 _) 2 _
        have h1u3 : u3.heap[w.heap.size + 1 + 1]? = some (.cells #[.int .i64 (Pure.bkL pre)] 3) := by rw [← hu3]; exact (setCell_other (by simp; try omega)).trans ((setCell_other (by simp; try omega)).trans ((setCell_other (by simp; try omega)).trans (h1')))
        have h2u3 : u3.heap[w.heap.size + 1 + 1 + 1]? = some (.cells #[.int .i64 (pre.length : Int)] 3) := by rw [← hu3]; exact (setCell_other (by simp; try omega)).trans ((setCell_other (by simp; try omega)).trans ((setCell_other (by simp; try omega)).trans (h2)))
        have h3u3 : u3.heap[w.heap.size + 1 + 1 + 1 + 1]? = some (.cells #[.int .i64 0] 30) := by rw [← hu3]; exact (setCell_other (by simp; try omega)).trans ((setCell_other (by simp; try omega)).trans ((setCell_other (by simp; try omega)).trans (h3')))
        refine restIn_only (k := 3) (by kernel_rfl) (opIn_store (k := 3) rfl rfl rfl (wanted_free rfl) (by have n4 := hI.at m4 (by kernel_rfl); have e4 := n4; have f4 := n4.eval; unfold At at e4; have e30 := n30; have f30 := n30.eval; unfold At at e30; have ak0 := heap_cell h0 (j := 0) rfl; have af0 := heap_frozen h0 0; have ak1 := heap_cell h0 (j := 1) rfl; have af1 := heap_frozen h0 1; have ak2 := heap_cell h0 (j := 2) rfl; have af2 := heap_frozen h0 2; simp [go_sem, e4, e30, ak0, af0, ak1, af1, ak2, af2]; try rfl) ⟨fun _ => by rw [hu3]; exact h2u3, ?_⟩)
        rw [hu3]
        obtain ⟨u4, hu4⟩ : ∃ zz, u3.setCell ⟨w.heap.size + 1 + 1, 0, none⟩ (.int .i64 0) = zz := ⟨_, rfl⟩
        have h0u4 : u4.heap[w.heap.size + 1]? = some (cansB none 0 0 none 0 0 0) := by rw [← hu4]; exact (setCell_other (by simp; try omega)).trans (h0u3)
        have h1u4 : u4.heap[w.heap.size + 1 + 1]? = some (.cells #[.int .i64 0] 3) := by rw [← hu4]; exact heap_set h1u3 0 _
        have h2u4 : u4.heap[w.heap.size + 1 + 1 + 1]? = some (.cells #[.int .i64 (pre.length : Int)] 3) := by rw [← hu4]; exact (setCell_other (by simp; try omega)).trans (h2u3)
        have h3u4 : u4.heap[w.heap.size + 1 + 1 + 1 + 1]? = some (.cells #[.int .i64 0] 30) := by rw [← hu4]; exact (setCell_other (by simp; try omega)).trans (h3u3)
        refine restIn_only (k := 4) (by kernel_rfl) (opIn_store (k := 4) rfl rfl rfl (wanted_free rfl) (by have n5 := hI.at m5 (by kernel_rfl); have e5 := n5; have f5 := n5.eval; unfold At at e5; have ak0 := heap_cell h1u3 (j := 0) rfl; have af0 := heap_frozen h1u3 0; simp [go_sem, e5, ak0, af0]; try rfl) ⟨fun _ => by rw [hu4]; exact h2u4, ?_⟩)
        rw [hu4]
        obtain ⟨u5, hu5⟩ : ∃ zz, u4.setCell ⟨w.heap.size + 1 + 1 + 1, 0, none⟩ (.int .i64 (pre.length : Int)) = zz := ⟨_, rfl⟩
        have h0u5 : u5.heap[w.heap.size + 1]? = some (cansB none 0 0 none 0 0 0) := by rw [← hu5]; exact (setCell_other (by simp; try omega)).trans (h0u4)
        have h1u5 : u5.heap[w.heap.size + 1 + 1]? = some (.cells #[.int .i64 0] 3) := by rw [← hu5]; exact (setCell_other (by simp; try omega)).trans (h1u4)
        have h2u5 : u5.heap[w.heap.size + 1 + 1 + 1]? = some (.cells #[.int .i64 (pre.length : Int)] 3) := by rw [← hu5]; exact heap_set h2u4 0 _
        have h3u5 : u5.heap[w.heap.size + 1 + 1 + 1 + 1]? = some (.cells #[.int .i64 0] 30) := by rw [← hu5]; exact (setCell_other (by simp; try omega)).trans (h3u4)
        refine restIn_only (k := 5) (by kernel_rfl) (opIn_store (k := 5) rfl rfl rfl (wanted_free rfl) (by have n6 := hI.at m6 (by kernel_rfl); have e6 := n6; have f6 := n6.eval; unfold At at e6; have e31 := n31; have f31 := n31.eval; unfold At at e31; have ak0 := heap_cell h2u4 (j := 0) rfl; have af0 := heap_frozen h2u4 0; simp [go_sem, e6, e31, ak0, af0]; try rfl) ⟨fun _ => by rw [hu5]; exact h2u5, ?_⟩)
        rw [hu5]
        obtain ⟨u6, hu6⟩ : ∃ zz, u5.setCell ⟨w.heap.size + 1 + 1 + 1 + 1, 0, none⟩ (.int .i64 x.e) = zz := ⟨_, rfl⟩
        have h0u6 : u6.heap[w.heap.size + 1]? = some (cansB none 0 0 none 0 0 0) := by rw [← hu6]; exact (setCell_other (by simp; try omega)).trans (h0u5)
        have h1u6 : u6.heap[w.heap.size + 1 + 1]? = some (.cells #[.int .i64 0] 3) := by rw [← hu6]; exact (setCell_other (by simp; try omega)).trans (h1u5)
        have h2u6 : u6.heap[w.heap.size + 1 + 1 + 1]? = some (.cells #[.int .i64 (pre.length : Int)] 3) := by rw [← hu6]; exact (setCell_other (by simp; try omega)).trans (h2u5)
        have h3u6 : u6.heap[w.heap.size + 1 + 1 + 1 + 1]? = some (.cells #[.int .i64 x.e] 30) := by rw [← hu6]; exact heap_set h3u5 0 _
        refine restIn_only (k := 6) (by kernel_rfl) (opIn_store (k := 6) rfl rfl rfl (wanted_free rfl) (by have n7 := hI.at m7 (by kernel_rfl); have e7 := n7; have f7 := n7.eval; unfold At at e7; have e32 := n32; have f32 := n32.eval; unfold At at e32; have ak0 := heap_cell h3u5 (j := 0) rfl; have af0 := heap_frozen h3u5 0; simp [go_sem, e7, e32, ak0, af0]; try rfl) ⟨fun h => absurd rfl h, ?_⟩)
        rw [hu6]
        have hkp : KeptR (BadP w.heap.size W3.heap.size) W u6 := by
          rw [← hu6, ← hu5, ← hu4, ← hu3]
          refine (KeptR.of_below hq).trans ?_
          exact (((((KeptR.set _ (.inl rfl) _).trans (KeptR.set _ (.inl rfl) _)).trans (KeptR.set _ (.inl rfl) _)).trans (KeptR.set _ (.inr (.inl rfl)) _)).trans (KeptR.set _ (.inr (.inr (.inl rfl))) _)).trans (KeptR.set _ (.inr (.inr (.inr (.inl rfl)))) _)
        have hbl : Below w.heap.size w u6 := by
          rw [← hu6, ← hu5, ← hu4, ← hu3]
          have hb0 := HI.out.below.trans (hq.mono (show w.heap.size ≤ W.heap.size by have := HSZ5.out; have := HSW.out; omega))
          exact (((((hb0.setCell (by dsimp only; omega) _).setCell (by dsimp only; omega) _).setCell (by dsimp only; omega) _).setCell (by dsimp only; omega) _).setCell (by dsimp only; omega) _).setCell (by dsimp only; omega) _
        have hpx : PlayX w w.heap.size .ret pre x u6 := ⟨rfl, HI.out.clean, HE.out, h0u6, h1u6, h2u6, h3u6, hbl⟩
        refine restIn_done (by kernel_rfl) ?_
        gi_wp2_with fail
        exact ⟨hkp, pre, x, rfl, hpx⟩
    case done =>
      rintro D ys W hD hSy hi hK
      obtain ⟨hall, rfl⟩ := Pure.came_all hSy hi.clean
      have hpw := HPA.out.kept hi.kept
      have hs := hi.s
      have hr1 := hi.r1
      rw [Pure.last_ups] at hs
      rw [Pure.bk_ups HF.out len hall] at hr1
      have hb := hi.below
      have hr0 := hi.r0
      have hr2 := hi.r2
      rw [Pure.ups_length] at hr2
      have hr3 := hi.r3
      have hwz := hi.kept.size
      clear hi hSy
      gi_wp2_with fail
      generalize hA : (Act.mk _ _ : Act) = a0
      have m4 : At a0 4 (.pointer (some ⟨w.heap.size + 1, 0, none⟩)) := by rw [← hA]; rfl
      have m5 : At a0 5 (.pointer (some ⟨w.heap.size + 1 + 1, 0, none⟩)) := by rw [← hA]; rfl
      have m6 : At a0 6 (.pointer (some ⟨w.heap.size + 1 + 1 + 1, 0, none⟩)) := by rw [← hA]; rfl
      have m7 : At a0 7 (.pointer (some ⟨w.heap.size + 1 + 1 + 1 + 1, 0, none⟩)) := by rw [← hA]; rfl
      have m9 : At a0 9 (.pointer (some ⟨Bn, 0, none⟩)) := by rw [← hA]; rfl
      have m10 : At a0 10 (.pointer (some ⟨W3.heap.size, 0, none⟩)) := by rw [← hA]; rfl
      have hsz : 44 < a0.tmps.size := by rw [← hA]; exact of_decide_eq_true (by kernel_rfl)
      have hI : Kept (List.range' 41 4) a0 a0 := Kept.refl _ _
      refine wpIn_mono (Q := fun e a' w' => e = .normal ∧ Kept (List.range' 41 4) a0 a' ∧ ∃ a1 c1 b1 d1, w'.heap[w.heap.size + 1]? = some (cansB a1 m c1 b1 m d1 ((Pure.stS A X (startS k m B) len) 0)) ∧ w'.heap[w.heap.size + 1 + 1]? = some (.cells #[.int .i64 (Pure.bkS A X (startS k m B) len)] 3) ∧ w'.heap[w.heap.size + 1 + 1 + 1]? = some (.cells #[.int .i64 0] 3) ∧ w'.heap[w.heap.size + 1 + 1 + 1 + 1]? = some (.cells #[.int .i64 0] 30) ∧ OwnNums w' W.heap.size 3 1 a1 m c1 A ∧ OwnNums w' W.heap.size 3 1 b1 m d1 (fun q => (Pure.stS A X (startS k m B) len) (q + 1)) ∧ Apart b1 a1 ∧ Below w.heap.size w w' ∧ w'.heap[D]? = some (.deferred (some []))) ?_ ?cont
      refine wpIn_wide.2 ?_
      refine with_pan (fun _ _ _ _ _ h => by cases h.1) ?_
      intro hpan
      refine wp_region_rest (fun u => u.heap[W3.heap.size]? = some (insB (Pure.stS A X (startS k m B) len)) ∧ u.heap[w.heap.size + 1 + 1]? = some (.cells #[.int .i64 (Pure.bkS A X (startS k m B) len)] 3)) (by kernel_rfl) ?_
      obtain ⟨wz, hwz⟩ : ∃ x, W.drew = x := ⟨_, rfl⟩
      change Rest _ _ _ _ _ _ _ (W.drew)
      rw [hwz]
      have hq : Below W.heap.size W wz := by rw [← hwz]; exact (Below.refl _ _).drew
      have hdf : a0.defers = [{ target := .collected D, args := #[] }] := by rw [← hA]
      clear hA
      have hsz5 := HSZ5.out
      have hns : W3.heap.size ≠ w.heap.size + 1 ∧ W3.heap.size ≠ w.heap.size + 1 + 1 ∧ W3.heap.size ≠ w.heap.size + 1 + 1 + 1 ∧ W3.heap.size ≠ w.heap.size + 1 + 1 + 1 + 1 := by have := HNB.out; have := HNS.out; have := HSS.out; omega
      have hzs : wz.heap.size = W.heap.size := by rw [← hwz]; rfl
      have zs := heap_lft hs hq
      have z0 := heap_lft hr0 hq
      have z1 := heap_lft hr1 hq
      have z2 := heap_lft hr2 hq
      have z3 := heap_lft hr3 hq
      have zp := hpw.below hq
      have zk := heap_lft hK hq
      have zb := hb.trans (hq.mono (show w.heap.size ≤ W.heap.size by omega))
      have hS : wz.heap[W3.heap.size]? = some (insB (Pure.stS A X (startS k m B) len)) ∧ wz.heap[w.heap.size + 1 + 1]? = some (.cells #[.int .i64 (Pure.bkS A X (startS k m B) len)] 3) := ⟨zs, z1⟩
      refine rest_take (k := 0) (d := 41) (v := .pointer (some ⟨Bn, 0, none⟩)) hI rfl rfl (by kernel_rfl) (Nat.lt_of_le_of_lt (by decide) hsz) (by kernel_rfl) hpan (by kernel_rfl) hS (wanted_free rfl) (fun z hz => by have n9 := hI.at m9 (by kernel_rfl); have e9 := n9; have f9 := n9.eval; unfold At at e9; simp [go_sem, e9]) (fun a' hI' n41' hk => ?_)
      have n41 := n41'
      replace hI := hI'
      clear hk hI' n41'
      obtain ⟨act9, rfl⟩ : ∃ x, x = a' := ⟨_, rfl⟩
      refine rest_take (k := 1) (d := 42) (v := insV (Pure.stS A X (startS k m B) len)) hI rfl rfl (by kernel_rfl) (Nat.lt_of_le_of_lt (by decide) hsz) (by kernel_rfl) hpan (by kernel_rfl) hS (wanted_free rfl) (fun z hz => by have n10 := hI.at m10 (by kernel_rfl); have e10 := n10; have f10 := n10.eval; unfold At at e10; have zk0 := heap_cell hz.1 (j := 0) rfl; have zf0 := heap_frozen hz.1 0; have zk1 := heap_cell hz.1 (j := 1) rfl; have zf1 := heap_frozen hz.1 1; have zk2 := heap_cell hz.1 (j := 2) rfl; have zf2 := heap_frozen hz.1 2; have zk3 := heap_cell hz.1 (j := 3) rfl; have zf3 := heap_frozen hz.1 3; simp [go_sem, e10, zk0, zk1, zk2, zk3]) (fun a' hI' n42' hk => ?_)
      replace n41 := hk _ _ n41 rfl
      have n42 := n42'
      replace hI := hI'
      clear hk hI' n42'
      obtain ⟨act9, rfl⟩ : ∃ x, x = a' := ⟨_, rfl⟩
      refine rest_take (k := 3) (d := 44) (v := .int .i64 (Pure.bkS A X (startS k m B) len)) hI rfl rfl (by kernel_rfl) (Nat.lt_of_le_of_lt (by decide) hsz) (by kernel_rfl) hpan (by kernel_rfl) hS (wanted_free rfl) (fun z hz => by have n5 := hI.at m5 (by kernel_rfl); have e5 := n5; have f5 := n5.eval; unfold At at e5; have zk0 := heap_cell hz.2 (j := 0) rfl; have zf0 := heap_frozen hz.2 0; simp [go_sem, e5, zk0]) (fun a' hI' n44' hk => ?_)
      replace n41 := hk _ _ n41 rfl
      replace n42 := hk _ _ n42 rfl
      have n44 := n44'
      replace hI := hI'
      clear hk hI' n44'
      obtain ⟨act9, rfl⟩ : ∃ x, x = a' := ⟨_, rfl⟩
      refine rest_only (k := 2) (by kernel_rfl) (op_call (k := 2) (d := 43) (R := fun v w' => ∃ a1 c1 b1 d1, v = cansV a1 m c1 b1 m d1 ((Pure.stS A X (startS k m B) len) 0) ∧ OwnNums w' wz.heap.size 3 1 a1 m c1 A ∧ OwnNums w' wz.heap.size 3 1 b1 m d1 (fun q => (Pure.stS A X (startS k m B) len) (q + 1)) ∧ Apart b1 a1 ∧ Below wz.heap.size wz w') hI rfl rfl (by kernel_rfl) (Nat.lt_of_le_of_lt (by decide) hsz) (wanted_free rfl) ((holding_any Bn a m c b m d k L ln lc A (Pure.stS A X (startS k m B) len) h3 HNA.out wz zp.w3 zp.w4).mono (fun e w' g => by obtain ⟨a1, c1, b1, d1, g1, g2⟩ := g; exact ⟨_, g1, a1, c1, b1, d1, rfl, g2⟩)) (by have e41 := n41; have f41 := n41.eval; unfold At at e41; have e42 := n42; have f42 := n42.eval; unfold At at e42; simp [go_sem, e41, e42]) ?_)
      intro v w' a' hR hI' n43' hk
      obtain ⟨a1, c1, b1, d1, rfl, ho1, ho2, hap, hbc⟩ := hR
      refine ⟨⟨heap_lft zs hbc, heap_lft z1 hbc⟩, ?_⟩
      replace n41 := hk _ _ n41 rfl
      replace n42 := hk _ _ n42 rfl
      replace n44 := hk _ _ n44 rfl
      have n43 := n43'
      replace hI := hI'
      clear hk hI' n43'
      obtain ⟨act9, rfl⟩ : ∃ x, x = a' := ⟨_, rfl⟩
      have y0 := heap_lft z0 hbc
      have y1 := heap_lft z1 hbc
      have y2 := heap_lft z2 hbc
      have y3 := heap_lft z3 hbc
      have ys := heap_lft zs hbc
      have yk := heap_lft zk hbc
      have yb := zb.trans (hbc.mono (show w.heap.size ≤ wz.heap.size by omega))
      have hDn : D ≠ w.heap.size + 1 ∧ D ≠ w.heap.size + 1 + 1 ∧ D ≠ w.heap.size + 1 + 1 + 1 ∧ D ≠ w.heap.size + 1 + 1 + 1 + 1 := by omega
      obtain ⟨u4, hu4⟩ : ∃ zz, ((w'.setCell ⟨w.heap.size + 1, 0, none⟩ (.slice a1 m c1)).setCell ⟨w.heap.size + 1, 1, none⟩ (.slice b1 m d1)).setCell ⟨w.heap.size + 1, 2, none⟩ (.int .i64 ((Pure.stS A X (startS k m B) len) 0)) = zz := ⟨_, rfl⟩
      have h0u4 : u4.heap[w.heap.size + 1]? = some (cansB a1 m c1 b1 m d1 ((Pure.stS A X (startS k m B) len) 0)) := by rw [← hu4]; exact heap_set (heap_set (heap_set y0 0 _) 1 _) 2 _
      have h1u4 : u4.heap[w.heap.size + 1 + 1]? = some (.cells #[.int .i64 (Pure.bkS A X (startS k m B) len)] 3) := by rw [← hu4]; exact (setCell_other (by simp; try omega)).trans ((setCell_other (by simp; try omega)).trans ((setCell_other (by simp; try omega)).trans (y1)))
      have h2u4 : u4.heap[w.heap.size + 1 + 1 + 1]? = some (.cells #[.int .i64 (len : Int)] 3) := by rw [← hu4]; exact (setCell_other (by simp; try omega)).trans ((setCell_other (by simp; try omega)).trans ((setCell_other (by simp; try omega)).trans (y2)))
      have h3u4 : u4.heap[w.heap.size + 1 + 1 + 1 + 1]? = some (.cells #[.int .i64 0] 30) := by rw [← hu4]; exact (setCell_other (by simp; try omega)).trans ((setCell_other (by simp; try omega)).trans ((setCell_other (by simp; try omega)).trans (y3)))
      have hsu4 : u4.heap[W3.heap.size]? = some (insB (Pure.stS A X (startS k m B) len)) := by rw [← hu4]; exact (setCell_other (by simp; try omega)).trans ((setCell_other (by simp; try omega)).trans ((setCell_other (by simp; try omega)).trans (ys)))
      have hku4 : u4.heap[D]? = some (.deferred (some [])) := by rw [← hu4]; exact (setCell_other (by simp; try omega)).trans ((setCell_other (by simp; try omega)).trans ((setCell_other (by simp; try omega)).trans (yk)))
      have ho1u4 : OwnNums u4 wz.heap.size 3 1 a1 m c1 A := by rw [← hu4]; exact (((ho1.set (by dsimp only; omega) _).set (by dsimp only; omega) _).set (by dsimp only; omega) _)
      have ho2u4 : OwnNums u4 wz.heap.size 3 1 b1 m d1 (fun q => (Pure.stS A X (startS k m B) len) (q + 1)) := by rw [← hu4]; exact (((ho2.set (by dsimp only; omega) _).set (by dsimp only; omega) _).set (by dsimp only; omega) _)
      have hbu4 : Below w.heap.size w u4 := by rw [← hu4]; exact (((yb.setCell (by dsimp only; omega) _).setCell (by dsimp only; omega) _).setCell (by dsimp only; omega) _)
      refine rest_only (k := 4) (by kernel_rfl) (op_store (k := 4) rfl rfl (wanted_free rfl) (by have n4 := hI.at m4 (by kernel_rfl); have e4 := n4; have f4 := n4.eval; unfold At at e4; have e43 := n43; have f43 := n43.eval; unfold At at e43; have ak0 := heap_cell y0 (j := 0) rfl; have af0 := heap_frozen y0 0; have ak1 := heap_cell y0 (j := 1) rfl; have af1 := heap_frozen y0 1; have ak2 := heap_cell y0 (j := 2) rfl; have af2 := heap_frozen y0 2; simp [go_sem, e4, e43, ak0, af0, ak1, af1, ak2, af2]; try rfl) ⟨by rw [hu4]; exact ⟨hsu4, h1u4⟩, ?_⟩)
      rw [hu4]
      obtain ⟨u5, hu5⟩ : ∃ zz, u4.setCell ⟨w.heap.size + 1 + 1, 0, none⟩ (.int .i64 (Pure.bkS A X (startS k m B) len)) = zz := ⟨_, rfl⟩
      have h0u5 : u5.heap[w.heap.size + 1]? = some (cansB a1 m c1 b1 m d1 ((Pure.stS A X (startS k m B) len) 0)) := by rw [← hu5]; exact (setCell_other (by simp; try omega)).trans (h0u4)
      have h1u5 : u5.heap[w.heap.size + 1 + 1]? = some (.cells #[.int .i64 (Pure.bkS A X (startS k m B) len)] 3) := by rw [← hu5]; exact heap_set h1u4 0 _
      have h2u5 : u5.heap[w.heap.size + 1 + 1 + 1]? = some (.cells #[.int .i64 (len : Int)] 3) := by rw [← hu5]; exact (setCell_other (by simp; try omega)).trans (h2u4)
      have h3u5 : u5.heap[w.heap.size + 1 + 1 + 1 + 1]? = some (.cells #[.int .i64 0] 30) := by rw [← hu5]; exact (setCell_other (by simp; try omega)).trans (h3u4)
      have hsu5 : u5.heap[W3.heap.size]? = some (insB (Pure.stS A X (startS k m B) len)) := by rw [← hu5]; exact (setCell_other (by simp; try omega)).trans (hsu4)
      have hku5 : u5.heap[D]? = some (.deferred (some [])) := by rw [← hu5]; exact (setCell_other (by simp; try omega)).trans (hku4)
      have ho1u5 : OwnNums u5 wz.heap.size 3 1 a1 m c1 A := by rw [← hu5]; exact (ho1u4.set (by dsimp only; omega) _)
      have ho2u5 : OwnNums u5 wz.heap.size 3 1 b1 m d1 (fun q => (Pure.stS A X (startS k m B) len) (q + 1)) := by rw [← hu5]; exact (ho2u4.set (by dsimp only; omega) _)
      have hbu5 : Below w.heap.size w u5 := by rw [← hu5]; exact (hbu4.setCell (by dsimp only; omega) _)
      refine rest_only (k := 5) (by kernel_rfl) (op_store (k := 5) rfl rfl (wanted_free rfl) (by have n5 := hI.at m5 (by kernel_rfl); have e5 := n5; have f5 := n5.eval; unfold At at e5; have e44 := n44; have f44 := n44.eval; unfold At at e44; have ak0 := heap_cell h1u4 (j := 0) rfl; have af0 := heap_frozen h1u4 0; simp [go_sem, e5, e44, ak0, af0]; try rfl) ⟨by rw [hu5]; exact ⟨hsu5, h1u5⟩, ?_⟩)
      rw [hu5]
      obtain ⟨u6, hu6⟩ : ∃ zz, u5.setCell ⟨w.heap.size + 1 + 1 + 1, 0, none⟩ (.int .i64 0) = zz := ⟨_, rfl⟩
      have h0u6 : u6.heap[w.heap.size + 1]? = some (cansB a1 m c1 b1 m d1 ((Pure.stS A X (startS k m B) len) 0)) := by rw [← hu6]; exact (setCell_other (by simp; try omega)).trans (h0u5)
      have h1u6 : u6.heap[w.heap.size + 1 + 1]? = some (.cells #[.int .i64 (Pure.bkS A X (startS k m B) len)] 3) := by rw [← hu6]; exact (setCell_other (by simp; try omega)).trans (h1u5)
      have h2u6 : u6.heap[w.heap.size + 1 + 1 + 1]? = some (.cells #[.int .i64 0] 3) := by rw [← hu6]; exact heap_set h2u5 0 _
      have h3u6 : u6.heap[w.heap.size + 1 + 1 + 1 + 1]? = some (.cells #[.int .i64 0] 30) := by rw [← hu6]; exact (setCell_other (by simp; try omega)).trans (h3u5)
      have hsu6 : u6.heap[W3.heap.size]? = some (insB (Pure.stS A X (startS k m B) len)) := by rw [← hu6]; exact (setCell_other (by simp; try omega)).trans (hsu5)
      have hku6 : u6.heap[D]? = some (.deferred (some [])) := by rw [← hu6]; exact (setCell_other (by simp; try omega)).trans (hku5)
      have ho1u6 : OwnNums u6 wz.heap.size 3 1 a1 m c1 A := by rw [← hu6]; exact (ho1u5.set (by dsimp only; omega) _)
      have ho2u6 : OwnNums u6 wz.heap.size 3 1 b1 m d1 (fun q => (Pure.stS A X (startS k m B) len) (q + 1)) := by rw [← hu6]; exact (ho2u5.set (by dsimp only; omega) _)
      have hbu6 : Below w.heap.size w u6 := by rw [← hu6]; exact (hbu5.setCell (by dsimp only; omega) _)
      refine rest_only (k := 6) (by kernel_rfl) (op_store (k := 6) rfl rfl (wanted_free rfl) (by have n6 := hI.at m6 (by kernel_rfl); have e6 := n6; have f6 := n6.eval; unfold At at e6; have ak0 := heap_cell h2u5 (j := 0) rfl; have af0 := heap_frozen h2u5 0; simp [go_sem, e6, ak0, af0]; try rfl) ⟨by rw [hu6]; exact ⟨hsu6, h1u6⟩, ?_⟩)
      rw [hu6]
      obtain ⟨u7, hu7⟩ : ∃ zz, u6.setCell ⟨w.heap.size + 1 + 1 + 1 + 1, 0, none⟩ (.int .i64 0) = zz := ⟨_, rfl⟩
      have h0u7 : u7.heap[w.heap.size + 1]? = some (cansB a1 m c1 b1 m d1 ((Pure.stS A X (startS k m B) len) 0)) := by rw [← hu7]; exact (setCell_other (by simp; try omega)).trans (h0u6)
      have h1u7 : u7.heap[w.heap.size + 1 + 1]? = some (.cells #[.int .i64 (Pure.bkS A X (startS k m B) len)] 3) := by rw [← hu7]; exact (setCell_other (by simp; try omega)).trans (h1u6)
      have h2u7 : u7.heap[w.heap.size + 1 + 1 + 1]? = some (.cells #[.int .i64 0] 3) := by rw [← hu7]; exact (setCell_other (by simp; try omega)).trans (h2u6)
      have h3u7 : u7.heap[w.heap.size + 1 + 1 + 1 + 1]? = some (.cells #[.int .i64 0] 30) := by rw [← hu7]; exact heap_set h3u6 0 _
      have hsu7 : u7.heap[W3.heap.size]? = some (insB (Pure.stS A X (startS k m B) len)) := by rw [← hu7]; exact (setCell_other (by simp; try omega)).trans (hsu6)
      have hku7 : u7.heap[D]? = some (.deferred (some [])) := by rw [← hu7]; exact (setCell_other (by simp; try omega)).trans (hku6)
      have ho1u7 : OwnNums u7 wz.heap.size 3 1 a1 m c1 A := by rw [← hu7]; exact (ho1u6.set (by dsimp only; omega) _)
      have ho2u7 : OwnNums u7 wz.heap.size 3 1 b1 m d1 (fun q => (Pure.stS A X (startS k m B) len) (q + 1)) := by rw [← hu7]; exact (ho2u6.set (by dsimp only; omega) _)
      have hbu7 : Below w.heap.size w u7 := by rw [← hu7]; exact (hbu6.setCell (by dsimp only; omega) _)
      refine rest_only (k := 7) (by kernel_rfl) (op_store (k := 7) rfl rfl (wanted_free rfl) (by have n7 := hI.at m7 (by kernel_rfl); have e7 := n7; have f7 := n7.eval; unfold At at e7; have ak0 := heap_cell h3u6 (j := 0) rfl; have af0 := heap_frozen h3u6 0; simp [go_sem, e7, ak0, af0]; try rfl) ⟨by rw [hu7]; exact ⟨hsu7, h1u7⟩, ?_⟩)
      rw [hu7]
      refine rest_done (by kernel_rfl) ?_
      exact ⟨rfl, hI, a1, c1, b1, d1, h0u7, h1u7, h2u7, h3u7, ho1u7.base (by omega), ho2u7.base (by omega), hap, hbu7, hku7⟩
      case cont =>
        rintro e a' w' ⟨rfl, hkp, a1, c1, b1, d1, g0, g1, g2, g3, ho1, ho2, hap, hbl, hk'⟩
        have e4 := hkp.at m4 (by kernel_rfl)
        have e5 := hkp.at m5 (by kernel_rfl)
        have e6 := hkp.at m6 (by kernel_rfl)
        have e7 := hkp.at m7 (by kernel_rfl)
        have hdd := hkp.defers
        rw [← hA] at hdd
        have hDw := (Array.getElem?_eq_some_iff.1 hK).1
        have HO1 := Lib.hid ho1
        have HO2 := Lib.hid ho2
        have HAP := Lib.hid hap
        have HBL := Lib.hid hbl
        have HDW := Lib.hid hDw
        have HDD := Lib.hid hD
        have HALL := Lib.hid hall
        clear hA hkp hI m4 m5 m6 m7 m9 m10 ho1 ho2 hap hbl hDw hD hpw hs hr1 hb hr0 hr2 hr3 hwz hall hK hsz
        gi_wp2_with fail
        have hbp := below_put w' HDD.out (.deferred none)
        have hbp2 := hbp.mono (show w.heap.size ≤ W5.heap.size by have := HSZ5.out.1; omega)
        have hw5 := HSZ5.out.1
        have q0 := heap_low hbp (by omega) g0
        have q1 := heap_low hbp (by omega) g1
        have q2 := heap_low hbp (by omega) g2
        have q3 := heap_low hbp (by omega) g3
        have r0 := heap_cell q0 (j := 0) rfl
        have r1 := heap_cell q0 (j := 1) rfl
        have r2 := heap_cell q0 (j := 2) rfl
        have r3 := heap_cell q1 (j := 0) rfl
        have r4 := heap_cell q2 (j := 0) rfl
        have r5 := heap_cell q3 (j := 0) rfl
        unfold At at e4 e5 e6 e7
        show LeavesInM _ _ _ _ a'.tmps _ a'.defers _ _
        rw [hdd]
        refine ⟨by simp, .inl ⟨_, _, rfl, run_takeDeferred hk', ?_⟩⟩
        refine ⟨.tuple #[cansV a1 m c1 b1 m d1 ((Pure.stS A X (startS k m B) len) 0), .int .i64 (Pure.bkS A X (startS k m B) len), .int .i64 0, .int .i64 0], ?_, ?_⟩
        · simp [results, Try.f8, go_sem, Array.getD_eq_getD_getElem?, e4, e5, e6, e7, r0, r1, r2, r3, r4, r5]
        · have k1 := fun (u : Addr) (hu : W.heap.size ≤ u.block) => (World.putObj_heap_other (w := w') (o := .deferred none) (show u.block ≠ D by have := HDW.out; omega))
          exact ⟨a1, m, c1, b1, m, d1, _, _, _, _, A, _, rfl, (HO1.out.kept (fun u hu => k1 u (HO1.out.lt u hu).1)).base (by have := HDW.out; have := HDD.out; omega), (HO2.out.kept (fun u hu => k1 u (HO2.out.lt u hu).1)).base (by have := HDW.out; have := HDD.out; omega), HAP.out,
            .inr (.inr ⟨HC.out, HALL.out, rfl, rfl, fun _ _ => rfl, fun _ _ => rfl, rfl, rfl, rfl, rfl⟩), HBL.out.trans hbp2⟩
    case stop =>
      rintro D c' pre W hD hSp ⟨ini, x, hpre, hX⟩ hK
      obtain rfl := hX.ret
      have HBD := Lib.hid (Pure.came_bad hSp hpre hX.ne)
      have HXX := Lib.hid hX
      have HD := Lib.hid hD
      clear hSp hpre hX hD
      gi_wp2
      refine ⟨by simp, .inl ⟨_, _, rfl, run_takeDeferred hK, ?_⟩⟩
      have hbp := below_put W HD.out (.deferred none)
      have hw5 := HSZ5.out.1
      have q0 := heap_low hbp (by omega) HXX.out.r0
      have q1 := heap_low hbp (by omega) HXX.out.r1
      have q2 := heap_low hbp (by omega) HXX.out.r2
      have q3 := heap_low hbp (by omega) HXX.out.r3
      have r0 := heap_cell (v := .slice none 0 0) q0 (j := 0) rfl
      have r1 := heap_cell (v := .slice none 0 0) q0 (j := 1) rfl
      have r2 := heap_cell (v := .int .i64 0) q0 (j := 2) rfl
      have r3 := heap_cell (v := .int .i64 0) q1 (j := 0) rfl
      have r4 := heap_cell (v := .int .i64 (ini.length : Int)) q2 (j := 0) rfl
      have r5 := heap_cell (v := .int .i64 x.e) q3 (j := 0) rfl
      refine ⟨.tuple #[cansV none 0 0 none 0 0 0, .int .i64 0, .int .i64 (ini.length : Int), .int .i64 x.e], ?_, ?_⟩
      · simp [results, Try.f8, go_sem, r0, r1, r2, r3, r4, r5]
      · exact ⟨none, 0, 0, none, 0, 0, 0, 0, _, _, fun _ => 0, fun _ => 0, rfl, own_nil _ _ _ _ _, own_nil _ _ _ _ _, fun _ _ h => (by cases h), .inr (.inl ⟨HC.out, HBD.out, rfl, rfl, rfl, rfl⟩), HXX.out.below.trans (hbp.mono (by omega))⟩
  · have hcf : Pure.cans n A m B k = false := by simpa using hc
    rw [hcf]
    have he : Pure.err false 80 = 80 := rfl
    rw [he]
    have HC := Lib.hid hcf
    have c9 := heap_frozen HR01.out 0
    have c8 := heap_frozen HR01.out 1
    have c7 := heap_frozen HR01.out 2
    have d9 := heap_frozen HR11.out 0
    have e9 := heap_frozen HR21.out 0
    have f9 := heap_frozen HR31.out 0
    have c0 := heap_cell HR01.out (v := .slice none 0 0) (j := 0) rfl
    have c1 := heap_cell HR01.out (v := .slice none 0 0) (j := 1) rfl
    have c2 := heap_cell HR01.out (v := .int .i64 0) (j := 2) rfl
    have d0 := heap_cell HR11.out (v := .int .i64 0) (j := 0) rfl
    have e0 := heap_cell HR21.out (v := .int .i64 0) (j := 0) rfl
    have f0 := heap_cell HR31.out (v := .int .i64 0) (j := 0) rfl
    clear hc hcf he
    obtain ⟨Z, hZ⟩ : ∃ Z, (((((W1.setCell ⟨w.heap.size + 1, 0, none⟩ (.slice none 0 0)).setCell ⟨w.heap.size + 1, 1, none⟩ (.slice none 0 0)).setCell ⟨w.heap.size + 1, 2, none⟩ (.int .i64 0)).setCell ⟨w.heap.size + 1 + 1, 0, none⟩ (.int .i64 0)).setCell ⟨w.heap.size + 1 + 1 + 1, 0, none⟩ (.int .i64 0)).setCell ⟨w.heap.size + 1 + 1 + 1 + 1, 0, none⟩ (.int .i64 80) = Z := ⟨_, rfl⟩
    have q0 : Z.heap[w.heap.size + 1]? = some (cansB none 0 0 none 0 0 0) := by rw [← hZ]; exact (setCell_other (by simp; try omega)).trans ((setCell_other (by simp; try omega)).trans ((setCell_other (by simp; try omega)).trans (heap_set (heap_set (heap_set HR01.out 0 _) 1 _) 2 _)))
    have q1 : Z.heap[w.heap.size + 1 + 1]? = some (.cells #[.int .i64 0] 3) := by rw [← hZ]; exact (setCell_other (by simp; try omega)).trans ((setCell_other (by simp; try omega)).trans (heap_set ((setCell_other (by simp; try omega)).trans ((setCell_other (by simp; try omega)).trans ((setCell_other (by simp; try omega)).trans (HR11.out)))) 0 _))
    have q2 : Z.heap[w.heap.size + 1 + 1 + 1]? = some (.cells #[.int .i64 0] 3) := by rw [← hZ]; exact (setCell_other (by simp; try omega)).trans (heap_set ((setCell_other (by simp; try omega)).trans ((setCell_other (by simp; try omega)).trans ((setCell_other (by simp; try omega)).trans ((setCell_other (by simp; try omega)).trans (HR21.out))))) 0 _)
    have q3 : Z.heap[w.heap.size + 1 + 1 + 1 + 1]? = some (.cells #[.int .i64 80] 30) := by rw [← hZ]; exact heap_set ((setCell_other (by simp; try omega)).trans ((setCell_other (by simp; try omega)).trans ((setCell_other (by simp; try omega)).trans ((setCell_other (by simp; try omega)).trans ((setCell_other (by simp; try omega)).trans (HR31.out)))))) 0 _
    have hbz : Below w.heap.size w Z := by rw [← hZ]; exact (((((HB1.out.setCell (by dsimp only; omega) _).setCell (by dsimp only; omega) _).setCell (by dsimp only; omega) _).setCell (by dsimp only; omega) _).setCell (by dsimp only; omega) _).setCell (by dsimp only; omega) _
    have r0 := heap_cell (v := .slice none 0 0) q0 (j := 0) rfl
    have r1 := heap_cell (v := .slice none 0 0) q0 (j := 1) rfl
    have r2 := heap_cell (v := .int .i64 0) q0 (j := 2) rfl
    have r3 := heap_cell (v := .int .i64 0) q1 (j := 0) rfl
    have r4 := heap_cell (v := .int .i64 0) q2 (j := 0) rfl
    have r5 := heap_cell (v := .int .i64 80) q3 (j := 0) rfl
    have HBZ := Lib.hid hbz
    clear q0 q1 q2 q3 hbz
    gi_wp2_with fail
    try rw [hZ]
    refine ⟨.tuple #[cansV none 0 0 none 0 0 0, .int .i64 0, .int .i64 0, .int .i64 80], ?_, ?_⟩
    · simp [results, Try.f8, go_sem, r0, r1, r2, r3, r4, r5]
    · exact ⟨none, 0, 0, none, 0, 0, 0, 0, 0, _, fun _ => 0, fun _ => 0, rfl, own_nil _ _ _ _ _, own_nil _ _ _ _ _, fun _ _ h => (by cases h), .inl ⟨HC.out, rfl, rfl, rfl, rfl, rfl, rfl⟩, HBZ.out⟩
end Go.Proofs.Ytjemcmehgkhhlaa
