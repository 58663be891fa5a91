/-
  The contract of the specification's without.
-/
import Derived.Test.YtijfdfplebbaaaaGreatUTwin
namespace Go.Proofs.YtijfdfplebbaaaaGreat
open Go.RowKit

theorem OwnVals.neq {w : World} {base : Nat} {t : TypeId} {k : Nat} {a : Option Addr} {len cap : Nat} {F : Nat → Value} (h : OwnVals w base t k a len cap F) {i : Nat} {arr : Array Value} {t' : TypeId} (hi : w.heap[i]? = some (.cells arr t')) (ht : t ≠ t') (j : Nat) (v : Value) : OwnVals (w.setCell ⟨i, j, none⟩ v) base t k a len cap F :=
  h.kept fun y hy => setCell_other (h.ne hi ht y hy)
theorem OwnNums.neq {w : World} {base : Nat} {t : TypeId} {k : Nat} {a : Option Addr} {len cap : Nat} {F : Nat → Int} (h : OwnNums w base t k a len cap F) {i : Nat} {arr : Array Value} {t' : TypeId} (hi : w.heap[i]? = some (.cells arr t')) (ht : t ≠ t') (j : Nat) (v : Value) : OwnNums (w.setCell ⟨i, j, none⟩ v) base t k a len cap F :=
  h.kept fun y hy => setCell_other (h.ne hi ht y hy)
/-- A write into a box of a roll. -/
theorem OwnRoll.boxed {w : World} {base : Nat} {r : RollX} {d : RollD} (h : OwnRoll w base r d) {i : Nat} {arr : Array Value} (hi : w.heap[i]? = some (.cells arr 30)) (j : Nat) (v : Value) : OwnRoll (w.setCell ⟨i, j, none⟩ v) base r d :=
  ⟨h.p.neq hi (by decide) j v, h.g.neq hi (by decide) j v, h.m.neq hi (by decide) j v, h.s.neq hi (by decide) j v, h.n.neq hi (by decide) j v⟩
theorem OwnRoll.notes {w w' : World} {base : Nat} {r : RollX} {d : RollD} (h : OwnRoll w base r d) (hal : Alone r.na w w') {a : Option Addr} {n c : Nat} {N : Nat → NoteX} (hn : OwnVals w' base 34 7 a n c (noteF N)) :
    OwnRoll w' base ⟨r.pa, r.pn, r.pc, r.wa, r.wn, r.wc, r.ma, r.mn, r.mc, r.sa, r.sn, r.sc, a, n, c⟩ { d with N := N } :=
  ⟨nums_moved h.p h.n.cells (by decide) hal, nums_moved h.g h.n.cells (by decide) hal, nums_moved h.m h.n.cells (by decide) hal, nums_moved h.s h.n.cells (by decide) hal, hn⟩
theorem Pure.has_succ (k : Nat) (L : Nat → Int) (x : Int) : Pure.has (k + 1) L x = (Pure.has k L x || L k == x) := by simp [Pure.has, List.range_succ]
theorem Pure.keepX_app (q : Nat → Bool) (N : Nat → NoteX) (k : Nat) (h : q k = false) (i : Nat) (hi : i < (keepN q k + 1) * 7) : joinV (noteF (keepX q N k)) (keepN q k * 7) (noteF fun _ => N k) i = noteF (keepX q N (k + 1)) i := by
  rw [noteF_split (keepX q N (k + 1))]
  unfold joinV
  by_cases h1 : i < keepN q k * 7
  · rw [if_pos h1, noteF_split, keepX_old q N k (i / 7) (by omega)]
  · have h2 : i / 7 = keepN q k := by omega
    have h3 : keepX q N (k + 1) (keepN q k) = N k := by simp [keepX, h]
    rw [if_neg h1, noteF_split, h2, h3]
    congr 1
    omega

set_option maxHeartbeats 16000000 in
set_option maxRecDepth 100000 in
/-- **without**, the specification's. -/
theorem rWithout_any (r : RollX) (d : RollD) (la : Option Addr) (ln lc : Nat) (L : Nat → Int) (hN : RollN r) (hnil : RollNone r) (hl : ln ≤ 60) (w : World) (hR : RollAt w r d) (hL : NumsAt w la ln L) :
    Calls Tryz.prog 25 #[rollV r, .slice la ln lc] w fun e w' => ∃ r', e = .returned (rollV r') ∧ OwnRoll w' w.heap.size r' (Pure.struckD r d ln L) ∧ r'.pn = r.pn ∧ r'.wn = r.wn ∧ r'.mn = r.mn ∧ r'.sn = r.sn ∧ r'.nn = Pure.keepN (fun j => Pure.has ln L (d.N j).n) r.nn ∧ Below w.heap.size w w' := by
  obtain ⟨W, hW⟩ : ∃ W, (w.alloc (rollB r)).alloc ZB = W := ⟨_, rfl⟩
  have HB : Hid (Below w.heap.size w W) := Lib.hid (by rw [← hW]; exact (below_new _ _).alloc (by simp) _)
  have HX : Hid (W.heap[w.heap.size]? = some (rollB r)) := Lib.hid (by rw [← hW]; exact heap_up (heap_top _ _ rfl) _)
  have HZ : Hid (W.heap[w.heap.size + 1]? = some ZB) := Lib.hid (by rw [← hW]; exact heap_top _ _ (by simp))
  have HSZ : Hid (W.heap.size = w.heap.size + 2) := Lib.hid (by rw [← hW]; simp)
  have HR := Lib.hid (hR.below HB.out)
  have HL := Lib.hid (hL.below HB.out)
  have HNB := Lib.hid hN.n
  obtain ⟨q, hq⟩ : ∃ q : Nat → Bool, (fun j => Pure.has ln L (d.N j).n) = q := ⟨_, rfl⟩
  have HQ := Lib.hid hq
  clear hR hL
  have x0 := heap_cell HX.out (j := 0) rfl
  have x1 := heap_cell HX.out (j := 1) rfl
  have x2 := heap_cell HX.out (j := 2) rfl
  have x3 := heap_cell HX.out (j := 3) rfl
  have x4 := heap_cell HX.out (j := 4) rfl
  rw [hq]
  clear hq
  go_enter Tryz.func25, Tryz.ntmps25
  go_upto_region 1 with fail
  try rw [hW]
  clear hW
  go_wp2_with fail
  refine (rTwin_any r d hN hnil _ HR.out).mono ?_
  rintro e u ⟨r1, rfl, ho, e1, e2, e3, e4, e5, hb⟩
  have HE := Lib.hid (And.intro e1 (And.intro e2 (And.intro e3 (And.intro e4 e5))))
  obtain ⟨U, hU⟩ : ∃ U, u.alloc (rollB r1) = U := ⟨_, rfl⟩
  have hbu : Below u.heap.size u U := by rw [← hU]; exact below_new _ _
  have H5 : Hid (U.heap[u.heap.size]? = some (rollB r1)) := Lib.hid (by rw [← hU]; exact heap_top _ _ rfl)
  have HUS : Hid (W.heap.size ≤ u.heap.size ∧ u.heap.size < U.heap.size) := Lib.hid ⟨hb.size, by rw [← hU]; simp⟩
  have HO := Lib.hid (ho.below hbu)
  have hbw := below_thn hb hbu
  have HBW := Lib.hid hbw
  have HX1 := Lib.hid (heap_lft HX.out hbw)
  have HZ1 := Lib.hid (heap_lft HZ.out hbw)
  clear ho hb hbu hbw e1 e2 e3 e4 e5 x0 x1 x2 x3 x4
  go_upto_region 2 with fail
  try rw [hU]
  clear hU
  have f4 := heap_frozen H5.out 4
  have s4 := heap_cell H5.out (j := 4) rfl
  obtain ⟨V, hV⟩ : ∃ V, U.setCell ⟨u.heap.size, 4, none⟩ (.slice none 0 0) = V := ⟨_, rfl⟩
  have H5V : Hid (V.heap[u.heap.size]? = some (rollB ⟨r1.pa, r1.pn, r1.pc, r1.wa, r1.wn, r1.wc, r1.ma, r1.mn, r1.mc, r1.sa, r1.sn, r1.sc, none, 0, 0⟩)) := Lib.hid (by rw [← hV]; exact heap_set H5.out 4 _)
  have HOV : Hid (OwnRoll V W.heap.size ⟨r1.pa, r1.pn, r1.pc, r1.wa, r1.wn, r1.wc, r1.ma, r1.mn, r1.mc, r1.sa, r1.sn, r1.sc, none, 0, 0⟩ { d with N := Pure.keepX q d.N 0 }) := Lib.hid (by
    rw [← hV]
    have g := HO.out.boxed H5.out 4 (.slice none 0 0)
    exact ⟨g.p, g.g, g.m, g.s, ownv_nil _ _ _ _ _⟩)
  have HBV : Hid (Below W.heap.size W V) := Lib.hid (by rw [← hV]; exact HBW.out.setCell HUS.out.1 _)
  have HVS : Hid (u.heap.size < V.heap.size) := Lib.hid (by rw [← hV]; simpa using HUS.out.2)
  go_upto_region 3 with fail
  try rw [hV]
  clear hV f4 s4
  have HX2 := Lib.hid (heap_lft HX.out HBV.out)
  have x4 := heap_cell HX2.out (j := 4) rfl
  go_wp2_with fail
  clear x4
  go_loopw [7, 8, 10, 17] (fun _ _ _ i wr => ∃ (k : Nat) (na : Option Addr) (nc : Nat), k ≤ r.nn ∧ i = .int .i64 k ∧ wr.heap[u.heap.size]? = some (rollB ⟨r1.pa, r1.pn, r1.pc, r1.wa, r1.wn, r1.wc, r1.ma, r1.mn, r1.mc, r1.sa, r1.sn, r1.sc, na, Pure.keepN q k, nc⟩) ∧ OwnRoll wr W.heap.size ⟨r1.pa, r1.pn, r1.pc, r1.wa, r1.wn, r1.wc, r1.ma, r1.mn, r1.mc, r1.sa, r1.sn, r1.sc, na, Pure.keepN q k, nc⟩ { d with N := Pure.keepX q d.N k } ∧ Below W.heap.size W wr) (fun _ _ _ i _ => r.nn - (intOf i).toNat)
  case atStart => exact ⟨0, none, 0, Nat.zero_le _, rfl, H5V.out, HOV.out, HBV.out⟩
  case round =>
    obtain ⟨k, na, nc, hk, rfl, h5, hov, hbw⟩ := hrel
    have H5K := Lib.hid h5
    have HOK := Lib.hid hov
    have HBK := Lib.hid hbw
    have hnb := HNB.out
    clear h5 hov hbw
    by_cases hk1 : k < r.nn
    · obtain ⟨b, off, hma, ⟨c0, c1, c2, c3, c4, c5, c6⟩⟩ := (HR.out.below HBK.out).n k hk1
      have hk2 : (k : Int) < r.nn := by omega
      rw [hma]
      clear hma
      obtain ⟨Y, hY⟩ : ∃ Y, wr.alloc (tnoteB (d.N k)) = Y := ⟨_, rfl⟩
      have hby : Below wr.heap.size wr Y := by rw [← hY]; exact below_new _ _
      have HTY : Hid (Y.heap[wr.heap.size]? = some (tnoteB (d.N k))) := Lib.hid (by rw [← hY]; exact heap_top _ _ rfl)
      have H5Y := Lib.hid (heap_lft H5K.out hby)
      have HOY := Lib.hid (HOK.out.below hby)
      have HBY := Lib.hid (below_thn HBK.out hby)
      have HLY := Lib.hid (HL.out.below HBY.out)
      go_upto_region 6 with fail
      try rw [hY]
      clear hY hby c0 c1 c2 c3 c4 c5 c6
      go_wp2_with fail
      obtain ⟨wo, rfl⟩ : ∃ x, x = Y := ⟨_, rfl⟩
      go_loopw [8, 10, 23] (fun sb _ i wr2 => ∃ j : Nat, j ≤ ln ∧ i = .int .i64 j ∧ sb = .bool (Pure.has j L (d.N k).n) ∧ wr2 = wo) (fun _ _ i _ => ln - (intOf i).toNat)
      case atStart => exact ⟨0, Nat.zero_le _, rfl, rfl, rfl⟩
      case round =>
        obtain ⟨j, hj, rfl, rfl, hw⟩ := hrel
        obtain ⟨wp, rfl⟩ : ∃ x, x = wr := ⟨_, rfl⟩
        subst hw
        by_cases hj1 : j < ln
        · obtain ⟨b2, off2, hla, g0⟩ := HLY.out j hj1
          have hj2 : (j : Int) < ln := by omega
          rw [hla]
          clear hla
          obtain ⟨hv, hhv⟩ : ∃ b, Pure.has j L (d.N k).n = b := ⟨_, rfl⟩
          rw [hhv]
          have HHV := Lib.hid hhv
          clear hhv
          have t0 := heap_cell HTY.out (j := 0) rfl
          cases hv
          · go_wp2_with fail
            go_roundw
            case rel => exact ⟨j + 1, by omega, by go_num, by rw [Pure.has_succ, HHV.out]; simp, trivial⟩
            case measure => simp [intOf]; omega
          · go_wp2_with fail
            go_roundw
            case rel => exact ⟨j + 1, by omega, by go_num, by rw [Pure.has_succ, HHV.out]; rfl, trivial⟩
            case measure => simp [intOf]; omega
        · obtain rfl : j = ln := by omega
          obtain ⟨qk, hqk⟩ : ∃ b, Pure.has j L (d.N k).n = b := ⟨_, rfl⟩
          rw [hqk]
          have HQK : Hid (q k = qk) := Lib.hid (by rw [← HQ.out]; exact hqk)
          clear hqk
          have hj2 : ¬ (j : Int) < j := by omega
          cases qk
          · have hkn : Pure.keepN q (k + 1) = Pure.keepN q k + 1 := by simp [Pure.keepN, HQK.out]
            have hkl := Pure.keepN_le q k
            have hy2 := below_new wp (tnoteB (d.N k))
            have H52 := Lib.hid (heap_lft H5Y.out hy2)
            have HO2 := Lib.hid (HOY.out.below hy2)
            have HB2 := Lib.hid (below_thn HBY.out hy2)
            obtain ⟨i0, hi, hz0, hz1, hz2⟩ := infoTNote
            obtain ⟨a', c', w2, hr, ho, hal, hbe, _⟩ := app_vals (wp.alloc (tnoteB (d.N k))) W.heap.size 34 28 28 7 56 i0 _ Tryz.underlying28 hi hz0 hz1 hz2 rfl (by decide) (by decide) HO2.out.n (some ⟨wp.heap.size, 0, none⟩) 1 1 (noteF fun _ => d.N k) (noteF_one _) (note_one (heap_top wp (tnoteB (d.N k)) rfl)).vals (fun e => by cases e) (by dsimp only; omega) (by omega) HB2.out.size
            have HRR := Lib.hid hr
            have ho2 := ho.congr (G := noteF (Pure.keepX q d.N (k + 1))) (fun i hi => Pure.keepX_app q d.N k HQK.out i hi)
            have H53 : Hid (w2.heap[u.heap.size]? = some (rollB ⟨r1.pa, r1.pn, r1.pc, r1.wa, r1.wn, r1.wc, r1.ma, r1.mn, r1.mc, r1.sa, r1.sn, r1.sc, na, Pure.keepN q k, nc⟩)) := Lib.hid ((hal _ (Array.getElem?_eq_some_iff.1 H52.out).1 (fun x hx e => HO2.out.n.ne H52.out (by decide) x hx e.symm)).trans H52.out)
            have HO3 := Lib.hid (HO2.out.notes hal ho2)
            have HB3 := Lib.hid (HB2.out.trans hbe)
            have HKN := Lib.hid hkn
            clear hkn hy2 hi hz0 hz1 hz2 hr ho hal hbe ho2
            have s4 := heap_cell H5Y.out (j := 4) rfl
            have t0 := heap_cell HTY.out (j := 0) rfl
            have t1 := heap_cell HTY.out (j := 1) rfl
            have t2 := heap_cell HTY.out (j := 2) rfl
            have t3 := heap_cell HTY.out (j := 3) rfl
            have t4 := heap_cell HTY.out (j := 4) rfl
            have t5 := heap_cell HTY.out (j := 5) rfl
            have t6 := heap_cell HTY.out (j := 6) rfl
            have z4 := heap_cell H53.out (j := 4) rfl
            have f4 := heap_frozen H53.out 4
            go_wp2_with (at_builtin; refine Lib.wpList_append_run _ rfl _ _ _ _ rfl _ _ rfl rfl _ _ HRR.out ?_)
            go_roundw
            case rel => exact ⟨k + 1, a', c', by omega, by go_num, by rw [HKN.out]; exact heap_set H53.out 4 _, by rw [HKN.out]; exact HO3.out.boxed H53.out 4 _, HB3.out.setCell HUS.out.1 _⟩
            case measure => simp [intOf]; omega
          · have hkn : Pure.keepN q (k + 1) = Pure.keepN q k := by simp [Pure.keepN, HQK.out]
            have hkx : Pure.keepX q d.N (k + 1) = Pure.keepX q d.N k := by simp [Pure.keepX, HQK.out]
            have HKN := Lib.hid (And.intro hkn hkx)
            clear hkn hkx
            go_wp2_with fail
            go_roundw
            case rel => exact ⟨k + 1, na, nc, by omega, by go_num, by rw [HKN.out.1]; exact H5Y.out, by rw [HKN.out.1, HKN.out.2]; exact HOY.out, HBY.out⟩
            case measure => simp [intOf]; omega
    · obtain rfl : k = r.nn := by omega
      have HZK : Hid (wr.heap[w.heap.size + 1]? = some ZB) := Lib.hid ((HBK.out.block _ (by have := HSZ.out; omega)).trans HZ.out)
      have HBF := Lib.hid (below_thn HB.out HBK.out)
      have s0 := heap_cell H5K.out (j := 0) rfl
      have s1 := heap_cell H5K.out (j := 1) rfl
      have s2 := heap_cell H5K.out (j := 2) rfl
      have s3 := heap_cell H5K.out (j := 3) rfl
      have s4 := heap_cell H5K.out (j := 4) rfl
      have z0 := heap_cell HZK.out (j := 0) rfl
      have fz0 := heap_frozen HZK.out 0
      have z1 := heap_cell HZK.out (j := 1) rfl
      have fz1 := heap_frozen HZK.out 1
      have z2 := heap_cell HZK.out (j := 2) rfl
      have fz2 := heap_frozen HZK.out 2
      have z3 := heap_cell HZK.out (j := 3) rfl
      have fz3 := heap_frozen HZK.out 3
      have z4 := heap_cell HZK.out (j := 4) rfl
      have fz4 := heap_frozen HZK.out 4
      go_wp2_with fail
      refine bodyPost_ret (v := rollV ⟨r1.pa, r1.pn, r1.pc, r1.wa, r1.wn, r1.wc, r1.ma, r1.mn, r1.mc, r1.sa, r1.sn, r1.sc, na, Pure.keepN q r.nn, nc⟩) (by simp [results, Tryz.results25, go_sem, z0, z1, z2, z3, z4]; try rfl) rfl ⟨_, rfl, ?_, HE.out.1, HE.out.2.1, HE.out.2.2.1, HE.out.2.2.2.1, rfl, ?_⟩
      · have h2 := HSZ.out
        unfold Pure.struckD
        rw [HQ.out]
        refine OwnRoll.base (base := W.heap.size) ?_ (by omega)
        repeat (first | with_reducible exact HOK.out | with_reducible refine OwnRoll.set ?_ (by dsimp only; omega) _)
      · repeat (first | with_reducible exact HBF.out | with_reducible refine Below.setCell ?_ (by dsimp only; omega) _)

end Go.Proofs.YtijfdfplebbaaaaGreat
