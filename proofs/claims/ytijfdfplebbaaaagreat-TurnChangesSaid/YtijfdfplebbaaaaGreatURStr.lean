/-
  The contract of the specification's Strike.
-/
import Derived.Test.YtijfdfplebbaaaaGreatURWith
namespace Go.Proofs.YtijfdfplebbaaaaGreat
open Go.RowKit

namespace Pure
/-- What the specification asks of a number to be struck. -/
def strJ (r : RollX) (d : RollD) (L : Nat → Int) (j : Nat) : Bool := !noNote r d (L j) && (decide (j = 0) || decide (L (j - 1) < L j))
theorem nums_strJ (r : RollX) (d : RollD) (ln : Nat) (L : Nat → Int) : numsOk r d ln L = true ↔ ∀ j, j < ln → strJ r d L j = true := by
  unfold numsOk inOrder strJ
  simp only [Bool.and_eq_true, Bool.not_eq_true', List.any_eq_false, List.mem_range, Bool.not_eq_true, decide_eq_true_eq, Bool.or_eq_true]
  constructor
  · rintro ⟨h1, h2⟩ j hj
    refine ⟨h2 j hj, ?_⟩
    by_cases e : j = 0
    · exact .inl e
    · have := h1 (j - 1) (by omega)
      rw [show j - 1 + 1 = j by omega] at this
      exact .inr this
  · intro h
    refine ⟨fun j hj => ?_, fun j hj => (h j hj).1⟩
    have := (h (j + 1) (by omega)).2
    rw [show j + 1 - 1 = j by omega] at this
    rcases this with g | g
    · omega
    · exact g
theorem strJ_no {r : RollX} {d : RollD} {ln : Nat} {L : Nat → Int} {j : Nat} (hj : j < ln) (h : strJ r d L j = false) : numsOk r d ln L = false := by
  cases e : numsOk r d ln L with
  | false => rfl
  | true => rw [(nums_strJ r d ln L).1 e j hj] at h; cases h
end Pure

set_option maxHeartbeats 16000000 in
set_option maxRecDepth 100000 in
/-- **Strike**, the specification's. -/
theorem rStrike_any (r : RollX) (d : RollD) (la : Option Addr) (ln lc : Nat) (L : Nat → Int) (hN : RollN r) (hnil : RollNone r) (hl : ln ≤ 60) (w : World) (hR : RollAt w r d) (hL : NumsAt w la ln L) :
    Calls Tryz.prog 9 #[rollV r, .slice la ln lc] w fun e w' => ∃ r', e = .returned (.tuple #[rollV r', .int .i64 (Pure.strC r d ln L)]) ∧ RollOut w' w.heap.size (decide (Pure.strC r d ln L = 0)) r.pn r.wn r.mn r.sn (Pure.keepN (fun j => Pure.has ln L (d.N j).n) r.nn) (Pure.struckD r d ln L) r' ∧ Below w.heap.size w w' := by
  obtain ⟨W, hW⟩ : ∃ W, (w.alloc (rollB r)).alloc ZB = W := ⟨_, rfl⟩
  have HB : Hid (Below w.heap.size w W) := Lib.hid (by rw [← hW]; exact (below_new _ _).alloc (by simp) _)
  have HX : Hid (W.heap[w.heap.size]? = some (rollB r)) := Lib.hid (by rw [← hW]; exact heap_up (heap_top _ _ rfl) _)
  have HZ : Hid (W.heap[w.heap.size + 1]? = some ZB) := Lib.hid (by rw [← hW]; exact heap_top _ _ (by simp))
  have HSZ : Hid (W.heap.size = w.heap.size + 2) := Lib.hid (by rw [← hW]; simp)
  have HR := Lib.hid (hR.below HB.out)
  have HL := Lib.hid (hL.below HB.out)
  have HNB := Lib.hid hN.n
  have HLN := Lib.hid hl
  clear hR hL
  obtain ⟨c, hc⟩ : ∃ c, Pure.strC r d ln L = c := ⟨_, rfl⟩
  have HC := Lib.hid hc
  rw [hc]
  clear hc
  obtain ⟨ce, hce⟩ : ∃ c, Pure.checkE r d = c := ⟨_, rfl⟩
  have HCE := Lib.hid hce
  have x0 := heap_cell HX.out (j := 0) rfl
  have x1 := heap_cell HX.out (j := 1) rfl
  have x2 := heap_cell HX.out (j := 2) rfl
  have x3 := heap_cell HX.out (j := 3) rfl
  have x4 := heap_cell HX.out (j := 4) rfl
  go_enter Tryz.func9, Tryz.ntmps9
  go_upto_region 1 with fail
  try rw [hW]
  clear hW
  go_wp2_with fail
  refine (rCheck_any r d hN _ HR.out).mono ?_
  rintro e U ⟨rfl, hb⟩
  rw [hce]
  have HX1 := Lib.hid (heap_lft HX.out hb)
  have HZ1 := Lib.hid (heap_lft HZ.out hb)
  have HB1 := Lib.hid (below_thn HB.out hb)
  have HR1 := Lib.hid (HR.out.below hb)
  have HL1 := Lib.hid (HL.out.below hb)
  have HS1 : Hid (w.heap.size + 2 ≤ U.heap.size) := Lib.hid (by have := hb.size; have := HSZ.out; omega)
  clear hb hce x0 x1 x2 x3 x4 HX HZ HB HR HL HSZ
  by_cases h0 : ce = 0
  · subst h0
    go_wp2_with fail
    go_loopw [7, 8, 10] (fun i _ _ wr => ∃ k : Nat, k ≤ ln ∧ i = .int .i64 k ∧ (∀ j, j < k → Pure.strJ r d L j = true) ∧ Below U.heap.size U wr) (fun i _ _ _ => ln - (intOf i).toNat)
    case atStart => exact ⟨0, Nat.zero_le _, rfl, fun j hj => by omega, Below.refl _ _⟩
    case round =>
      obtain ⟨k, hk, rfl, hq, hb⟩ := hrel
      have HQ := Lib.hid hq
      have HBK := Lib.hid hb
      have HXK := Lib.hid (heap_lft HX1.out hb)
      clear hq hb
      have hlb := HLN.out
      by_cases hk1 : k < ln
      · have hk2 : (k : Int) < ln := by omega
        have x4 := heap_cell HXK.out (j := 4) rfl
        obtain ⟨b, off, hla, _⟩ := HL1.out k hk1
        go_upto_region 9 with fail
        obtain ⟨wo, rfl⟩ : ∃ x, x = wr := ⟨_, rfl⟩
        have hnb := HNB.out
        clear x4
        go_loopw [8, 10, 26] (fun sb _ i wr2 => ∃ j : Nat, j ≤ r.nn ∧ i = .int .i64 j ∧ sb = .bool ((List.range j).any fun t => (d.N t).n == L k) ∧ Below wo.heap.size wo wr2) (fun _ _ i _ => r.nn - (intOf i).toNat)
        case atStart => exact ⟨0, Nat.zero_le _, rfl, rfl, Below.refl _ _⟩
        case round =>
          obtain ⟨j, hj, rfl, rfl, hb⟩ := hrel
          have HBJ := Lib.hid hb
          clear hb
          by_cases hj1 : j < r.nn
          · have HBX := Lib.hid (below_thn HBK.out HBJ.out)
            obtain ⟨b2, off2, hna, ⟨c0, c1, c2, c3, c4, c5, c6⟩⟩ := (HR1.out.below HBX.out).n j hj1
            have hlk : wr.cell? ⟨b, off + k, none⟩ = some (.int .i64 (L k)) := by
              have h1 := HL1.out.below HBX.out
              rw [hla] at h1
              exact h1.at hk1
            have hj2 : (j : Int) < r.nn := by omega
            rw [hna, hla]
            clear hna
            obtain ⟨Y, hY⟩ : ∃ Y, wr.alloc (tnoteB (d.N j)) = Y := ⟨_, rfl⟩
            have hby : Below wr.heap.size wr Y := by rw [← hY]; exact below_new _ _
            have HTY : Hid (Y.heap[wr.heap.size]? = some (tnoteB (d.N j))) := Lib.hid (by rw [← hY]; exact heap_top _ _ rfl)
            have HBY := Lib.hid (below_thn HBJ.out hby)
            have hly := below_cell hby hlk
            go_upto_region 11 with fail
            try rw [hY]
            clear hY hby c0 c1 c2 c3 c4 c5 c6 hlk
            have t0 := heap_cell HTY.out (j := 0) rfl
            obtain ⟨hv, hhv⟩ : ∃ b, ((List.range j).any fun t => (d.N t).n == L k) = b := ⟨_, rfl⟩
            rw [hhv]
            have HHV := Lib.hid hhv
            clear hhv
            cases hv
            · have xx0 := among_below t0
              have xx1 := among_below hly
              have HSt : Hid (Below Y.heap.size Y Y.drew) := Lib.hid (Below.refl _ _).drew
              have hne : Nonempty (Among (Below Y.heap.size Y)) := ⟨⟨_, HSt.out⟩⟩
              refine wp_region_class (Below Y.heap.size Y) (by kernel_rfl) (by kernel_rfl) HSt.out ?_
              repeat (go_big_quiet_step (fail))
              refine wpQuiet_nil ?_
              intro w8 hx
              have HB8 := Lib.hid (below_thn HBY.out (among_out hx))
              clear hx hne xx0 xx1
              clear t0 hly
              go_wp2_with fail
              go_roundw
              case rel => exact ⟨j + 1, by omega, by go_num, by rw [List.range_succ, List.any_append, HHV.out]; simp, HB8.out⟩
              case measure => simp [intOf]; omega
            · have xx0 := among_below t0
              have xx1 := among_below hly
              have HSt : Hid (Below Y.heap.size Y Y.drew) := Lib.hid (Below.refl _ _).drew
              have hne : Nonempty (Among (Below Y.heap.size Y)) := ⟨⟨_, HSt.out⟩⟩
              refine wp_region_class (Below Y.heap.size Y) (by kernel_rfl) (by kernel_rfl) HSt.out ?_
              repeat (go_big_quiet_step (fail))
              refine wpQuiet_nil ?_
              intro w8 hx
              have HB8 := Lib.hid (below_thn HBY.out (among_out hx))
              clear hx hne xx0 xx1
              clear t0 hly
              go_wp2_with fail
              go_roundw
              case rel => exact ⟨j + 1, by omega, by go_num, by rw [List.range_succ, List.any_append, HHV.out]; simp, HB8.out⟩
              case measure => simp [intOf]; omega
          · obtain rfl : j = r.nn := by omega
            have HBX := Lib.hid (below_thn HBK.out HBJ.out)
            obtain ⟨kv, hkv⟩ : ∃ b, ((List.range r.nn).any fun t => (d.N t).n == L k) = b := ⟨_, rfl⟩
            rw [hkv]
            have HKV := Lib.hid hkv
            clear hkv
            have hlk : wr.cell? ⟨b, off + k, none⟩ = some (.int .i64 (L k)) := by
              have h1 := HL1.out.below HBX.out
              rw [hla] at h1
              exact h1.at hk1
            cases kv
            · go_upto_region 13 with fail
              have HC9 : Hid (c = 91) := Lib.hid (by
                rw [← HC.out]
                unfold Pure.strC
                rw [if_pos HCE.out, Pure.strJ_no hk1 (by unfold Pure.strJ Pure.noNote; rw [HKV.out]; rfl)]
                rfl)
              have xx0 := among_below hlk
              have HSt : Hid (Below wr.heap.size wr wr.drew) := Lib.hid (Below.refl _ _).drew
              have hne : Nonempty (Among (Below wr.heap.size wr)) := ⟨⟨_, HSt.out⟩⟩
              refine wp_region_class (Below wr.heap.size wr) (by kernel_rfl) (by kernel_rfl) HSt.out ?_
              repeat (go_big_quiet_step (fail))
              refine wpQuiet_nil ?_
              intro w8 hx
              have HB9 := Lib.hid (below_thn HBX.out (among_out hx))
              clear hx hne xx0
              clear hlk
              have HZ9 := Lib.hid ((HB9.out.block _ (by have := HS1.out; omega)).trans HZ1.out)
              have z0 := heap_cell HZ9.out (j := 0) rfl
              have fz0 := heap_frozen HZ9.out 0
              have z1 := heap_cell HZ9.out (j := 1) rfl
              have fz1 := heap_frozen HZ9.out 1
              have z2 := heap_cell HZ9.out (j := 2) rfl
              have fz2 := heap_frozen HZ9.out 2
              have z3 := heap_cell HZ9.out (j := 3) rfl
              have fz3 := heap_frozen HZ9.out 3
              have z4 := heap_cell HZ9.out (j := 4) rfl
              have fz4 := heap_frozen HZ9.out 4
              have HBF := Lib.hid (below_thn HB1.out HB9.out)
              go_wp2_with fail
              refine bodyPost_ret (v := .tuple #[rollV nilRoll, .int .i64 91]) (by simp [results, Tryz.results9, go_sem, z0, z1, z2, z3, z4, nilRoll]; try rfl) rfl ⟨nilRoll, by rw [HC9.out], by rw [HC9.out]; exact nil_out _ _ _ _ _ _ _ _, ?_⟩
              repeat (first | with_reducible exact HBF.out | with_reducible refine Below.setCell ?_ (by dsimp only; omega) _)
            · by_cases hk0 : k = 0
              · have q1 : decide ((0 : Int) < (k : Int)) = false := decide_eq_false (by omega)
                have q1b : decide (0 < k) = false := decide_eq_false (by omega)
                have HK0 := Lib.hid hk0
                clear hk0
                go_upto_region 13 with fail
                have xx0 := among_below hlk
                have HSt : Hid (Below wr.heap.size wr wr.drew) := Lib.hid (Below.refl _ _).drew
                have hne : Nonempty (Among (Below wr.heap.size wr)) := ⟨⟨_, HSt.out⟩⟩
                refine wp_region_class (Below wr.heap.size wr) (by kernel_rfl) (by kernel_rfl) HSt.out ?_
                repeat (go_big_quiet_step (fail))
                refine wpQuiet_nil ?_
                intro w8 hx
                have HB8 := Lib.hid (below_thn HBX.out (among_out hx))
                clear hx hne xx0
                clear hlk q1 q1b
                go_wp2_with fail
                go_roundw
                case rel => exact ⟨k + 1, by omega, by go_num, fun j hj => by
                  obtain rfl : j = k := by have := HK0.out; omega
                  unfold Pure.strJ Pure.noNote
                  rw [HKV.out, decide_eq_true HK0.out]
                  rfl, HB8.out⟩
                case measure => simp [intOf]; omega
              · obtain ⟨k9, hk9⟩ : ∃ x, k = x + 1 := ⟨k - 1, by omega⟩
                rw [hla]
                have hl9 : wr.cell? ⟨b, off + k9, none⟩ = some (.int .i64 (L k9)) := by
                  have h1 := HL1.out.below HBX.out
                  rw [hla] at h1
                  exact h1.at (by omega)
                have q1 : decide ((0 : Int) < (k : Int)) = true := decide_eq_true (by omega)
                have q1b : 0 < k := by omega
                have q2 : (k : Int) - 1 = (k9 : Int) := by omega
                have q3 : (k9 : Int) < ln := by omega
                have HK9 := Lib.hid hk9
                clear hk9 hk0
                by_cases hg : L k ≤ L k9
                · have g1 : decide (L k ≤ L k9) = true := decide_eq_true hg
                  have g2 : decide (L k9 ≥ L k) = true := decide_eq_true hg
                  have HGV := Lib.hid hg
                  clear hg
                  go_upto_region 13 with fail
                  have xx0 := among_below hlk
                  have xx1 := among_below hl9
                  have HSt : Hid (Below wr.heap.size wr wr.drew) := Lib.hid (Below.refl _ _).drew
                  have hne : Nonempty (Among (Below wr.heap.size wr)) := ⟨⟨_, HSt.out⟩⟩
                  refine wp_region_class (Below wr.heap.size wr) (by kernel_rfl) (by kernel_rfl) HSt.out ?_
                  repeat (go_big_quiet_step (fail))
                  refine wpQuiet_nil ?_
                  intro w8 hx
                  have HB8 := Lib.hid (below_thn HBX.out (among_out hx))
                  clear hx hne xx0 xx1
                  clear hlk hl9 q1 q1b q2 q3 g1 g2
                  have HB9 := HB8
                  have HC9 : Hid (c = 91) := Lib.hid (by
                    rw [← HC.out]
                    unfold Pure.strC
                    rw [if_pos HCE.out, Pure.strJ_no hk1 (by unfold Pure.strJ Pure.noNote; rw [HKV.out]; have h9 := HGV.out; have h8 := HK9.out; rw [decide_eq_false (show ¬ k = 0 by omega), show k - 1 = k9 by omega, decide_eq_false (show ¬ L k9 < L k by omega)]; rfl)]
                    rfl)
                  have HZ9 := Lib.hid ((HB9.out.block _ (by have := HS1.out; omega)).trans HZ1.out)
                  have z0 := heap_cell HZ9.out (j := 0) rfl
                  have fz0 := heap_frozen HZ9.out 0
                  have z1 := heap_cell HZ9.out (j := 1) rfl
                  have fz1 := heap_frozen HZ9.out 1
                  have z2 := heap_cell HZ9.out (j := 2) rfl
                  have fz2 := heap_frozen HZ9.out 2
                  have z3 := heap_cell HZ9.out (j := 3) rfl
                  have fz3 := heap_frozen HZ9.out 3
                  have z4 := heap_cell HZ9.out (j := 4) rfl
                  have fz4 := heap_frozen HZ9.out 4
                  have HBF := Lib.hid (below_thn HB1.out HB9.out)
                  go_wp2_with fail
                  refine bodyPost_ret (v := .tuple #[rollV nilRoll, .int .i64 91]) (by simp [results, Tryz.results9, go_sem, z0, z1, z2, z3, z4, nilRoll]; try rfl) rfl ⟨nilRoll, by rw [HC9.out], by rw [HC9.out]; exact nil_out _ _ _ _ _ _ _ _, ?_⟩
                  repeat (first | with_reducible exact HBF.out | with_reducible refine Below.setCell ?_ (by dsimp only; omega) _)
                · have g1 : decide (L k ≤ L k9) = false := decide_eq_false hg
                  have g2 : decide (L k9 ≥ L k) = false := decide_eq_false hg
                  have HGV := Lib.hid hg
                  clear hg
                  go_upto_region 13 with fail
                  have xx0 := among_below hlk
                  have xx1 := among_below hl9
                  have HSt : Hid (Below wr.heap.size wr wr.drew) := Lib.hid (Below.refl _ _).drew
                  have hne : Nonempty (Among (Below wr.heap.size wr)) := ⟨⟨_, HSt.out⟩⟩
                  refine wp_region_class (Below wr.heap.size wr) (by kernel_rfl) (by kernel_rfl) HSt.out ?_
                  repeat (go_big_quiet_step (fail))
                  refine wpQuiet_nil ?_
                  intro w8 hx
                  have HB8 := Lib.hid (below_thn HBX.out (among_out hx))
                  clear hx hne xx0 xx1
                  clear hlk hl9 q1 q1b q2 q3 g1 g2
                  go_wp2_with fail
                  go_roundw
                  case rel => exact ⟨k + 1, by omega, by go_num, fun j hj => by
                    by_cases e : j = k
                    · subst e
                      have h9 := HGV.out
                      have h8 := HK9.out
                      unfold Pure.strJ Pure.noNote
                      rw [HKV.out, show j - 1 = k9 by omega, decide_eq_true (show L k9 < L j by omega)]
                      simp
                    · exact HQ.out j (by omega), HB8.out⟩
                  case measure => simp [intOf]; omega
      · obtain rfl : k = ln := by omega
        have HNO : Hid (Pure.numsOk r d k L = true) := Lib.hid ((Pure.nums_strJ r d k L).2 HQ.out)
        have HC9 : Hid (c = 0) := Lib.hid (by
          rw [← HC.out]
          unfold Pure.strC
          rw [if_pos HCE.out, HNO.out]
          rfl)
        have x0 := heap_cell HXK.out (j := 0) rfl
        have x1 := heap_cell HXK.out (j := 1) rfl
        have x2 := heap_cell HXK.out (j := 2) rfl
        have x3 := heap_cell HXK.out (j := 3) rfl
        have x4 := heap_cell HXK.out (j := 4) rfl
        go_wp2_with fail
        refine (rWithout_any r d la k lc L hN hnil hl _ (HR1.out.below HBK.out) (HL1.out.below HBK.out)).mono ?_
        rintro e u ⟨r', rfl, ho, e1, e2, e3, e4, e5, hb⟩
        have HO := Lib.hid ho
        have HZ9 := Lib.hid (heap_lft ((HBK.out.block _ (by have := HS1.out; omega)).trans HZ1.out) hb)
        have HBF := Lib.hid (below_thn (below_thn HB1.out HBK.out) hb)
        have HSK : Hid (w.heap.size + 2 ≤ wr.heap.size) := Lib.hid (by have := HS1.out; have := HBK.out.size; omega)
        have HE := Lib.hid (And.intro e1 (And.intro e2 (And.intro e3 (And.intro e4 e5))))
        clear ho hb e1 e2 e3 e4 e5 x0 x1 x2 x3 x4
        have z0 := heap_cell HZ9.out (j := 0) rfl
        have fz0 := heap_frozen HZ9.out 0
        have z1 := heap_cell HZ9.out (j := 1) rfl
        have fz1 := heap_frozen HZ9.out 1
        have z2 := heap_cell HZ9.out (j := 2) rfl
        have fz2 := heap_frozen HZ9.out 2
        have z3 := heap_cell HZ9.out (j := 3) rfl
        have fz3 := heap_frozen HZ9.out 3
        have z4 := heap_cell HZ9.out (j := 4) rfl
        have fz4 := heap_frozen HZ9.out 4
        go_wp2_with fail
        refine bodyPost_ret (v := .tuple #[rollV r', .int .i64 0]) (by simp [results, Tryz.results9, go_sem, z0, z1, z2, z3, z4]; try rfl) rfl ⟨r', by rw [HC9.out], ?_, ?_⟩
        · rw [HC9.out]
          refine ⟨?_, HE.out.1, HE.out.2.1, HE.out.2.2.1, HE.out.2.2.2.1, HE.out.2.2.2.2⟩
          have h2 := HSK.out
          refine OwnRoll.base (base := wr.heap.size) ?_ (by omega)
          repeat (first | with_reducible exact HO.out | with_reducible refine OwnRoll.set ?_ (by dsimp only; omega) _)
        · repeat (first | with_reducible exact HBF.out | with_reducible refine Below.setCell ?_ (by dsimp only; omega) _)
  · have e1 : (ce != 0) = true := by simpa using h0
    have HC9 : Hid (c = ce) := Lib.hid (by
      rw [← HC.out]
      unfold Pure.strC
      rw [if_neg (by rw [HCE.out]; exact h0)]
      exact HCE.out)
    have HC0 := Lib.hid h0
    have HZ9 := HZ1
    clear h0
    have z0 := heap_cell HZ9.out (j := 0) rfl
    have fz0 := heap_frozen HZ9.out 0
    have z1 := heap_cell HZ9.out (j := 1) rfl
    have fz1 := heap_frozen HZ9.out 1
    have z2 := heap_cell HZ9.out (j := 2) rfl
    have fz2 := heap_frozen HZ9.out 2
    have z3 := heap_cell HZ9.out (j := 3) rfl
    have fz3 := heap_frozen HZ9.out 3
    have z4 := heap_cell HZ9.out (j := 4) rfl
    have fz4 := heap_frozen HZ9.out 4
    go_wp2_with fail
    refine bodyPost_ret (v := .tuple #[rollV nilRoll, .int .i64 ce]) (by simp [results, Tryz.results9, go_sem, z0, z1, z2, z3, z4, nilRoll]; try rfl) rfl ⟨nilRoll, by rw [HC9.out], by rw [HC9.out, decide_eq_false HC0.out]; exact nil_out _ _ _ _ _ _ _ _, ?_⟩
    repeat (first | with_reducible exact HB1.out | with_reducible refine Below.setCell ?_ (by dsimp only; omega) _)

end Go.Proofs.YtijfdfplebbaaaaGreat
