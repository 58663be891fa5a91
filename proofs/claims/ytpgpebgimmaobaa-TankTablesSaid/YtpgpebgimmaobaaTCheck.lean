/-
  The contracts of Check, and of the specification's own Tank.
-/
import Derived.Test.YtpgpebgimmaobaaTOrder
import Derived.Deep.RegionHeld3
import Derived.Deep.CutRange
namespace Go.Proofs.Ytpgpebgimmaobaa
open Go.RowKit

theorem held_take {P : Program} {ops : Array Oper} {Q : Exit → Act → World → Prop} {md : Region.Mode} {S : World → Prop} {i : Nat} {oi : Oper} {d : Option Tmp} {v : Value} {fuel : Nat} {listed : Array Bool} {a : Act} {w : World} (hi : ops[i]? = some oi) (hd : oi.dst = d)
    (hs : Region.noSelect ops = true) (hf : Region.free md ops listed i = true) (hr : (Region.ready md ops listed).contains i = true)
    (hQ : ∀ c a w, Q (.panic c) (a.put oi.dst v) w → Q (.panic c) a w) (hy : YieldsIf P ops S oi v a) (hS : S w)
    (h : wpAnyH P md ops Q S fuel (listed.setIfInBounds i true) (a.put d v) w) : wpAnyH P md ops Q S (fuel + 1) listed a w := by
  subst hd
  exact wpAnyH_take hi hs hf hr hQ hy hS h
theorem held_and {p q : Prop} (h : p) (k : p → q) : p ∧ q := ⟨h, k h⟩
theorem heightE {hh : Int} (a : Option Addr) (len cap : Nat) (lk ft : Int) (hl : len ≤ 40) (h : 8 * ((len : Int) - 1) = hh) (w : World) :
    Calls Try.prog 16 #[tankV a len cap lk ft] w fun e w' => e = .returned (.int .i64 hh) ∧ w' = w.alloc (tankB a len cap lk ft) := by
  subst h
  exact height_any a len cap lk ft hl w
theorem first_cell (w : World) (v : Value) (t : TypeId) {b : Nat} (hb : b = w.heap.size) : (w.alloc (.cells #[v] t)).cell? ⟨b, 0, none⟩ = some v := cells_top w #[v] t hb 0
theorem first_cell_d (w : World) (v : Value) (t : TypeId) {b : Nat} (hb : b = w.heap.size) : (w.alloc (.cells #[v] t)).drew.cell? ⟨b, 0, none⟩ = some v := first_cell w v t hb
theorem second_cell_d (w : World) (v : Value) (t : TypeId) (o : Obj) {b : Nat} (hb : b = w.heap.size) : ((w.alloc (.cells #[v] t)).alloc o).drew.cell? ⟨b, 0, none⟩ = some v := cell_up (first_cell w v t hb) o

set_option maxHeartbeats 4000000 in
set_option maxRecDepth 100000 in
/-- **Check**. -/
theorem check_any (a : Option Addr) (len cap : Nat) (F : Nat → Int) (lk ft : Int) (hl : len ≤ 40) (w : World) (h : NumsAt w a len F) :
    Calls Try.prog 12 #[tankV a len cap lk ft] w fun e w' => e = .returned (.int .i64 (Pure.err (Pure.okTank len F lk ft) 30)) ∧ Below w.heap.size w w' := by
  have HN := Lib.hid h
  clear h
  obtain ⟨ok, hok⟩ : ∃ ok, Pure.okTank len F lk ft = ok := ⟨_, rfl⟩
  rw [hok]
  have HOK := Lib.hid hok
  clear hok
  go_enter Try.func12, Try.ntmps12
  go_wp2_with fail
  refine (within1 2 21 len _ _ _ (cells_top _ _ _ (by simp) 0) _ rfl).mono ?_
  rintro e w' ⟨rfl, rfl⟩
  by_cases hlen : 2 ≤ len ∧ len ≤ 21
  · have h1 : (decide ((2 : Int) ≤ len) && decide ((len : Int) ≤ 21)) = true := by simp; omega
    rw [h1]
    obtain ⟨W1, hW1⟩ : ∃ W, (((w.alloc (tankB a len cap lk ft)).alloc (.cells #[.int .i64 len] 3)).alloc (spanB 2 21)) = W := ⟨_, rfl⟩
    have HB1 : Hid (Below w.heap.size w W1) := Lib.hid (by rw [← hW1]; exact (((Below.refl _ _).alloc (Nat.le_refl _) _).alloc (by simp) _).alloc (by simp; omega) _)
    have HBX : Hid (W1.heap[w.heap.size]? = some (tankB a len cap lk ft)) := Lib.hid (by rw [← hW1]; exact heap_up (heap_up (heap_top _ _ rfl) _) _)
    rw [hW1]
    clear hW1
    obtain ⟨b, off, rfl⟩ := HN.out.some (by omega)
    obtain ⟨n, rfl⟩ : ∃ n, len = n + 1 := ⟨len - 1, by omega⟩
    have HN1 : Hid (NumsAt W1 (some ⟨b, off, none⟩) (n + 1) F) := Lib.hid (HN.out.below HB1.out)
    have t0 := heap_cell HBX.out (j := 0) rfl
    have t1 := heap_cell HBX.out (j := 1) rfl
    have t2 := heap_cell HBX.out (j := 2) rfl
    have c0 : W1.cell? ⟨b, off, none⟩ = some (.int .i64 (F 0)) := HN1.out.at (show 0 < n + 1 by omega)
    obtain ⟨tb, htb⟩ : ∃ tb, (decide (F 0 = 0) && decide (Pure.Ordered (n + 1) F) && decide (F n ≤ 600)) = tb := ⟨_, rfl⟩
    obtain ⟨r1, hr1⟩ : ∃ r, (decide (0 ≤ lk) && decide (lk ≤ 50)) = r := ⟨_, rfl⟩
    obtain ⟨hh, hhh⟩ : ∃ hh, 8 * (((n + 1 : Nat) : Int) - 1) = hh := ⟨_, rfl⟩
    have HHH := Lib.hid hhh
    obtain ⟨r2, hr2⟩ : ∃ r, (decide (0 ≤ ft) && decide (ft ≤ hh)) = r := ⟨_, rfl⟩
    have HF : Hid (ok = (tb && (r1 && r2))) := Lib.hid (by
      rw [← HOK.out, ← htb, ← hr1, ← hr2, ← hhh, Bool.eq_iff_iff, Pure.okTank_iff]
      unfold Pure.OkTank
      simp only [Bool.and_eq_true, decide_eq_true_eq, Nat.add_sub_cancel]
      exact ⟨fun ⟨_, ⟨a, b, c⟩, d, e⟩ => ⟨⟨⟨a, b⟩, c⟩, d, e⟩, fun ⟨⟨⟨a, b⟩, c⟩, d, e⟩ => ⟨hlen, ⟨a, b, c⟩, d, e⟩⟩)
    have HTB := Lib.hid htb
    have HR1 := Lib.hid hr1
    have HR2 := Lib.hid hr2
    clear htb hr1 hr2 hhh
    go_upto_region 3 with fail
    go_cut [3] from 12 to 27 (fun s wx => s = .bool tb ∧ Below W1.heap.size W1 wx)
    case first =>
      as_aux_lemma =>
        by_cases e0 : F 0 = 0
        · rw [e0] at c0
          by_cases ho : Pure.Ordered (n + 1) F
          · have ho1 : decide (Pure.Ordered (n + 1) F) = true := decide_eq_true ho
            have HO := Lib.hid ho1
            have HE := Lib.hid e0
            clear ho ho1 e0
            go_wp2_with fail
            refine (inOrder_any _ _ _ F (by omega) (by omega) _ HN1.out).mono ?_
            rintro e w2 ⟨rfl, hb2⟩
            rw [HO.out]
            have t0 := below_cell hb2 t0
            have t1 := below_cell hb2 t1
            have t2 := below_cell hb2 t2
            have HN2 : Hid (NumsAt w2 (some ⟨b, off, none⟩) (n + 1) F) := Lib.hid (HN1.out.below hb2)
            have HB2 := Lib.hid hb2
            clear hb2
            go_wp2_with fail
            refine (full_any _ n _ F _ _ (by omega) _ HN2.out).mono ?_
            rintro e w' ⟨rfl, rfl⟩
            go_wp2_with fail
            go_meet
            exact ⟨by rw [← HTB.out, HE.out, HO.out]; rfl, HB2.out.alloc HB2.out.size _⟩
          · have ho1 : decide (Pure.Ordered (n + 1) F) = false := decide_eq_false ho
            have HO := Lib.hid ho1
            clear ho ho1
            go_wp2_with fail
            refine (inOrder_any _ _ _ F (by omega) (by omega) _ HN1.out).mono ?_
            rintro e w2 ⟨rfl, hb2⟩
            rw [HO.out]
            have HB2 := Lib.hid hb2
            clear hb2
            go_wp2_with fail
            go_meet
            exact ⟨by rw [← HTB.out, HO.out]; simp, HB2.out⟩
        · have e1 : (F 0 == 0) = false := by simpa using e0
          have E0 := Lib.hid e0
          clear e0
          go_wp2_with fail
          go_meet
          exact ⟨by rw [← HTB.out, decide_eq_false E0.out]; rfl, Below.refl _ _⟩
    case rest =>
      obtain ⟨w2, rfl⟩ : ∃ x, x = wc := ⟨_, rfl⟩
      obtain ⟨rfl, hb2⟩ := hcut
      have HBX2 := Lib.hid (heap_lft HBX.out hb2)
      have HB2 := Lib.hid (below_thn HB1.out hb2)
      clear hb2 t0 t1 t2 c0
      have HK : Hid (∀ v : World, Below w2.heap.size w2 v → (v.cell? ⟨w.heap.size, 0, none⟩ = some (.slice (some ⟨b, off, none⟩) (n + 1) cap) ∧ v.cell? ⟨w.heap.size, 1, none⟩ = some (.int .i64 lk) ∧ v.cell? ⟨w.heap.size, 2, none⟩ = some (.int .i64 ft))) := Lib.hid (fun v k => ⟨below_cell k (heap_cell HBX2.out (j := 0) rfl), below_cell k (heap_cell HBX2.out (j := 1) rfl), below_cell k (heap_cell HBX2.out (j := 2) rfl)⟩)
      go_upto_region 4 with fail
      go_cut [4] from 27 to 41 (fun s wx => s = .bool (r1 && r2) ∧ Below w2.heap.size w2 wx)
      case first =>
        as_aux_lemma =>
          cases r1
          · go_wp2_with fail
            refine wp_region_held (S := fun v => Hid (v.cell? ⟨w.heap.size, 1, none⟩ = some (.int .i64 lk))) (by kernel_rfl) ?_
            refine held_take (i := 0) (d := some 27) (v := spanV 0 50) rfl rfl (by kernel_rfl) (by kernel_rfl) (by kernel_rfl) (fun _ _ _ h => h) (Or.inl ⟨by rfl, fun v hv => by go_simp⟩) (Lib.hid (HK.out _ (Below.refl _ _).drew).2.1) ?_
            simp only [Act.put, List.setIfInBounds_toArray, List.set_cons_zero, List.set_cons_succ]
            refine held_take (i := 1) (d := some 28) (v := .pointer (some ⟨w.heap.size, 1, none⟩)) rfl rfl (by kernel_rfl) (by kernel_rfl) (by kernel_rfl) (fun _ _ _ h => h) (Or.inl ⟨by rfl, fun v hv => by go_simp⟩) (Lib.hid (HK.out _ (Below.refl _ _).drew).2.1) ?_
            simp only [Act.put, List.setIfInBounds_toArray, List.set_cons_zero, List.set_cons_succ]
            refine held_take (i := 2) (d := some 29) (v := .int .i64 lk) rfl rfl (by kernel_rfl) (by kernel_rfl) (by kernel_rfl) (fun _ _ _ h => h) (Or.inl ⟨by rfl, fun v hv => by (have c := hv.out; go_simp)⟩) (Lib.hid (HK.out _ (Below.refl _ _).drew).2.1) ?_
            simp only [Act.put, List.setIfInBounds_toArray, List.set_cons_zero, List.set_cons_succ]
            refine wpAnyH_all (rs := [3]) (by kernel_rfl) (by simp) (fun i hi => ?_)
            obtain rfl : i = 3 := by simpa using hi
            clear hi
            refine wpOp_step rfl (fun K hK => ?_)
            go_simp
            refine hK _ _ (held_and (Lib.hid (cell_up (HK.out _ (Below.refl _ _).drew).2.1 _)) (fun HS3 => ?_))
            clear hK K
            refine wpAnyH_all (rs := [4]) (by kernel_rfl) (by simp) (fun i hi => ?_)
            obtain rfl : i = 4 := by simpa using hi
            clear hi
            refine wpOp_step rfl (fun K hK => ?_)
            go_simp
            with_reducible refine (within1 0 50 lk _ _ _ (first_cell_d _ _ _ (by simp)) _ HR1.out).mono ?_
            rintro e w' ⟨rfl, rfl⟩
            dsimp only
            refine hK _ _ (held_and (Lib.hid (cell_up (HS3.out) _)) (fun HS4 => ?_))
            clear hK K
            refine held_take (i := 5) (d := some 32) (v := .bool false) rfl rfl (by kernel_rfl) (by kernel_rfl) (by kernel_rfl) (fun _ _ _ h => h) (Or.inl ⟨by rfl, fun v hv => by go_simp⟩) HS4 ?_
            simp only [Act.put, List.setIfInBounds_toArray, List.set_cons_zero, List.set_cons_succ]
            refine held_take (i := 6) (d := some 33) (v := undef) rfl rfl (by kernel_rfl) (by kernel_rfl) (by kernel_rfl) (fun _ _ _ h => h) (Or.inr ⟨by rfl, rfl⟩) HS4 ?_
            simp only [Act.put, List.setIfInBounds_toArray, List.set_cons_zero, List.set_cons_succ]
            refine held_take (i := 7) (d := some 34) (v := undef) rfl rfl (by kernel_rfl) (by kernel_rfl) (by kernel_rfl) (fun _ _ _ h => h) (Or.inr ⟨by rfl, rfl⟩) HS4 ?_
            simp only [Act.put, List.setIfInBounds_toArray, List.set_cons_zero, List.set_cons_succ]
            refine held_take (i := 8) (d := some 35) (v := undef) rfl rfl (by kernel_rfl) (by kernel_rfl) (by kernel_rfl) (fun _ _ _ h => h) (Or.inr ⟨by rfl, rfl⟩) HS4 ?_
            simp only [Act.put, List.setIfInBounds_toArray, List.set_cons_zero, List.set_cons_succ]
            refine held_take (i := 9) (d := some 36) (v := undef) rfl rfl (by kernel_rfl) (by kernel_rfl) (by kernel_rfl) (fun _ _ _ h => h) (Or.inr ⟨by rfl, rfl⟩) HS4 ?_
            simp only [Act.put, List.setIfInBounds_toArray, List.set_cons_zero, List.set_cons_succ]
            refine held_take (i := 10) (d := some 37) (v := undef) rfl rfl (by kernel_rfl) (by kernel_rfl) (by kernel_rfl) (fun _ _ _ h => h) (Or.inr ⟨by rfl, rfl⟩) HS4 ?_
            simp only [Act.put, List.setIfInBounds_toArray, List.set_cons_zero, List.set_cons_succ]
            refine held_take (i := 11) (d := some 38) (v := undef) rfl rfl (by kernel_rfl) (by kernel_rfl) (by kernel_rfl) (fun _ _ _ h => h) (Or.inr ⟨by rfl, rfl⟩) HS4 ?_
            simp only [Act.put, List.setIfInBounds_toArray, List.set_cons_zero, List.set_cons_succ]
            refine held_take (i := 12) (d := some 39) (v := undef) rfl rfl (by kernel_rfl) (by kernel_rfl) (by kernel_rfl) (fun _ _ _ h => h) (Or.inr ⟨by rfl, rfl⟩) HS4 ?_
            simp only [Act.put, List.setIfInBounds_toArray, List.set_cons_zero, List.set_cons_succ]
            refine held_take (i := 13) (d := some 40) (v := .bool false) rfl rfl (by kernel_rfl) (by kernel_rfl) (by kernel_rfl) (fun _ _ _ h => h) (Or.inl ⟨by rfl, fun v hv => by go_simp⟩) HS4 ?_
            simp only [Act.put, List.setIfInBounds_toArray, List.set_cons_zero, List.set_cons_succ]
            refine held_take (i := 14) (d := some 4) (v := .bool false) rfl rfl (by kernel_rfl) (by kernel_rfl) (by kernel_rfl) (fun _ _ _ h => h) (Or.inl ⟨by rfl, fun v hv => by go_simp⟩) HS4 ?_
            simp only [Act.put, List.setIfInBounds_toArray, List.set_cons_zero, List.set_cons_succ]
            refine wpAnyH_done (by kernel_rfl) ?_ _
            go_wp2_with fail
            go_meet
            exact ⟨rfl, by repeat (first | exact Below.refl _ _ | refine Below.drew ?_ | refine Below.alloc ?_ (by simp; try omega) _)⟩
          · go_wp2_with fail
            go_region_held3 (fun v => v.cell? ⟨w.heap.size, 0, none⟩ = some (.slice (some ⟨b, off, none⟩) (n + 1) cap) ∧ v.cell? ⟨w.heap.size, 1, none⟩ = some (.int .i64 lk) ∧ v.cell? ⟨w.heap.size, 2, none⟩ = some (.int .i64 ft))
              (first | exact HK.out _ (Below.refl _ _).drew | exact HK.out _ (by repeat (first | exact Below.refl _ _ | refine Below.drew ?_ | refine Below.alloc ?_ (by simp; try omega) _)))
              (first
                | (go_at_call 15; (first
                    | with_reducible refine (within1 0 50 lk _ _ _ (first_cell _ _ _ (by simp)) _ HR1.out).mono ?_
                    | with_reducible refine (within1 0 50 lk _ _ _ (first_cell_d _ _ _ (by simp)) _ HR1.out).mono ?_
                    | with_reducible refine (within1 0 _ ft _ _ _ (first_cell _ _ _ (by simp)) _ HR2.out).mono ?_
                    | with_reducible refine (within1 0 _ ft _ _ _ (first_cell_d _ _ _ (by simp)) _ HR2.out).mono ?_
                    | with_reducible refine (within1 0 _ ft _ _ _ (cell_up (first_cell _ _ _ (by simp)) _) _ HR2.out).mono ?_
                    | with_reducible refine (within1 0 _ ft _ _ _ (second_cell_d _ _ _ _ (by simp)) _ HR2.out).mono ?_); rintro e w' ⟨rfl, rfl⟩)
                | (go_at_call 16; with_reducible refine (heightE _ (n + 1) _ _ _ (by omega) HHH.out _).mono ?_; rintro e w' ⟨rfl, rfl⟩))
            all_goals
              go_wp2_with fail
              go_meet
              exact ⟨rfl, by repeat (first | exact Below.refl _ _ | refine Below.drew ?_ | refine Below.alloc ?_ (by simp; try omega) _)⟩
      case rest =>
        obtain ⟨w3, rfl⟩ : ∃ x, x = wc := ⟨_, rfl⟩
        obtain ⟨rfl, hb3⟩ := hcut
        have HB3 := Lib.hid (below_thn HB2.out hb3)
        clear hb3
        obtain ⟨rs, hrs⟩ : ∃ rs, (r1 && r2) = rs := ⟨_, rfl⟩
        rw [hrs] at HF
        rw [hrs]
        clear hrs
        cases tb <;> cases rs
        all_goals
          go_wp2_with fail
          refine (unless_any _ _ _).mono ?_
          rintro e w' ⟨rfl, rfl⟩
          go_wp2_with fail
          go_ret
          exact ⟨ret_int (by rw [HF.out]; rfl), HB3.out⟩
  · have h1 : (decide ((2 : Int) ≤ len) && decide ((len : Int) ≤ 21)) = false := by
      cases h2 : (decide ((2 : Int) ≤ len) && decide ((len : Int) ≤ 21)) with
      | false => rfl
      | true => simp at h2; omega
    rw [h1]
    go_wp2_with fail
    go_ret
    exact ⟨ret_int (by rw [← HOK.out, Pure.okTank_no (fun g => hlen g.1)]; rfl), by repeat (first | exact Below.refl _ _ | refine Below.alloc ?_ (by simp; try omega) _)⟩

end Go.Proofs.Ytpgpebgimmaobaa
