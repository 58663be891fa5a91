/-
  The contract of the specification's Strikes.
-/
import Derived.Test.YtiiekecohmaipaaMRef
namespace Go.Proofs.Ytiiekecohmaipaa
open Go.RowKit

/-- Marks of teeth as they stand in memory. -/
structure MarksAt (W : World) (B a b c k : Nat) : Prop where
  box : ∃ arr : Array Value, W.heap[B]? = some (.cells arr 45) ∧ arr.size = 120 ∧ ∀ x, x < 120 → arr[x]? = some (.bool (Pure.hit a b c k x))
theorem MarksAt.below {W W' : World} {B a b c k : Nat} (h : MarksAt W B a b c k) (hb : Below W.heap.size W W') : MarksAt W' B a b c k := by
  obtain ⟨arr, h1, h2, h3⟩ := h.box
  exact ⟨⟨arr, heap_lft h1 hb, h2, h3⟩⟩
theorem MarksAt.same {W W' : World} {B a b c k : Nat} (h : MarksAt W B a b c k) (hb : W'.heap[B]? = W.heap[B]?) : MarksAt W' B a b c k := by
  obtain ⟨arr, h1, h2, h3⟩ := h.box
  exact ⟨⟨arr, hb.trans h1, h2, h3⟩⟩
theorem MarksAt.set {W : World} {B a b c k : Nat} (h : MarksAt W B a b c k) {x : Nat} (hx : (k * a + c) % b = x) (hx2 : x < 120) : MarksAt (W.setCell ⟨B, x, none⟩ (.bool true)) B a b c (k + 1) := by
  obtain ⟨arr, h1, h2, h3⟩ := h.box
  refine ⟨⟨_, heap_set h1 x _, by simpa using h2, fun y hy => ?_⟩⟩
  have hs : Pure.hit a b c (k + 1) y = (Pure.hit a b c k y || decide ((k * a + c) % b = y)) := by
    unfold Pure.hit
    rw [List.range_succ, List.any_append]
    simp
  rw [hs]
  by_cases e : x = y
  · subst e
    rw [Array.getElem?_setIfInBounds_self_of_lt (by omega), hx]
    simp
  · rw [Array.getElem?_setIfInBounds_ne e, h3 y hy, hx]
    simp [e]
theorem turns_le {a b N : Nat} (hb : 1 ≤ b) (h : Pure.IsTurns a b N) : N ≤ b := by
  apply Decidable.byContradiction
  intro g
  exact h.2.2 b hb (by omega) (Nat.mul_mod_right b a)
theorem zeroMarks (w : World) : (zeroValue 45).run Try.prog w = .ok (.agg (Array.replicate 120 (.bool false))) w := by kernel_rfl
set_option maxRecDepth 100000 in
set_option maxHeartbeats 4000000 in
theorem rStrikes_any (x y t : Int) (w : World) :
    Calls Try.prog 7 #[.int .i64 x, .int .i64 y, .int .i64 t] w (StrikesOut x y t w) := by
  go_enter Try.func7, Try.ntmps7
  go_wp2_with fail
  refine (rTwo_any x y w).mono ?_
  rintro e w1 ⟨rfl, rfl⟩
  by_cases ht : Pure.two x y = true
  rotate_left
  · have hf : Pure.two x y = false := by simpa using ht
    rw [hf]
    clear ht
    go_wp2_with fail
    refine bodyPost_ret (v := .tuple #[.slice none 0 0, .int .i64 2]) (by simp [results, Try.results7, go_sem]; try rfl) rfl ⟨none, 0, [], 2, rfl, .inl ⟨by simp [Pure.good, hf], rfl, rfl⟩, by simp, nums_none _ _, Below.refl _ _⟩
  · rw [ht]
    have ht2 := ht
    unfold Pure.two at ht2
    simp only [decide_eq_true_eq] at ht2
    obtain ⟨a, rfl⟩ : ∃ a : Nat, x = a := ⟨x.toNat, by omega⟩
    obtain ⟨b, rfl⟩ : ∃ b : Nat, y = b := ⟨y.toNat, by omega⟩
    have HT := Lib.hid ht
    have HAB : Hid ((6 ≤ a ∧ a ≤ 120) ∧ (6 ≤ b ∧ b ≤ 120)) := Lib.hid (by omega)
    have hw1 : IntKind.i64.wrap ((a : Int) - 1) = (a : Int) - 1 := IntWalk.i64_in _ (by omega)
    clear ht ht2
    go_wp2_with fail
    clear hw1
    obtain ⟨r, hr⟩ : ∃ r, decide (0 ≤ t ∧ t ≤ (a : Int) - 1) = r := ⟨_, rfl⟩
    refine (rWithinE t 0 ((a : Int) - 1) r hr w).mono ?_
    rintro e w1 ⟨rfl, rfl⟩
    cases r
    · go_wp2_with fail
      refine bodyPost_ret (v := .tuple #[.slice none 0 0, .int .i64 2]) (by simp [results, Try.results7, go_sem]; try rfl) rfl ⟨none, 0, [], 2, rfl, .inl ⟨by rw [Pure.good, HT.out, hr]; rfl, rfl, rfl⟩, by simp, nums_none _ _, Below.refl _ _⟩
    · have HG : Hid (Pure.good (a : Int) (b : Int) t = true) := Lib.hid (by rw [Pure.good, HT.out, hr]; rfl)
      have hr2 := of_decide_eq_true hr
      obtain ⟨c, rfl⟩ : ∃ c : Nat, t = c := ⟨t.toNat, by omega⟩
      have HC : Hid (c < a) := Lib.hid (by omega)
      clear hr hr2
      have hzm := zeroMarks w
      obtain ⟨Z0, hZ0⟩ : ∃ Z, Array.replicate 120 (Value.bool false) = Z := ⟨_, rfl⟩
      rw [hZ0] at hzm
      have HZ0 := Lib.hid hZ0
      clear hZ0
      go_wp2_with fail
      clear hzm
      obtain ⟨W0, hW0⟩ : ∃ W0, w.alloc (.cells Z0 45) = W0 := ⟨_, rfl⟩
      have hb0 : Below w.heap.size w W0 := by rw [← hW0]; exact below_new _ _
      have hm0 : MarksAt W0 w.heap.size a b c 0 := ⟨⟨Z0, by rw [← hW0]; exact heap_top _ _ rfl, by rw [← HZ0.out]; simp, fun x hx => by rw [← HZ0.out]; simp [hx, Pure.hit]⟩⟩
      rw [hW0]
      refine (rMeet_any _ _ _).mono ?_
      rintro e W1 ⟨t0, o0, er, rfl, hMt, hb⟩
      rcases hMt with ⟨h1, _⟩ | ⟨_, a', b', N, ea, eb, hN, rfl, rfl, rfl⟩
      · exact absurd (HT.out.symm.trans h1) (by decide)
      obtain rfl : a = a' := by omega
      obtain rfl : b = b' := by omega
      have hNb : N ≤ b := turns_le (by have := HAB.out; omega) hN
      have HN := Lib.hid (And.intro hN hNb)
      have HM1 := Lib.hid (hm0.below hb)
      have HB1 := Lib.hid (below_thn hb0 hb)
      clear hW0 hb0 hm0 hb ea eb hN hNb
      go_wp2_with fail
      go_loopw [12] (fun i wr => ∃ k : Nat, k ≤ N ∧ i = .int .i64 k ∧ MarksAt wr w.heap.size a b c k ∧ Below w.heap.size w wr) (fun i _ => N - (intOf i).toNat)
      case atStart => exact ⟨0, by omega, rfl, HM1.out, HB1.out⟩
      case round =>
        obtain ⟨k, hk, rfl, hm, hb⟩ := hrel
        have HM := Lib.hid hm
        have HB := Lib.hid hb
        clear hm hb
        by_cases hk1 : k < N
        · have hax := HAB.out
          have hn2 := HN.out.2
          have hca := HC.out
          have hka : k * a ≤ 120 * 120 := Nat.mul_le_mul (by omega) hax.1.2
          obtain ⟨x0, hx0⟩ : ∃ x0, (k * a + c) % b = x0 := ⟨_, rfl⟩
          have hxb : x0 < 120 := by have := Nat.mod_lt (k * a + c) (show 0 < b by omega); omega
          have hw1 : IntKind.i64.wrap ((k : Int) * (a : Int)) = (k : Int) * (a : Int) := by
            have h := IntWalk.i64_in ((k * a : Nat) : Int) (by omega)
            simpa using h
          have hw2 : IntKind.i64.wrap ((k : Int) * (a : Int) + (c : Int)) = (k : Int) * (a : Int) + (c : Int) := by
            have h := IntWalk.i64_in ((k * a + c : Nat) : Int) (by omega)
            simpa using h
          have hx1 : ((k : Int) * (a : Int) + (c : Int)) % (b : Int) = (x0 : Int) := by rw [← hx0]; push_cast; rfl
          have hx3 : Int.tmod ((k : Int) * (a : Int) + (c : Int)) (b : Int) = (x0 : Int) := by
            rw [Int.tmod_eq_emod_of_nonneg (by
              have h : (0 : Int) ≤ ((k * a + c : Nat) : Int) := Int.natCast_nonneg _
              simpa using h)]
            exact hx1
          have hb1 : ¬ b = 0 := by omega
          have hkn : (k : Int) < N := by omega
          have hx4 : (x0 : Int) < 120 := by omega
          obtain ⟨arr, g1, g2, g3⟩ := HM.out.box
          obtain ⟨v, hv⟩ := cell_ex g1 (show x0 < arr.size by omega)
          have hf := heap_frozen g1 x0
          have HX0 := Lib.hid (And.intro hx0 hxb)
          have hN2 : (N : Int) ≤ 120 := by omega
          clear hk hka hx0 hxb hca hn2 g1 g2 g3
          go_wp2_with fail
          go_roundw
          case rel => exact ⟨k + 1, by omega, by go_num, HM.out.set HX0.out.1 HX0.out.2, HB.out.setCell (Nat.le_refl _) _⟩
          case measure => simp [intOf]; omega
        · obtain rfl : k = N := by omega
          go_wp2_with fail
          go_loopw [13, 14] (fun o i wr => ∃ q : Nat, q ≤ b ∧ i = .int .i64 q ∧ (∃ sa cap, o = .slice sa (Pure.marks (Pure.hit a b c k) q).length cap ∧ OwnNums wr (w.heap.size + 1) 3 1 sa (Pure.marks (Pure.hit a b c k) q).length cap (fun j => (Pure.marks (Pure.hit a b c k) q).getD j 0)) ∧ MarksAt wr w.heap.size a b c k ∧ Below w.heap.size w wr) (fun _ i _ => b - (intOf i).toNat)
          case atStart => exact ⟨0, by omega, rfl, ⟨none, 0, rfl, own_nil _ _ _ _ _⟩, HM.out, HB.out⟩
          case round =>
            obtain ⟨q, hqb, rfl, ⟨sa, cap, rfl, hos⟩, hm, hb⟩ := hrel
            have HMq := Lib.hid hm
            have HBq := Lib.hid hb
            have HOS := Lib.hid hos
            clear hm hb hos
            by_cases hq1 : q < b
            · have hqn : (q : Int) < b := by omega
              have hax := HAB.out
              have hq120 : (q : Int) < 120 := by omega
              obtain ⟨arr, g1, g2, g3⟩ := HMq.out.box
              obtain ⟨p, hp⟩ : ∃ p, Pure.hit a b c k q = p := ⟨_, rfl⟩
              have hv := g3 q (by omega)
              rw [hp] at hv
              have c0 := heap_cell g1 hv
              have HP := Lib.hid hp
              have HQ := Lib.hid hqb
              cases p
              · clear g1 g2 g3 hv hp hqb
                go_wp2_with fail
                have he : Pure.marks (Pure.hit a b c k) (q + 1) = Pure.marks (Pure.hit a b c k) q := by rw [Pure.marks_succ, HP.out]; simp
                go_roundw
                case rel => exact ⟨q + 1, by omega, by go_num, ⟨sa, cap, by rw [he], by rw [he]; exact HOS.out⟩, HMq.out, HBq.out⟩
                case measure => simp [intOf]; omega
              · have hwz : w.heap.size < wr.heap.size := (Array.getElem?_eq_some_iff.1 g1).1
                have hlen : (Pure.marks (Pure.hit a b c k) q).length ≤ 200 := by have h := Pure.marks_len (Pure.hit a b c k) q; omega
                obtain ⟨Y, hY⟩ : ∃ Y, wr.alloc (.cells #[.int .i64 (q : Int)] 3) = Y := ⟨_, rfl⟩
                have hby : Below wr.heap.size wr Y := by rw [← hY]; exact below_new _ _
                have hone : NumsAt Y (some ⟨wr.heap.size, 0, none⟩) 1 (fun _ => (q : Int)) := by rw [← hY]; exact nums_one (first_cell _ _ _ rfl)
                obtain ⟨i0, hi, hz0, hz1, hz2⟩ := infoInt
                obtain ⟨sa', cap', Z, hr, hol, hal, hbe, _⟩ := app_own Y (w.heap.size + 1) 3 27 27 1 8 i0 _ Try.underlying27 hi hz0 hz1 hz2 rfl (by decide) (by decide) (HOS.out.below hby) (some ⟨wr.heap.size, 0, none⟩) 1 1 (fun _ => (q : Int)) (by simpa using hone) (fun h => by cases h) hlen (by omega) (by have h2 := hby.size; omega)
                have hbz : Z.heap[w.heap.size]? = wr.heap[w.heap.size]? := (hal _ (by have h2 := hby.size; omega) (fun y hy e => by obtain ⟨_, _, h⟩ := nums_typed (HOS.out.below hby) y hy; omega)).trans (hby.block _ hwz)
                have HMZ := Lib.hid (HMq.out.same hbz)
                have HOZ := Lib.hid hol
                have HBZ := Lib.hid ((HBq.out.trans (hby.mono (by omega))).trans (hbe.mono (by omega)))
                rw [← hY] at hr
                have HAR := Lib.hid hr
                clear hlen hY hby hone hi hz0 hz1 hz2 hr hol hal hbe hbz g1 g2 g3 hv hp hqb hwz
                go_wp2_with (at_builtin; refine Lib.wpList_append_run _ rfl _ _ _ _ rfl _ _ rfl rfl _ _ HAR.out ?_)
                have he : Pure.marks (Pure.hit a b c k) (q + 1) = Pure.marks (Pure.hit a b c k) q ++ [(q : Int)] := by rw [Pure.marks_succ, HP.out]; simp
                have hel : (Pure.marks (Pure.hit a b c k) (q + 1)).length = (Pure.marks (Pure.hit a b c k) q).length + 1 := by rw [he, List.length_append, List.length_singleton]
                go_roundw
                case rel =>
                  refine ⟨q + 1, by omega, by go_num, ⟨sa', cap', by rw [hel], ?_⟩, HMZ.out, HBZ.out⟩
                  rw [hel, he]
                  refine HOZ.out.congr (G := fun j => (Pure.marks (Pure.hit a b c k) q ++ [(q : Int)]).getD j 0) (fun r hr => ?_)
                  unfold joinF
                  by_cases h : r < (Pure.marks (Pure.hit a b c k) q).length
                  · rw [if_pos (by omega)]
                    simp [List.getD, List.getElem?_append_left h]
                  · obtain rfl : r = (Pure.marks (Pure.hit a b c k) q).length := by omega
                    rw [if_neg (by omega)]
                    simp [List.getD]
                case measure => simp [intOf]; omega
            · obtain rfl : q = b := by omega
              have hqn : ¬ ((q : Int) < (q : Int)) := by omega
              go_wp2_with fail
              refine bodyPost_ret (v := .tuple #[.slice sa (Pure.marks (Pure.hit a q c k) q).length cap, .int .i64 0]) (by simp [results, Try.results7, go_sem]; try rfl) rfl ⟨sa, cap, _, 0, rfl, .inr ⟨HG.out, rfl, a, q, c, k, rfl, rfl, rfl, HN.out.1, rfl⟩, ?_, ?_, HBq.out⟩
              · have h := Pure.marks_len (Pure.hit a q c k) q
                have := HAB.out
                omega
              · simpa using HOS.out.nums
end Go.Proofs.Ytiiekecohmaipaa
