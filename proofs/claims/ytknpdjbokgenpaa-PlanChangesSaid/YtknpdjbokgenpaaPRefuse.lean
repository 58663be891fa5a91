/-
  The contract of the specification's Refuse.
-/
import Derived.Test.YtknpdjbokgenpaaPDel
import Derived.Test.YtknpdjbokgenpaaPRef
import Derived.Maps.AppendAt
namespace Go.Proofs.Ytknpdjbokgenpaa
open Go.RowKit

namespace Pure
/-- How many of the first k sales have another Id. -/
def keepN (F : Nat → Int) (id : Int) : Nat → Nat
  | 0 => 0
  | k + 1 => if F (k * 4) = id then keepN F id k else keepN F id k + 1
/-- The numbers of those. -/
def keepG (F : Nat → Int) (id : Int) : Nat → Nat → Int
  | 0 => fun _ => 0
  | k + 1 => if F (k * 4) = id then keepG F id k else fun q => if q < keepN F id k * 4 then keepG F id k q else F (k * 4 + (q - keepN F id k * 4))
theorem keepN_le (F : Nat → Int) (id : Int) : ∀ k, keepN F id k ≤ k
  | 0 => Nat.le_refl _
  | k + 1 => by
    have := keepN_le F id k
    simp only [keepN]
    split <;> omega
end Pure
theorem numsCells_snoc4 {n : Nat} {F G : Nat → Int} (h : ∀ q, q < n * 4 → G q = F q) : numsCells (n * 4) F ++ [.int .i64 (G (n * 4)), .int .i64 (G (n * 4 + 1)), .int .i64 (G (n * 4 + 2)), .int .i64 (G (n * 4 + 3))] = numsCells ((n + 1) * 4) G := by
  apply List.ext_getElem?
  intro i
  by_cases h1 : i < n * 4
  · rw [List.getElem?_append_left (by rw [numsCells_length]; exact h1), numsCells_get h1, numsCells_get (by omega), h i h1]
  · rw [List.getElem?_append_right (by rw [numsCells_length]; omega), numsCells_length]
    by_cases h2 : i < (n + 1) * 4
    · rw [numsCells_get h2]
      have h3 : i = n * 4 ∨ i = n * 4 + 1 ∨ i = n * 4 + 2 ∨ i = n * 4 + 3 := by omega
      rcases h3 with rfl | rfl | rfl | rfl
      · simp
      · rw [show n * 4 + 1 - n * 4 = 1 by omega]; rfl
      · rw [show n * 4 + 2 - n * 4 = 2 by omega]; rfl
      · rw [show n * 4 + 3 - n * 4 = 3 by omega]; rfl
    · rw [List.getElem?_eq_none (by simp; omega), List.getElem?_eq_none (by rw [numsCells_length]; omega)]
/-- What refusing a sale gives. -/
def RefuseOut (p : PlanX) (T A S : Nat → Int) (id : Int) (w : World) (e : Ending) (w' : World) : Prop :=
  ∃ q c, e = .returned (.tuple #[planV q, .int .i64 c]) ∧ Below w.heap.size w w' ∧
    ((Pure.plan p T A S = false ∧ q = noPlan ∧ c = 40) ∨ (Pure.plan p T A S = true ∧ Pure.keepN S id p.sn = p.sn ∧ q = noPlan ∧ c = 6) ∨
     (Pure.plan p T A S = true ∧ Pure.keepN S id p.sn ≠ p.sn ∧ c = 0 ∧ ∃ a1 c1 a2 c2 a3 c3, q = ⟨p.fr, a1, p.tn, c1, p.sd, p.ck, a2, p.an, c2, a3, Pure.keepN S id p.sn, c3, p.bu⟩ ∧ OwnPlan w' w.heap.size q T A (Pure.keepG S id p.sn)))

set_option maxHeartbeats 8000000 in
set_option maxRecDepth 100000 in
theorem rRefuse_any (p : PlanX) (T A S : Nat → Int) (id : Int) (hn : p.tn ≤ 40) (ha : p.an ≤ 40) (hs : p.sn ≤ 40) (hbA : ∀ j, j < p.an * 2 → A j ≤ 9223372036854775807) (hbS : ∀ j, j < p.sn * 4 → S j ≤ 9223372036854775807) (w : World) (h : PlanAt w p T A S) :
    Calls Try.prog 9 #[planV p, .int .i64 id] w (RefuseOut p T A S id w) := by
  have HBA := Lib.hid hbA
  have HBG := Lib.hid hbS
  clear hbA hbS
  obtain ⟨W, hW⟩ : ∃ W, (w.alloc (planB p)).alloc (planB noPlan) = W := ⟨_, rfl⟩
  have HB : Hid (Below w.heap.size w W) := Lib.hid (by rw [← hW]; exact (below_new _ _).alloc (by simp) _)
  have HX : Hid (W.heap[w.heap.size]? = some (planB p)) := Lib.hid (by rw [← hW]; exact heap_up (heap_top _ _ rfl) _)
  have HY : Hid (W.heap[w.heap.size + 1]? = some (planB noPlan)) := Lib.hid (by rw [← hW]; exact heap_top _ _ (by simp))
  have HP : Hid (PlanAt W p T A S) := Lib.hid (h.below HB.out)
  clear h
  obtain ⟨r, hr⟩ : ∃ r, Pure.plan p T A S = r := ⟨_, rfl⟩
  have HR := Lib.hid hr
  clear hr
  have x0 := heap_cell HX.out (j := 0) rfl
  have x1 := heap_cell HX.out (j := 1) rfl
  have x2 := heap_cell HX.out (j := 2) rfl
  have x3 := heap_cell HX.out (j := 3) rfl
  have x4 := heap_cell HX.out (j := 4) rfl
  have x5 := heap_cell HX.out (j := 5) rfl
  have x6 := heap_cell HX.out (j := 6) rfl
  go_enter Try.func9, Try.ntmps9
  go_upto_region 1 with fail
  try rw [hW]
  clear hW
  go_wp2_with fail
  refine (rPlan_any p T A S hn ha hs HBA.out HBG.out _ HP.out).mono ?_
  rintro e W1 ⟨rfl, hb⟩
  rw [HR.out]
  have HX1 := Lib.hid (heap_lft HX.out hb)
  have HY1 := Lib.hid (heap_lft HY.out hb)
  have HP1 := Lib.hid (HP.out.below hb)
  have HB1 := Lib.hid (below_thn HB.out hb)
  clear hb
  clear x0 x1 x2 x3 x4 x5 x6
  have x0 := heap_cell HX1.out (j := 0) rfl
  have x1 := heap_cell HX1.out (j := 1) rfl
  have x2 := heap_cell HX1.out (j := 2) rfl
  have x3 := heap_cell HX1.out (j := 3) rfl
  have x4 := heap_cell HX1.out (j := 4) rfl
  have x5 := heap_cell HX1.out (j := 5) rfl
  have x6 := heap_cell HX1.out (j := 6) rfl
  have y0 := heap_cell HY1.out (j := 0) rfl
  have f0 := heap_frozen HY1.out 0
  have y1 := heap_cell HY1.out (j := 1) rfl
  have f1 := heap_frozen HY1.out 1
  have y2 := heap_cell HY1.out (j := 2) rfl
  have f2 := heap_frozen HY1.out 2
  have y3 := heap_cell HY1.out (j := 3) rfl
  have f3 := heap_frozen HY1.out 3
  have y4 := heap_cell HY1.out (j := 4) rfl
  have f4 := heap_frozen HY1.out 4
  have y5 := heap_cell HY1.out (j := 5) rfl
  have f5 := heap_frozen HY1.out 5
  have y6 := heap_cell HY1.out (j := 6) rfl
  have f6 := heap_frozen HY1.out 6
  cases r
  · go_wp2_with fail
    refine bodyPost_ret (v := .tuple #[planV noPlan, .int .i64 40]) (by simp [results, Try.results9, go_sem, y0, y1, y2, y3, y4, y5, y6]; try rfl) rfl ⟨noPlan, 40, rfl, ?_, .inl ⟨HR.out, rfl, rfl⟩⟩
    repeat (first | with_reducible exact HB1.out | with_reducible refine Below.setCell ?_ (by simp) _)
  · go_wp2_with fail
    refine (twin_any p T A S hn ha hs _ HP1.out).mono ?_
    rintro e W2 ⟨a1, c1, a2, c2, a3', c3', rfl, ho, hb⟩
    have HX2 := Lib.hid (heap_lft HX1.out hb)
    have HY2 := Lib.hid (heap_lft HY1.out hb)
    have HP2 := Lib.hid (HP1.out.below hb)
    have HB2 := Lib.hid (below_thn HB1.out hb)
    have HO2 := Lib.hid ho
    have HS2 : Hid (w.heap.size + 1 < W2.heap.size ∧ W1.heap.size ≤ W2.heap.size ∧ w.heap.size + 1 < W1.heap.size) := Lib.hid ⟨(Array.getElem?_eq_some_iff.1 HY2.out).1, hb.size, (Array.getElem?_eq_some_iff.1 HY1.out).1⟩
    clear hb ho x0 y0 f0 x1 y1 f1 x2 y2 f2 x3 y3 f3 x4 y4 f4 x5 y5 f5 x6 y6 f6
    go_upto_region 4 with fail
    obtain ⟨V, hV⟩ : ∃ V, W2.alloc (planB (p.moved a1 c1 a2 c2 a3' c3')) = V := ⟨_, rfl⟩
    have HBV : Hid (Below W2.heap.size W2 V) := Lib.hid (by rw [← hV]; exact below_new _ _)
    have HQV : Hid (V.heap[W2.heap.size]? = some (planB (p.moved a1 c1 a2 c2 a3' c3'))) := Lib.hid (by rw [← hV]; exact heap_top _ _ rfl)
    have HSV : Hid (V.heap.size = W2.heap.size + 1) := Lib.hid (by rw [← hV]; simp)
    try rw [hV]
    clear hV
    have v5 := heap_cell HQV.out (j := 5) rfl
    have g5 := heap_frozen HQV.out 5
    have hx5 := heap_lft HX2.out HBV.out
    have x5 := heap_cell hx5 (j := 5) rfl
    clear hx5
    go_upto_region 5 with fail
    obtain ⟨V0, hV0⟩ : ∃ x, V.setCell ⟨W2.heap.size, 5, none⟩ (.slice none 0 0) = x := ⟨_, rfl⟩
    have HQ0 : Hid (V0.heap[W2.heap.size]? = some (planB ⟨p.fr, a1, p.tn, c1, p.sd, p.ck, a2, p.an, c2, none, 0, 0, p.bu⟩)) := Lib.hid (by rw [← hV0]; exact heap_set HQV.out 5 _)
    have HB0 : Hid (Below W2.heap.size W2 V0) := Lib.hid (by rw [← hV0]; exact HBV.out.setCell (Nat.le_refl _) _)
    try rw [hV0]
    clear hV0 v5 g5 x5
    have hx5 := heap_lft HX2.out HB0.out
    have x5 := heap_cell hx5 (j := 5) rfl
    clear hx5
    go_wp2_with fail
    go_loopw [19] (fun i wr => ∃ (k : Nat) (a3 : Option Addr) (c3 : Nat), k ≤ p.sn ∧ i = .int .i64 k ∧ wr.heap[W2.heap.size]? = some (planB ⟨p.fr, a1, p.tn, c1, p.sd, p.ck, a2, p.an, c2, a3, Pure.keepN S id k, c3, p.bu⟩) ∧ OwnNums wr (W2.heap.size + 1) 28 4 a3 (Pure.keepN S id k) c3 (Pure.keepG S id k) ∧ Below W2.heap.size W2 wr) (fun i _ => p.sn - (intOf i).toNat)
    case atStart => exact ⟨0, none, 0, Nat.zero_le _, rfl, HQ0.out, own_nil _ _ _ _ _, HB0.out⟩
    case round =>
      obtain ⟨k, a3, c3, hk, rfl, hq, ho, hb⟩ := hrel
      have HQk := Lib.hid hq
      have HOk := Lib.hid ho
      have HBk := Lib.hid hb
      clear hq ho hb
      by_cases hk1 : k < p.sn
      · obtain ⟨b, off, hta, _⟩ := HP2.out.s (k * 4) (by omega)
        have HN := HP2.out.s.below HBk.out
        rw [hta] at HN
        have c0 := HN.at (show k * 4 < p.sn * 4 by omega)
        have c1' := nums_row HN (show k * 4 + 1 < p.sn * 4 by omega)
        have c2' := nums_row HN (show k * 4 + 2 < p.sn * 4 by omega)
        have c3x := nums_row HN (show k * 4 + 3 < p.sn * 4 by omega)
        clear HN
        rw [hta]
        clear hta
        by_cases he : S (k * 4) = id
        · have HE := Lib.hid he
          have hkn : Pure.keepN S id (k + 1) = Pure.keepN S id k := by simp [Pure.keepN, he]
          have hkg : Pure.keepG S id (k + 1) = Pure.keepG S id k := by simp [Pure.keepG, he]
          have HKN := Lib.hid hkn
          have HKG := Lib.hid hkg
          clear hkn hkg
          go_wp2_with fail
          go_roundw
          case rel => exact ⟨k + 1, a3, c3, by omega, by go_num, by rw [HKN.out]; exact heap_lft HQk.out (below_new _ _), by rw [HKN.out, HKG.out]; exact HOk.out.below (below_new _ _), below_thn HBk.out (below_new _ _)⟩
          case measure => simp [intOf]; omega
        · have HE := Lib.hid he
          have hne : (S (k * 4) != id) = true := by simpa using he
          have hkn : Pure.keepN S id (k + 1) = Pure.keepN S id k + 1 := by simp [Pure.keepN, he]
          have hkg : Pure.keepG S id (k + 1) = fun q => if q < Pure.keepN S id k * 4 then Pure.keepG S id k q else S (k * 4 + (q - Pure.keepN S id k * 4)) := by simp [Pure.keepG, he]
          have HKN := Lib.hid hkn
          have HKG := Lib.hid hkg
          have hle := Pure.keepN_le S id k
          obtain ⟨n, hnn⟩ : ∃ n, Pure.keepN S id k = n := ⟨_, rfl⟩
          rw [hnn] at HQk HOk HKN HKG hle
          clear hkn hkg he hnn
          go_upto_region 9 with fail
          clear c0 c1' c2' c3x
          obtain ⟨U, hU⟩ : ∃ U, wr.alloc (saleB (S (k * 4)) (S (k * 4 + 1)) (S (k * 4 + 2)) (S (k * 4 + 3))) = U := ⟨_, rfl⟩
          have hbU : Below wr.heap.size wr U := by rw [← hU]; exact below_new _ _
          have HUS := Lib.hid (show U.heap.size = wr.heap.size + 1 by rw [← hU]; simp)
          have HUX : Hid (U.heap[wr.heap.size]? = some (saleB (S (k * 4)) (S (k * 4 + 1)) (S (k * 4 + 2)) (S (k * 4 + 3)))) := Lib.hid (by rw [← hU]; exact heap_top _ _ rfl)
          have HQU := Lib.hid (heap_lft HQk.out hbU)
          have HOU := Lib.hid (HOk.out.below hbU)
          have HBU := Lib.hid (below_thn HBk.out hbU)
          try rw [hU]
          clear hU hbU
          obtain ⟨Y, hY⟩ : ∃ Y, U.alloc (saleB (S (k * 4)) (S (k * 4 + 1)) (S (k * 4 + 2)) (S (k * 4 + 3))) = Y := ⟨_, rfl⟩
          have hbY : Below U.heap.size U Y := by rw [← hY]; exact below_new _ _
          have HYX : Hid (Y.heap[U.heap.size]? = some (saleB (S (k * 4)) (S (k * 4 + 1)) (S (k * 4 + 2)) (S (k * 4 + 3)))) := Lib.hid (by rw [← hY]; exact heap_top _ _ rfl)
          have HYS := Lib.hid (show Y.heap.size = U.heap.size + 1 by rw [← hY]; simp)
          have HQY := Lib.hid (heap_lft HQU.out hbY)
          have HOY := Lib.hid (HOU.out.below hbY)
          have HBY := Lib.hid (below_thn HBU.out hbY)
          clear hbY
          have q5 := heap_cell HQU.out (j := 5) rfl
          have u0 := heap_cell HUX.out (j := 0) rfl
          have u1 := heap_cell HUX.out (j := 1) rfl
          have u2 := heap_cell HUX.out (j := 2) rfl
          have u3 := heap_cell HUX.out (j := 3) rfl
          have hws : W2.heap.size < wr.heap.size := (Array.getElem?_eq_some_iff.1 HQk.out).1
          have HWS := Lib.hid hws
          clear hws
          obtain ⟨i0, hi, hz0, hz1, hz2⟩ := infoSale
          go_wp2_with (at_builtin; refine wpList_append_own_at _ rfl (.tmp 28) (.tmp 30) 24 rfl (W2.heap.size + 1) 28 i0 (.agg #[.int .i64 0, .int .i64 0, .int .i64 0, .int .i64 0]) 4 32 Try.underlying24 hi hz0 hz1 hz2 rfl (by decide) (.slice a3 n c3) n (numsCells (n * 4) (Pure.keepG S id k)) rfl HOY.out ⟨U.heap.size, 0, none⟩ 1 1 [.int .i64 (S (k * 4)), .int .i64 (S (k * 4 + 1)), .int .i64 (S (k * 4 + 2)), .int .i64 (S (k * 4 + 3))] rfl rfl (fun j u hj => by rw [Go.WideShapes.add_plain, Nat.zero_add]; exact heap_cell HYX.out (by simpa using hj)) (fun u hu => by simp at hu; rcases hu with rfl | rfl | rfl | rfl <;> rfl) (by unfold maxLen; omega) (by omega) (by have := HYS.out; have := HUS.out; have := HWS.out; omega) ?grow)
          case grow =>
            intro v' w' hown hgrow _ _
            obtain ⟨a9, c9, rfl⟩ : ∃ a c, v' = .slice a (n + 1) c := by
              obtain ⟨_, ⟨rfl, h⟩ | ⟨g, c, cur, rfl, _⟩⟩ := hown
              · exact absurd h (by omega)
              · exact ⟨_, _, rfl⟩
            have hsz : W2.heap.size + 1 ≤ Y.heap.size := by have := HYS.out; have := HUS.out; have := HWS.out; omega
            have hbw : Below (W2.heap.size + 1) Y w' := (Below.refl _ _).grown hgrow hsz (fun g hg => by
              obtain ⟨_, ⟨h1, _⟩ | ⟨g', c', cur, h1, h2, _⟩⟩ := HOY.out
              · rw [h1] at hg; cases hg
              · rw [h1] at hg; cases hg; exact h2)
            have hown2 : OwnNums w' (W2.heap.size + 1) 28 4 a9 (n + 1) c9 (Pure.keepG S id (k + 1)) := by
              have e0 : Pure.keepG S id (k + 1) (n * 4) = S (k * 4) := by rw [HKG.out]; simp
              have e1 : Pure.keepG S id (k + 1) (n * 4 + 1) = S (k * 4 + 1) := by rw [HKG.out]; show (if _ then _ else _) = _; rw [if_neg (by omega), show n * 4 + 1 - n * 4 = 1 by omega]
              have e2 : Pure.keepG S id (k + 1) (n * 4 + 2) = S (k * 4 + 2) := by rw [HKG.out]; show (if _ then _ else _) = _; rw [if_neg (by omega), show n * 4 + 2 - n * 4 = 2 by omega]
              have e3 : Pure.keepG S id (k + 1) (n * 4 + 3) = S (k * 4 + 3) := by rw [HKG.out]; show (if _ then _ else _) = _; rw [if_neg (by omega), show n * 4 + 3 - n * 4 = 3 by omega]
              have e4 := numsCells_snoc4 (n := n) (F := Pure.keepG S id k) (G := Pure.keepG S id (k + 1)) (fun q hq => by rw [HKG.out]; simp [hq])
              rw [e0, e1, e2, e3] at e4
              unfold OwnNums
              rw [← e4]
              exact hown
            have HO9 := Lib.hid hown2
            have HQ9 := Lib.hid ((hbw.block _ (by omega)).trans HQY.out)
            have HB9 := Lib.hid (HBY.out.trans (hbw.mono (by omega)))
            clear hown hgrow hbw hown2 q5 u0 u1 u2 u3
            have q5 := heap_cell HQ9.out (j := 5) rfl
            have f5 := heap_frozen HQ9.out 5
            go_wp2_with fail
            go_roundw
            case rel => exact ⟨k + 1, a9, c9, by omega, by go_num, by rw [HKN.out]; exact heap_set HQ9.out 5 _, by rw [HKN.out]; exact HO9.out.set (by simp) _, HB9.out.setCell (Nat.le_refl _) _⟩
            case measure => simp [intOf]; omega
      · have hke : k = p.sn := by omega
        rw [hke] at HQk HOk
        have HXE := Lib.hid (heap_lft HX2.out HBk.out)
        have HYE := Lib.hid (heap_lft HY2.out HBk.out)
        have HBE := Lib.hid (below_thn HB2.out HBk.out)
        have HOE := Lib.hid (HO2.out.below HBk.out)
        have hws : W2.heap.size < wr.heap.size := (Array.getElem?_eq_some_iff.1 HQk.out).1
        have HWS := Lib.hid hws
        clear hws
        have q5 := heap_cell HQk.out (j := 5) rfl
        have q0 := heap_cell HQk.out (j := 0) rfl
        have q1 := heap_cell HQk.out (j := 1) rfl
        have q2 := heap_cell HQk.out (j := 2) rfl
        have q3 := heap_cell HQk.out (j := 3) rfl
        have q4 := heap_cell HQk.out (j := 4) rfl
        have q6 := heap_cell HQk.out (j := 6) rfl
        have x5 := heap_cell HXE.out (j := 5) rfl
        have y0 := heap_cell HYE.out (j := 0) rfl
        have f0 := heap_frozen HYE.out 0
        have y1 := heap_cell HYE.out (j := 1) rfl
        have f1 := heap_frozen HYE.out 1
        have y2 := heap_cell HYE.out (j := 2) rfl
        have f2 := heap_frozen HYE.out 2
        have y3 := heap_cell HYE.out (j := 3) rfl
        have f3 := heap_frozen HYE.out 3
        have y4 := heap_cell HYE.out (j := 4) rfl
        have f4 := heap_frozen HYE.out 4
        have y5 := heap_cell HYE.out (j := 5) rfl
        have f5 := heap_frozen HYE.out 5
        have y6 := heap_cell HYE.out (j := 6) rfl
        have f6 := heap_frozen HYE.out 6
        subst hke
        by_cases hkn : Pure.keepN S id p.sn = p.sn
        · have HK := Lib.hid hkn
          rw [hkn] at q5
          clear hkn
          go_wp2_with fail
          refine bodyPost_ret (v := .tuple #[planV noPlan, .int .i64 6]) (by simp [results, Try.results9, go_sem, y0, y1, y2, y3, y4, y5, y6]; try rfl) rfl ⟨noPlan, 6, rfl, ?_, .inr (.inl ⟨HR.out, HK.out, rfl, rfl⟩)⟩
          repeat (first | with_reducible exact HBE.out | with_reducible refine Below.setCell ?_ (by simp) _)
        · have HK := Lib.hid hkn
          have hkc : ((Pure.keepN S id p.sn : Int) == (p.sn : Int)) = false := beq_eq_false_iff_ne.2 (fun e => hkn (by omega))
          clear hkn
          go_wp2_with fail
          refine bodyPost_ret (v := .tuple #[planV (⟨p.fr, a1, p.tn, c1, p.sd, p.ck, a2, p.an, c2, a3, Pure.keepN S id p.sn, c3, p.bu⟩ : PlanX), .int .i64 0]) (by simp [results, Try.results9, go_sem, y0, y1, y2, y3, y4, y5, y6]; try rfl) rfl ⟨(⟨p.fr, a1, p.tn, c1, p.sd, p.ck, a2, p.an, c2, a3, Pure.keepN S id p.sn, c3, p.bu⟩ : PlanX), 0, rfl, ?_, .inr (.inr ⟨HR.out, HK.out, rfl, a1, c1, a2, c2, a3, c3, rfl, ?_⟩)⟩
          repeat (first | with_reducible exact HBE.out | with_reducible refine Below.setCell ?_ (by simp) _)
          have hs2 := HS2.out
          have hws := HWS.out
          refine ⟨OwnNums.base (base := W1.heap.size) ?_ (by omega), OwnNums.base (base := W1.heap.size) ?_ (by omega), OwnNums.base (base := W1.heap.size) ?_ (by omega)⟩
          · repeat (first | with_reducible exact HOE.out.t | with_reducible refine OwnNums.set ?_ (by simp; omega) _)
          · repeat (first | with_reducible exact HOE.out.a | with_reducible refine OwnNums.set ?_ (by simp; omega) _)
          · repeat (first | with_reducible exact (OwnNums.base HOk.out (by omega)) | with_reducible refine OwnNums.set ?_ (by simp; omega) _)

end Go.Proofs.Ytknpdjbokgenpaa
