/-
  The contract of the specification's Without.
-/
import Derived.Test.YtmdmfiddabmaeaaQSame
namespace Go.Proofs.Ytmdmfiddabmaeaa
open Go.RowKit

/-- What the specification's Without gives. -/
def WithoutOut (n : Nat) (F : Nat → Int) (m : Nat) (G : Nat → Int) (len : Nat) (L : Nat → Int) (w : World) (e : Ending) (w' : World) : Prop :=
  ∃ a1 c1 a2 c2, e = .returned (pressV a1 n c1 a2 (Pure.leftN len L G m) c2) ∧ OwnNums w' w.heap.size 45 4 a1 n c1 F ∧ OwnNums w' w.heap.size 29 5 a2 (Pure.leftN len L G m) c2 (Pure.leftF len L G m) ∧ Below w.heap.size w w'

set_option maxHeartbeats 8000000 in
set_option maxRecDepth 100000 in
theorem rWithout_any (a : Option Addr) (n c : Nat) (b : Option Addr) (m d : Nat) (la : Option Addr) (len cap : Nat) (F G L : Nat → Int) (hn : n ≤ 60) (hm : m ≤ 60) (hl : len ≤ 1000000) (hna : a = none → n = 0) (hnb : b = none → m = 0) (hkp : ∀ i, i < m → Pure.keptW len L G i = !Pure.inL len L (G (i * 5))) (w : World) (hF : NumsAt w a (n * 4) F) (hG : NumsAt w b (m * 5) G) (hL : NumsAt w la len L) :
    Calls Try.prog 25 #[pressV a n c b m d, .slice la len cap] w (WithoutOut n F m G len L w) := by
  obtain ⟨W, hW⟩ : ∃ W, (w.alloc (pressB a n c b m d)).alloc (pressB none 0 0 none 0 0) = W := ⟨_, rfl⟩
  have HB : Hid (Below w.heap.size w W) := Lib.hid (by rw [← hW]; exact (below_new _ _).alloc (by simp) _)
  have HX : Hid (W.heap[w.heap.size]? = some (pressB a n c b m d)) := Lib.hid (by rw [← hW]; exact heap_up (heap_top _ _ rfl) _)
  have HY : Hid (W.heap[w.heap.size + 1]? = some (pressB none 0 0 none 0 0)) := Lib.hid (by rw [← hW]; exact heap_top _ _ (by simp))
  have HSZ : Hid (W.heap.size = w.heap.size + 2) := Lib.hid (by rw [← hW]; simp)
  have HF := Lib.hid (hF.below HB.out)
  have HG := Lib.hid (hG.below HB.out)
  have HL := Lib.hid (hL.below HB.out)
  have HN := Lib.hid (And.intro hna hnb)
  have HKP := Lib.hid hkp
  clear hF hG hL hna hnb hkp
  have x0 := heap_cell HX.out (j := 0) rfl
  have x1 := heap_cell HX.out (j := 1) rfl
  go_enter Try.func25, Try.ntmps25
  go_upto_region 1 with fail
  try rw [hW]
  clear hW
  go_wp2_with fail
  refine (twin_any a n c b m d F G hn hm HN.out.1 HN.out.2 _ HF.out HG.out).mono ?_
  rintro e W1 ⟨a1, c1, a2, c2, rfl, ho1, ho2, hb⟩
  clear x0 x1
  have HX1 := Lib.hid (heap_lft HX.out hb)
  have HY1 := Lib.hid (heap_lft HY.out hb)
  have HB1 := Lib.hid (below_thn HB.out hb)
  have HG1 := Lib.hid (HG.out.below hb)
  have HL1 := Lib.hid (HL.out.below hb)
  have HO1 := Lib.hid ho1
  have HS1 : Hid (w.heap.size + 2 ≤ W1.heap.size) := Lib.hid (by have := hb.size; have := HSZ.out; omega)
  clear hb ho1 ho2
  go_upto_region 2 with fail
  obtain ⟨V, hV⟩ : ∃ V, W1.alloc (pressB a1 n c1 a2 m c2) = V := ⟨_, rfl⟩
  have hbv : Below W1.heap.size W1 V := by rw [← hV]; exact below_new _ _
  have HQV : Hid (V.heap[W1.heap.size]? = some (pressB a1 n c1 a2 m c2)) := Lib.hid (by rw [← hV]; exact heap_top _ _ rfl)
  have HBV : Hid (Below W1.heap.size W1 V) := Lib.hid hbv
  try rw [hV]
  clear hV hbv
  have v1 := heap_cell HQV.out (j := 1) rfl
  have f1 := heap_frozen HQV.out 1
  go_upto_region 3 with fail
  clear v1 f1
  obtain ⟨M, hM⟩ : ∃ M, V.setCell ⟨W1.heap.size, 1, none⟩ (.slice none 0 0) = M := ⟨_, rfl⟩
  have HQM : Hid (M.heap[W1.heap.size]? = some (pressB a1 n c1 none 0 0)) := Lib.hid (by rw [← hM]; exact heap_set HQV.out 1 _)
  have HBM : Hid (Below W1.heap.size W1 M) := Lib.hid (by rw [← hM]; exact HBV.out.setCell (Nat.le_refl _) _)
  try rw [hM]
  clear hM
  have x1 := heap_cell (heap_lft HX1.out HBM.out) (j := 1) rfl
  go_wp2_with fail
  clear x1
  go_loopw [7, 8, 10, 17] (fun _ _ _ i wx => ∃ i' : Nat, i' ≤ m ∧ i = .int .i64 i' ∧ (∃ a' c', wx.heap[W1.heap.size]? = some (pressB a1 n c1 a' (Pure.leftN len L G i') c') ∧ OwnNums wx W1.heap.size 29 5 a' (Pure.leftN len L G i') c' (Pure.leftF len L G i')) ∧ Below W1.heap.size W1 wx) (fun _ _ _ i _ => m - (intOf i).toNat)
  case atStart => exact ⟨0, Nat.zero_le _, rfl, ⟨none, 0, HQM.out, own_nil _ _ _ _ _⟩, HBM.out⟩
  case round =>
    obtain ⟨wx, rfl⟩ : ∃ x, x = wr := ⟨_, rfl⟩
    obtain ⟨i, hi, rfl, ⟨a', c', hq, ho⟩, hb⟩ := hrel
    have HQ := Lib.hid hq
    have HO := Lib.hid ho
    have HBx := Lib.hid hb
    have HGx := Lib.hid (HG1.out.below hb)
    have HLx := Lib.hid (HL1.out.below hb)
    clear hq ho hb
    by_cases hlt : i < m
    · obtain ⟨g, off, rfl, _⟩ := HGx.out (i * 5) (by omega)
      have n1 : (i : Int) < m := by omega
      have e0 := HGx.out.at (show i * 5 < m * 5 by omega)
      have e1 := nums_row HGx.out (show i * 5 + 1 < m * 5 by omega)
      have e2 := nums_row HGx.out (show i * 5 + 2 < m * 5 by omega)
      have e3 := nums_row HGx.out (show i * 5 + 3 < m * 5 by omega)
      have e4 := nums_row HGx.out (show i * 5 + 4 < m * 5 by omega)
      obtain ⟨U, hU⟩ : ∃ U, wx.alloc (noteB (G (i * 5)) (G (i * 5 + 1)) (G (i * 5 + 2)) (G (i * 5 + 3)) (G (i * 5 + 4))) = U := ⟨_, rfl⟩
      have hbu : Below wx.heap.size wx U := by rw [← hU]; exact below_new _ _
      have HBU : Hid (Below W1.heap.size W1 U) := Lib.hid (below_thn HBx.out hbu)
      have HUX : Hid (U.heap[wx.heap.size]? = some (noteB (G (i * 5)) (G (i * 5 + 1)) (G (i * 5 + 2)) (G (i * 5 + 3)) (G (i * 5 + 4)))) := Lib.hid (by rw [← hU]; exact heap_top _ _ rfl)
      have HQU := Lib.hid (heap_lft HQ.out hbu)
      have HOU := Lib.hid (HO.out.below hbu)
      have HLU := Lib.hid (HLx.out.below hbu)
      clear hbu
      go_upto_region 6 with fail
      try rw [hU]
      clear hU e0 e1 e2 e3 e4
      go_wp2_with fail
      go_loopw [8, 10, 23] (fun q _ ix wq => ∃ j : Nat, j ≤ len ∧ ix = .int .i64 j ∧ q = .bool (Pure.inL j L (G (i * 5))) ∧ wq = U) (fun _ _ ix _ => len - (intOf ix).toNat)
      case atStart => exact ⟨0, Nat.zero_le _, rfl, rfl, rfl⟩
      case round =>
        obtain ⟨j, hj, rfl, rfl, rfl⟩ := hrel
        obtain ⟨r, hr⟩ : ∃ r, Pure.inL j L (G (i * 5)) = r := ⟨_, rfl⟩
        rw [hr]
        have HR := Lib.hid hr
        clear hr
        by_cases hjl : j < len
        · obtain ⟨gl, ol, h9, _⟩ := HLU.out j hjl
          subst h9
          have n2 : (j : Int) < len := by omega
          have l0 := HLU.out.at hjl
          have u0 := heap_cell HUX.out (j := 0) rfl
          cases r
          · by_cases he : L j = G (i * 5)
            · have ht : (L j == G (i * 5)) = true := by simpa using he
              have HE := Lib.hid he
              clear he
              go_wp2_with fail
              go_roundw
              case rel => exact ⟨j + 1, by omega, by go_num, by rw [Pure.inL_succ, HR.out, HE.out]; simp, trivial⟩
              case measure => simp [intOf]; omega
            · have ht : (L j == G (i * 5)) = false := by simpa using he
              have HE := Lib.hid he
              clear he
              go_wp2_with fail
              go_roundw
              case rel => exact ⟨j + 1, by omega, by go_num, by rw [Pure.inL_succ, HR.out]; simp [Ne.symm HE.out], trivial⟩
              case measure => simp [intOf]; omega
          · go_wp2_with fail
            go_roundw
            case rel => exact ⟨j + 1, by omega, by go_num, by rw [Pure.inL_succ, HR.out]; simp, trivial⟩
            case measure => simp [intOf]; omega
        · obtain rfl : len = j := by omega
          have n2 : ¬ (len : Int) < len := by omega
          have HKi := HKP.out i hlt
          rw [HR.out] at HKi
          have HK := Lib.hid HKi
          clear HKi
          cases r
          · have hK1 : Pure.leftN len L G (i + 1) = Pure.leftN len L G i + 1 := by simp [Pure.leftN, HK.out]
            have hK2 : Pure.leftF len L G (i + 1) = joinF (Pure.leftF len L G i) (Pure.leftN len L G i * 5) (fun q => G (i * 5 + q)) := by simp [Pure.leftF, HK.out]
            have HK1 := Lib.hid hK1
            have HK2 := Lib.hid hK2
            clear hK1 hK2
            have u0 := heap_cell HUX.out (j := 0) rfl
            have u1 := heap_cell HUX.out (j := 1) rfl
            have u2 := heap_cell HUX.out (j := 2) rfl
            have u3 := heap_cell HUX.out (j := 3) rfl
            have u4 := heap_cell HUX.out (j := 4) rfl
            have q1 := heap_cell HQU.out (j := 1) rfl
            go_upto_region 13 with fail
            obtain ⟨Y, hY⟩ : ∃ Y, wr.alloc (noteB (G (i * 5)) (G (i * 5 + 1)) (G (i * 5 + 2)) (G (i * 5 + 3)) (G (i * 5 + 4))) = Y := ⟨_, rfl⟩
            have hby : Below wr.heap.size wr Y := by rw [← hY]; exact below_new _ _
            have hyx : Y.heap[wr.heap.size]? = some (noteB (G (i * 5)) (G (i * 5 + 1)) (G (i * 5 + 2)) (G (i * 5 + 3)) (G (i * 5 + 4))) := by rw [← hY]; exact heap_top _ _ rfl
            obtain ⟨i0, hi0, hz0, hz1, hz2⟩ := infoNote
            have hoa := HOU.out.below hby
            have hqy := heap_lft HQU.out hby
            have hsy : W1.heap.size ≤ Y.heap.size := by have h1 := HBU.out.size; have h2 := hby.size; omega
            obtain ⟨a4, c4, Z, hr, ho4, hal, hbe, _⟩ := app_own Y W1.heap.size 29 23 23 5 40 i0 _ Try.underlying23 hi0 hz0 hz1 hz2 rfl (by decide) (by decide) hoa (some ⟨wr.heap.size, 0, none⟩) 1 1 (fun q => G (i * 5 + q)) (nums_note hyx) (fun e => by cases e) (by have := Pure.leftN_le len L G i; omega) (by omega) hsy
            have HQZ : Hid (Z.heap[W1.heap.size]? = some (pressB a1 n c1 a' (Pure.leftN len L G i) c')) := Lib.hid ((hal _ (Array.getElem?_eq_some_iff.1 hqy).1 (fun x hx e => hoa.ne hqy (by decide) x hx e.symm)).trans hqy)
            have HOZ := Lib.hid ho4
            have HBZ : Hid (Below W1.heap.size W1 Z) := Lib.hid ((below_thn HBU.out hby).trans hbe)
            rw [← hY] at hr
            have HAR := Lib.hid hr
            clear hby hyx hi0 hz0 hz1 hz2 hoa hqy hsy hr ho4 hal hbe hY
            have z1 := heap_cell HQZ.out (j := 1) rfl
            have zf := heap_frozen HQZ.out 1
            go_wp2_with (first | (at_builtin; refine Lib.wpList_append_run _ rfl _ _ _ _ rfl _ _ rfl rfl _ _ HAR.out ?_) | go_in)
            go_roundw
            case rel => exact ⟨i + 1, by omega, by go_num, ⟨a4, c4, by rw [HK1.out]; exact heap_set HQZ.out 1 _, by rw [HK1.out, HK2.out]; exact HOZ.out.kept (fun x hx => setCell_other (HOZ.out.ne HQZ.out (by decide) x hx))⟩, HBZ.out.setCell (Nat.le_refl _) _⟩
            case measure => simp [intOf]; omega
          · have hK1 : Pure.leftN len L G (i + 1) = Pure.leftN len L G i := by simp [Pure.leftN, HK.out]
            have hK2 : Pure.leftF len L G (i + 1) = Pure.leftF len L G i := by simp [Pure.leftF, HK.out]
            have HK1 := Lib.hid hK1
            have HK2 := Lib.hid hK2
            clear hK1 hK2
            go_wp2_with fail
            go_roundw
            case rel => exact ⟨i + 1, by omega, by go_num, ⟨a', c', by rw [HK1.out]; exact HQU.out, by rw [HK1.out, HK2.out]; exact HOU.out⟩, HBU.out⟩
            case measure => simp [intOf]; omega
    · obtain rfl : m = i := by omega
      have n1 : ¬ (m : Int) < m := by omega
      have q0 := heap_cell HQ.out (j := 0) rfl
      have q1 := heap_cell HQ.out (j := 1) rfl
      have HYx := Lib.hid (heap_lft HY1.out HBx.out)
      have y0 := heap_cell HYx.out (j := 0) rfl
      have y1 := heap_cell HYx.out (j := 1) rfl
      have f0 := heap_frozen HYx.out 0
      have f1 := heap_frozen HYx.out 1
      have HOR := Lib.hid (HO1.out.below HBx.out)
      have hs1 := HS1.out
      have hsz := HSZ.out
      have hbt : Below w.heap.size w wx := HB1.out.trans (HBx.out.mono (by omega))
      have HBT := Lib.hid hbt
      clear hbt
      go_wp2_with fail
      refine bodyPost_ret (v := pressV a1 n c1 a' (Pure.leftN len L G m) c') (by simp [results, Try.results25, go_sem, y0, y1]; try rfl) rfl ⟨a1, c1, a', c', rfl, ?_, ?_, ?_⟩
      · refine OwnNums.base (base := W.heap.size) ?_ (by omega)
        repeat (first | with_reducible exact HOR.out | with_reducible refine OwnNums.set ?_ (by dsimp only; omega) _)
      · refine OwnNums.base (base := W1.heap.size) ?_ (by omega)
        repeat (first | with_reducible exact HO.out | with_reducible refine OwnNums.set ?_ (by dsimp only; omega) _)
      · repeat (first | with_reducible exact HBT.out | with_reducible refine Below.setCell ?_ (by dsimp only; omega) _)
end Go.Proofs.Ytmdmfiddabmaeaa
