/-
  The contract of firstGood: the first of some rules that is good for both sides.
-/
import Derived.Test.YtjegkkpdemoldaaGreatDoorRules
import Derived.Test.YtjegkkpdemoldaaGreatDoorVander
import Derived.Sort.CutIn
import Derived.BigRegionIn
import Derived.WalkMore
import Derived.Scope
import Derived.Test.YtjegkkpdemoldaaGreatDoorTail
namespace Go.Proofs.YtjegkkpdemoldaaGreatDoor
open Go.RowKit Go.Shelf
attribute [local go_sem] Oper.semAt_some

namespace Pure
/-- A rule is good for the seller and the buyer. -/
theorem none_of_pred {α : Type} {p : α → Bool} {l : List α} (h : l.any p = false) : l.find? p = none := none_of_any h
def okRule (b good bad p q r s : Int) (x : Int × Int) : Bool := sellerOk b good x.1 x.2 p q && buyerOk b bad x.1 x.2 r s
end Pure

abbrev sidesV (good bad : Int) (Bs Bb : Nat) : Value := .agg #[.int .i64 good, .func (.func 81) #[] #[.pointer (some ⟨Bs, 0, none⟩)], .int .i64 bad, .func (.func 82) #[] #[.pointer (some ⟨Bb, 0, none⟩)]]

theorem side0 (good bad : Int) (Bs Bb : Nat) (w : World) : (Instr.index 109 (.agg #[.int .i64 good, .func (.func 81) #[] #[.pointer (some ⟨Bs, 0, none⟩)], .int .i64 bad, .func (.func 82) #[] #[.pointer (some ⟨Bb, 0, none⟩)]]) (.int .i64 0)).run Tryz.prog w = .ok (.agg #[.int .i64 good, .func (.func 81) #[] #[.pointer (some ⟨Bs, 0, none⟩)]]) w := by kernel_rfl
theorem side1 (good bad : Int) (Bs Bb : Nat) (w : World) : (Instr.index 109 (.agg #[.int .i64 good, .func (.func 81) #[] #[.pointer (some ⟨Bs, 0, none⟩)], .int .i64 bad, .func (.func 82) #[] #[.pointer (some ⟨Bb, 0, none⟩)]]) (.int .i64 1)).run Tryz.prog w = .ok (.agg #[.int .i64 bad, .func (.func 82) #[] #[.pointer (some ⟨Bb, 0, none⟩)]]) w := by kernel_rfl

set_option maxRecDepth 100000 in
set_option maxHeartbeats 8000000 in
theorem firstGood_in (m b M T C Bs Bb gf : Nat) (lo hi good bad p q r s : Int) (lb : Array Value) (xs : List (Int × Int)) (hb : b ≤ 36) (hg0 : 0 ≤ good) (hg : good ≤ b) (hd0 : 0 ≤ bad) (hd : bad ≤ b)
    (hp0 : 0 ≤ p) (hpq : p ≤ q) (hq0 : 1 ≤ q) (hq : q ≤ 1000) (hr0 : 0 ≤ r) (hrs : r ≤ s) (hs0 : 1 ≤ s) (hs : s ≤ 1000)
    (hxs : ∀ x ∈ xs, 0 ≤ x.1 ∧ x.1 ≤ b ∧ 0 ≤ x.2 ∧ x.2 ≤ x.1) (w : World) (hw : Cnt w M T C)
    (hBs : w.heap[Bs]? = some (.cells #[.int .i64 p, .int .i64 q] 31)) (hBb : w.heap[Bb]? = some (.cells #[.int .i64 r, .int .i64 s] 31))
    (eg : ∀ args w, (callFunc gf args).run Tryz.prog w = .ok (.enter gf args) w)
    (hseq : ∀ W1, Below w.heap.size w W1 → w.heap.size + 4 ≤ W1.heap.size → SeqRuns Fence.wide (m + 5) Tryz.prog gf lb encRule (KeepAll (W1.heap.size + 2) M (w.heap.size + 1 + 1) (w.heap.size + 1 + 1 + 1)) (fun _ _ => False) xs W1) :
    CallsIn Fence.wide (m + 6) Tryz.prog 49 #[holdV b lo hi T C, .func (.func gf) #[] lb, sidesV good bad Bs Bb] w fun e w' =>
      e = .returned (.tuple #[.agg #[.int .i64 ((xs.find? (Pure.okRule b good bad p q r s)).getD (0, 0)).1, .int .i64 ((xs.find? (Pure.okRule b good bad p q r s)).getD (0, 0)).2], .bool (xs.any (Pure.okRule b good bad p q r s))]) ∧ Step M w w' := by
  have HW := Lib.hid hw
  have HL := Lib.hid hw.lt
  have HBS := Lib.hid hBs
  have HBB := Lib.hid hBb
  have HXS := Lib.hid hxs
  have HSEQ := Lib.hid hseq
  clear hw hBs hBb hxs hseq
  obtain ⟨ok, hok⟩ : ∃ ok, Pure.okRule b good bad p q r s = ok := ⟨_, rfl⟩
  have HOK : Hid (∀ x y : Int, ok (x, y) = (Pure.sellerOk b good x y p q && Pure.buyerOk b bad x y r s)) := Lib.hid (fun x y => by rw [← hok]; rfl)
  rw [hok]
  clear hok
  refine callsIn_of_wp_marks Tryz.func49 rfl trivial ?_ rfl
  simp only [Tryz.ntmps49, List.size_toArray, List.length_cons, List.length_nil, Nat.reduceAdd, Nat.reduceSub, Array.replicate_succ, Array.replicate_zero, List.push_toArray, List.append_toArray, List.nil_append, List.cons_append]
  gi_wp2
  refine wpIn_wide.2 ?_
  go_step3
  go_wp2
  go_step3
  go_wp2
  obtain ⟨W1, hW1⟩ : ∃ W1, (((w.alloc (.cells #[.int .i64 b, .int .i64 lo, .int .i64 hi, setsV T C] 82)).alloc (.cells #[.int .i64 good, .func (.func 81) #[] #[.pointer (some ⟨Bs, 0, none⟩)], .int .i64 bad, .func (.func 82) #[] #[.pointer (some ⟨Bb, 0, none⟩)]] 109)).alloc (.cells #[.int .i64 0, .int .i64 0] 47)).alloc (.cells #[.bool false] 4) = W1 := ⟨_, rfl⟩
  have hsz : W1.heap.size = w.heap.size + 4 := by rw [← hW1]; simp
  have hS1 : Step M w W1 := by rw [← hW1]; exact ((((Step.refl HW.out.memo).alloc _).alloc _).alloc _).alloc _
  have hB1 : Below w.heap.size w W1 := by rw [← hW1]; exact ((((Below.refl _ _).alloc (Nat.le_refl _) _).alloc (by simp) _).alloc (by simp; omega) _).alloc (by simp; omega) _
  have hh1 : W1.heap[w.heap.size]? = some (.cells #[.int .i64 b, .int .i64 lo, .int .i64 hi, setsV T C] 82) := by rw [← hW1]; exact heap_up (heap_up (heap_up (heap_top _ _ rfl) _) _) _
  have ho1 : W1.heap[w.heap.size + 1]? = some (.cells #[.int .i64 good, .func (.func 81) #[] #[.pointer (some ⟨Bs, 0, none⟩)], .int .i64 bad, .func (.func 82) #[] #[.pointer (some ⟨Bb, 0, none⟩)]] 109) := by rw [← hW1]; exact heap_up (heap_up (heap_top _ _ (by simp)) _) _
  have hr1 : W1.heap[w.heap.size + 1 + 1]? = some (.cells #[.int .i64 0, .int .i64 0] 47) := by rw [← hW1]; exact heap_up (heap_top _ _ (by simp)) _
  have hf1 : W1.heap[w.heap.size + 1 + 1 + 1]? = some (.cells #[.bool false] 4) := by rw [← hW1]; exact heap_top _ _ (by simp)
  rw [hW1]
  have HSZ := Lib.hid hsz
  have HS1 := Lib.hid hS1
  have hsq := HSEQ.out W1 hB1 (by omega)
  clear hsz hW1 hS1 hB1
  refine (wpIn_wide (n := m + 6)).1 ?_
  refine wpIn_loop_runs (n := m + 6) rfl (by omega) (gf := gf) (lb := lb) rfl trivial eg hsq (Below.refl _ _) (fun _ => rfl) (fun h k => h.trans k)
    (fun W o o' h1 h2 h3 => KeepAll.put o' (by omega) h1 h2 h3) (fun _ _ h => h.elim)
    (fun pre V => pre.any ok = false ∧ V.heap[w.heap.size]? = some (.cells #[.int .i64 b, .int .i64 lo, .int .i64 hi, setsV T C] 82) ∧ V.heap[w.heap.size + 1]? = some (.cells #[.int .i64 good, .func (.func 81) #[] #[.pointer (some ⟨Bs, 0, none⟩)], .int .i64 bad, .func (.func 82) #[] #[.pointer (some ⟨Bb, 0, none⟩)]] 109) ∧ V.heap[w.heap.size + 1 + 1]? = some (.cells #[.int .i64 0, .int .i64 0] 47) ∧ V.heap[w.heap.size + 1 + 1 + 1]? = some (.cells #[.bool false] 4) ∧ Step M w V)
    (fun c pre V => c = .ret ∧ (∃ ini x y, pre = ini ++ [(x, y)] ∧ ini.any ok = false ∧ ok (x, y) = true ∧ V.heap[w.heap.size + 1 + 1]? = some (.cells #[.int .i64 x, .int .i64 y] 47) ∧ V.heap[w.heap.size + 1 + 1 + 1]? = some (.cells #[.bool true] 4)) ∧ Step M w V)
    (OwnFrom.and (ownFrom_pure _ _) (OwnFrom.and cells_own (OwnFrom.and cells_own (OwnFrom.and cells_own (OwnFrom.and cells_own (step_own (by have := HSZ.out; omega) HL.out.1))))))
    (fun c s' A D row hs hg hr => by obtain ⟨hc, ⟨ini, x, y, e1, e2, e3, e4, e5⟩, e6⟩ := hs; exact ⟨hc, ⟨ini, x, y, e1, e2, e3, cells_own (β := Unit) () A D row e4 hg hr, cells_own (β := Unit) () A D row e5 hg hr⟩, step_own (β := Unit) (by have := HSZ.out; omega) HL.out.1 () A D row e6 hg hr⟩)
    (fun _ _ _ _ h => h.elim) ⟨rfl, hh1, ho1, hr1, hf1, HS1.out⟩
    (fun x a' V => ∃ rb, a' = { tmps := #[holdV b lo hi T C, .func (.func gf) #[] lb, sidesV good bad Bs Bb, .pointer (some ⟨w.heap.size, 0, none⟩), undef, .pointer (some ⟨w.heap.size + 1, 0, none⟩), .pointer (some ⟨w.heap.size + 1 + 1, 0, none⟩), .pointer (some ⟨w.heap.size + 1 + 1 + 1, 0, none⟩), .pointer (some ⟨rb, 0, none⟩), undef, undef,
      .func (.func gf) #[] lb, .agg #[.int .i64 x.1, .int .i64 x.2], undef, undef, undef, undef, undef, undef, undef, undef, undef, undef, undef, undef, undef, undef, undef, undef], defers := [] } ∧ V.heap[rb]? = some (.cells #[.int .i64 x.1, .int .i64 x.2] 47))
    (fun _ _ _ A D row hs hg hr => by obtain ⟨rb, e, h⟩ := hs; exact ⟨rb, e, cells_own (β := Unit) () A D row h hg hr⟩) ?assign ?body ?done ?stop
  case assign =>
    intro l' pre x V K hi hK
    obtain ⟨x1, x2⟩ := x
    have HI := Lib.hid hi
    have HK := Lib.hid hK
    clear hi hK
    dsimp only [encRule]
    gi_wp2
    exact HK.out _ _ (KeepsFrom.of_grownBy (World.grownBy_alloc V _ none) (fun j e => by cases e)) (KeepAll.step ((Step.refl HI.out.2.2.2.2.2.memo).alloc _) HI.out.2.2.2.2.2.memo (by have := HL.out; have := HSZ.out; omega))
      ⟨HI.out.1, heap_up HI.out.2.1 _, heap_up HI.out.2.2.1 _, heap_up HI.out.2.2.2.1 _, heap_up HI.out.2.2.2.2.1 _, HI.out.2.2.2.2.2.alloc _⟩ ⟨_, rfl, heap_top _ _ rfl⟩
  case body =>
    rintro l' pre ⟨x, y⟩ a' V _ _ ⟨hany, hvh, hvo, hvr, hvf, hvs⟩ ⟨rb, rfl, hrb⟩ hpx
    have hx := HXS.out _ (Pure.prefix_mem hpx)
    dsimp only at hrb hx ⊢
    have HANY := Lib.hid hany
    have HVH := Lib.hid hvh
    have HVO := Lib.hid hvo
    have HVR := Lib.hid hvr
    have HVF := Lib.hid hvf
    have HVS := Lib.hid hvs
    have HRB := Lib.hid hrb
    obtain ⟨hx0, hx1, hy0, hy1⟩ := hx
    have o0 := heap_cell hvo (j := 0) rfl
    have o1 := heap_cell hvo (j := 1) rfl
    have o2 := heap_cell hvo (j := 2) rfl
    have o3 := heap_cell hvo (j := 3) rfl
    clear hany hvh hvo hvr hvf hvs hrb hpx
    gi_wp2
    gi_loopw [14] (fun i wr => ∃ k : Nat, k ≤ 2 ∧ i = .int .i64 k ∧ (1 ≤ k → Pure.sellerOk b good x y p q = true) ∧ (2 ≤ k → Pure.buyerOk b bad x y r s = true) ∧ Step M V wr) (fun i _ => 2 - (intOf i).toNat)
    case atStart => exact ⟨0, by omega, rfl, fun h => by omega, fun h => by omega, Step.refl HVS.out.memo⟩
    case round =>
      obtain ⟨k, hk, rfl, hs1, hs2, hst⟩ := hrel
      have hk3 : k = 0 ∨ k = 1 ∨ k = 2 := by omega
      rcases hk3 with rfl | rfl | rfl
      · clear hs1 hs2
        have hHH := hst.heap HVH.out (by have := HL.out; omega)
        have hRB := hst.heap HRB.out (cells_not_memo HVS.out.memo HRB.out)
        have hHBS := hst.heap (HVS.out.heap HBS.out (cells_not_memo HW.out.memo HBS.out)) (cells_not_memo HW.out.memo HBS.out)
        obtain ⟨W3, hW3⟩ : ∃ W3, wr.alloc (.cells #[.int .i64 good, .func (.func 81) #[] #[.pointer (some ⟨Bs, 0, none⟩)]] 108) = W3 := ⟨_, rfl⟩
        have hst3 : Step M V W3 := by rw [← hW3]; exact hst.alloc _
        have hc3 : Cnt W3 M T C := (HW.out.step HVS.out).step hst3
        have k0 : W3.heap[wr.heap.size]? = some (.cells #[.int .i64 good, .func (.func 81) #[] #[.pointer (some ⟨Bs, 0, none⟩)]] 108) := by rw [← hW3]; exact heap_top _ _ rfl
        have k1 : W3.heap[w.heap.size]? = some (.cells #[.int .i64 b, .int .i64 lo, .int .i64 hi, setsV T C] 82) := by rw [← hW3]; exact heap_up hHH _
        have k2 : W3.heap[rb]? = some (.cells #[.int .i64 x, .int .i64 y] 47) := by rw [← hW3]; exact heap_up hRB _
        have k3 : W3.heap[Bs]? = some (.cells #[.int .i64 p, .int .i64 q] 31) := by rw [← hW3]; exact heap_up hHBS _
        have z0 := among_cell hc3.memo (heap_cell k0 (j := 0) rfl)
        have z1 := among_cell hc3.memo (heap_cell k0 (j := 1) rfl)
        have z2 := among_cell hc3.memo (heap_cell k1 (j := 0) rfl)
        have z3 := among_cell hc3.memo (heap_cell k1 (j := 1) rfl)
        have z4 := among_cell hc3.memo (heap_cell k1 (j := 2) rfl)
        have z5 := among_cell hc3.memo (heap_cell k1 (j := 3) rfl)
        have z6 := among_cell hc3.memo (heap_cell k2 (j := 0) rfl)
        have z7 := among_cell hc3.memo (heap_cell k2 (j := 1) rfl)
        have HC1 : Hid (∀ z : Among (Step M W3), Calls Tryz.prog 47 #[holdV b lo hi T C, .agg #[.int .i64 x, .int .i64 y], .int .i64 good] z.val fun e w' => e = .returned (partV (Pure.few b good x y) (Pure.sets b x)) ∧ ∃ u : Among (Step M W3), w' = u.val) :=
          Lib.hid (fun z => calls_class ((accepts_any b lo hi good x y (by omega) (by omega) (by omega) (by omega) (by omega) hx0 hx1 z.val (hc3.step z.ok)).mono fun e w' h => ⟨h.1, z.ok.trans h.2⟩))
        obtain ⟨rr, hrr⟩ : ∃ rr, Pure.sellerOk b good x y p q = rr := ⟨_, rfl⟩
        have HC2 : Hid (∀ z : Among (Step M W3), Calls Tryz.prog 81 #[partV (Pure.few b good x y) (Pure.sets b x), .pointer (some ⟨Bs, 0, none⟩)] z.val fun e w' => e = .returned (.bool rr) ∧ ∃ u : Among (Step M W3), w' = u.val) :=
          Lib.hid (fun z => calls_class ((seller_any b good x y p q Bs (by omega) (by omega) hx0 hx1 (Pure.few_le_all hg0 hg hx0 hy0 hy1) hp0 hpq hq0 hq z.val (z.ok.heap k3 (cells_not_memo hc3.memo k3))).mono fun e w' h => ⟨by rw [← hrr]; exact h.1, z.ok.trans (Step.of_below h.2 z.ok.memo)⟩))
        have HSt : Hid (Step M W3 W3.drew) := Lib.hid (Step.refl hc3.memo).drew
        have hne : Nonempty (Among (Step M W3)) := ⟨⟨_, HSt.out⟩⟩
        have HST3 := Lib.hid hst3
        have HW3 := Lib.hid hW3
        have HRR := Lib.hid hrr
        clear hHH hRB hHBS hst hst3 hc3 k0 k1 k2 k3 hW3 hrr
        have i0 := side0 good bad Bs Bb
        have i1 := side1 good bad Bs Bb
        gi_wp2
        clear i0 i1
        rw [HW3.out]
        gi_cut [25] from 100 (fun v wx => v = .bool (!rr) ∧ Step M V wx)
        case first =>
          refine wpIn_region_class (Step M W3) (by kernel_rfl) (by kernel_rfl) (by kernel_rfl) HSt.out ?_
          repeat (go_big_quiet_step ((first | (go_at_call 47; exact HC1.out _) | (go_at_call 81; exact HC2.out _))))
          refine wpQuiet_nil ?_
          intro w2 hx
          have hS2 := among_out hx
          clear hx
          have HS2 := Lib.hid (HST3.out.trans hS2)
          clear hS2
          gi_wp2_with fail
          gi_meet
          exact ⟨rfl, HS2.out⟩
        case rest =>
          obtain ⟨rfl, hsc⟩ := hcut
          have HSC := Lib.hid hsc
          clear hsc hne z0 z1 z2 z3 z4 z5 z6 z7
          cases rr
          · have HNO : Hid (ok (x, y) = false) := Lib.hid (by rw [HOK.out, HRR.out]; rfl)
            gi_wp2
            exact ⟨HSC.out.keeps (by have := HL.out; have := HSZ.out; omega), KeepAll.step HSC.out HVS.out.memo (by have := HL.out; have := HSZ.out; omega), by rw [List.any_append, HANY.out]; simp [HNO.out], HSC.out.heap HVH.out (by have := HL.out; omega), HSC.out.heap HVO.out (by have := HL.out; omega), HSC.out.heap HVR.out (by have := HL.out; omega), HSC.out.heap HVF.out (by have := HL.out; omega), HVS.out.trans HSC.out⟩
          · gi_wp2
            go_roundw
            case rel => exact ⟨1, by omega, by go_num, fun _ => HRR.out, fun h => by omega, HSC.out⟩
            case measure => simp [intOf]
      · have HSEL := Lib.hid (hs1 (by omega))
        clear hs1 hs2
        have hHH := hst.heap HVH.out (by have := HL.out; omega)
        have hRB := hst.heap HRB.out (cells_not_memo HVS.out.memo HRB.out)
        have hHBB := hst.heap (HVS.out.heap HBB.out (cells_not_memo HW.out.memo HBB.out)) (cells_not_memo HW.out.memo HBB.out)
        obtain ⟨W3, hW3⟩ : ∃ W3, wr.alloc (.cells #[.int .i64 bad, .func (.func 82) #[] #[.pointer (some ⟨Bb, 0, none⟩)]] 108) = W3 := ⟨_, rfl⟩
        have hst3 : Step M V W3 := by rw [← hW3]; exact hst.alloc _
        have hc3 : Cnt W3 M T C := (HW.out.step HVS.out).step hst3
        have k0 : W3.heap[wr.heap.size]? = some (.cells #[.int .i64 bad, .func (.func 82) #[] #[.pointer (some ⟨Bb, 0, none⟩)]] 108) := by rw [← hW3]; exact heap_top _ _ rfl
        have k1 : W3.heap[w.heap.size]? = some (.cells #[.int .i64 b, .int .i64 lo, .int .i64 hi, setsV T C] 82) := by rw [← hW3]; exact heap_up hHH _
        have k2 : W3.heap[rb]? = some (.cells #[.int .i64 x, .int .i64 y] 47) := by rw [← hW3]; exact heap_up hRB _
        have k3 : W3.heap[Bb]? = some (.cells #[.int .i64 r, .int .i64 s] 31) := by rw [← hW3]; exact heap_up hHBB _
        have z0 := among_cell hc3.memo (heap_cell k0 (j := 0) rfl)
        have z1 := among_cell hc3.memo (heap_cell k0 (j := 1) rfl)
        have z2 := among_cell hc3.memo (heap_cell k1 (j := 0) rfl)
        have z3 := among_cell hc3.memo (heap_cell k1 (j := 1) rfl)
        have z4 := among_cell hc3.memo (heap_cell k1 (j := 2) rfl)
        have z5 := among_cell hc3.memo (heap_cell k1 (j := 3) rfl)
        have z6 := among_cell hc3.memo (heap_cell k2 (j := 0) rfl)
        have z7 := among_cell hc3.memo (heap_cell k2 (j := 1) rfl)
        have HC1 : Hid (∀ z : Among (Step M W3), Calls Tryz.prog 47 #[holdV b lo hi T C, .agg #[.int .i64 x, .int .i64 y], .int .i64 bad] z.val fun e w' => e = .returned (partV (Pure.few b bad x y) (Pure.sets b x)) ∧ ∃ u : Among (Step M W3), w' = u.val) :=
          Lib.hid (fun z => calls_class ((accepts_any b lo hi bad x y (by omega) (by omega) (by omega) (by omega) (by omega) hx0 hx1 z.val (hc3.step z.ok)).mono fun e w' h => ⟨h.1, z.ok.trans h.2⟩))
        obtain ⟨rr, hrr⟩ : ∃ rr, Pure.buyerOk b bad x y r s = rr := ⟨_, rfl⟩
        have HC2 : Hid (∀ z : Among (Step M W3), Calls Tryz.prog 82 #[partV (Pure.few b bad x y) (Pure.sets b x), .pointer (some ⟨Bb, 0, none⟩)] z.val fun e w' => e = .returned (.bool rr) ∧ ∃ u : Among (Step M W3), w' = u.val) :=
          Lib.hid (fun z => calls_class ((buyer_any b bad x y r s Bb (by omega) (by omega) hx0 hx1 hr0 hrs hs0 hs z.val (z.ok.heap k3 (cells_not_memo hc3.memo k3))).mono fun e w' h => ⟨by rw [← hrr]; exact h.1, z.ok.trans (Step.of_below h.2 z.ok.memo)⟩))
        have HSt : Hid (Step M W3 W3.drew) := Lib.hid (Step.refl hc3.memo).drew
        have hne : Nonempty (Among (Step M W3)) := ⟨⟨_, HSt.out⟩⟩
        have HST3 := Lib.hid hst3
        have HW3 := Lib.hid hW3
        have HRR := Lib.hid hrr
        clear hHH hRB hHBB hst hst3 hc3 k0 k1 k2 k3 hW3 hrr
        have i0 := side0 good bad Bs Bb
        have i1 := side1 good bad Bs Bb
        gi_wp2
        clear i0 i1
        rw [HW3.out]
        gi_cut [25] from 100 (fun v wx => v = .bool (!rr) ∧ Step M V wx)
        case first =>
          refine wpIn_region_class (Step M W3) (by kernel_rfl) (by kernel_rfl) (by kernel_rfl) HSt.out ?_
          repeat (go_big_quiet_step ((first | (go_at_call 47; exact HC1.out _) | (go_at_call 82; exact HC2.out _))))
          refine wpQuiet_nil ?_
          intro w2 hx
          have hS2 := among_out hx
          clear hx
          have HS2 := Lib.hid (HST3.out.trans hS2)
          clear hS2
          gi_wp2_with fail
          gi_meet
          exact ⟨rfl, HS2.out⟩
        case rest =>
          obtain ⟨rfl, hsc⟩ := hcut
          have HSC := Lib.hid hsc
          clear hsc hne z0 z1 z2 z3 z4 z5 z6 z7
          cases rr
          · have HNO : Hid (ok (x, y) = false) := Lib.hid (by rw [HOK.out, HRR.out]; simp)
            gi_wp2
            exact ⟨HSC.out.keeps (by have := HL.out; have := HSZ.out; omega), KeepAll.step HSC.out HVS.out.memo (by have := HL.out; have := HSZ.out; omega), by rw [List.any_append, HANY.out]; simp [HNO.out], HSC.out.heap HVH.out (by have := HL.out; omega), HSC.out.heap HVO.out (by have := HL.out; omega), HSC.out.heap HVR.out (by have := HL.out; omega), HSC.out.heap HVF.out (by have := HL.out; omega), HVS.out.trans HSC.out⟩
          · gi_wp2
            go_roundw
            case rel => exact ⟨2, by omega, by go_num, fun _ => HSEL.out, fun _ => HRR.out, HSC.out⟩
            case measure => simp [intOf]
      · have HYES : Hid (ok (x, y) = true) := Lib.hid (by rw [HOK.out, hs1 (by omega), hs2 (by omega)]; rfl)
        have hrb := hst.heap HRB.out (cells_not_memo HVS.out.memo HRB.out)
        have hvr := hst.heap HVR.out (by have := HL.out; omega)
        have hvf := hst.heap HVF.out (by have := HL.out; omega)
        have b0 := heap_cell hrb (j := 0) rfl
        have b1 := heap_cell hrb (j := 1) rfl
        have e0 := heap_cell hvr (j := 0) rfl
        have e1 := heap_cell hvr (j := 1) rfl
        have e2 := heap_cell hvf (j := 0) rfl
        have f0 := heap_frozen hvr 0
        have f1 := heap_frozen hvr 1
        have f2 := heap_frozen hvf 0
        have HST := Lib.hid hst
        have QR := Lib.hid hvr
        have QF := Lib.hid hvf
        clear hs1 hs2 hst hrb hvr hvf
        gi_wp2
        have z1 := HL.out
        have z2 := HSZ.out
        refine ⟨(HST.out.keeps (by omega)).trans ((keepsFrom_setCell _ _ _).trans ((keepsFrom_setCell _ _ _).trans (keepsFrom_setCell _ _ _))), (KeepAll.step HST.out HVS.out.memo (by omega)).trans ((KeepAll.set1 (by omega) (by omega) _ _).trans ((KeepAll.set1 (by omega) (by omega) _ _).trans (KeepAll.set2 (by omega) (by omega) _ _))), rfl,
          ⟨pre, x, y, rfl, HANY.out, HYES.out, ?_, ?_⟩, (((HVS.out.trans HST.out).setCell (p := ⟨w.heap.size + 1 + 1, 0, none⟩) (by simp; omega) z1.1 _).setCell (p := ⟨w.heap.size + 1 + 1, 1, none⟩) (by simp; omega) z1.1 _).setCell (p := ⟨w.heap.size + 1 + 1 + 1, 0, none⟩) (by simp; omega) z1.1 _⟩
        · exact (Below.heap_setCell _ _ _ _ (by simp)).trans (heap_set (heap_set QR.out 0 _) 1 _)
        · exact heap_set ((Below.heap_setCell _ _ _ _ (by simp)).trans ((Below.heap_setCell _ _ _ _ (by simp)).trans QF.out)) 0 _
  case done =>
    rintro D V hD ⟨hany, hvh, hvo, hvr, hvf, hvs⟩ hK
    have e0 := heap_cell hvr (j := 0) rfl
    have e1 := heap_cell hvr (j := 1) rfl
    have e2 := heap_cell hvf (j := 0) rfl
    have f0 := heap_frozen hvr 0
    have f1 := heap_frozen hvr 1
    have f2 := heap_frozen hvf 0
    have HANY := Lib.hid hany
    have HVR := Lib.hid hvr
    have HVF := Lib.hid hvf
    have HVS := Lib.hid hvs
    have HK := Lib.hid hK
    clear hany hvh hvo hvr hvf hvs hK
    go_wp2
    rw [Exit.noGoto_ret]
    have hK' := (((KeepsOthers.setCell V ⟨w.heap.size + 1 + 1, 0, none⟩ (.int .i64 0)).trans (KeepsOthers.setCell _ ⟨w.heap.size + 1 + 1, 1, none⟩ (.int .i64 0))).trans (KeepsOthers.setCell _ ⟨w.heap.size + 1 + 1 + 1, 0, none⟩ (.bool false))).same D _ HK.out rfl
    refine ⟨by simp, .inl ⟨_, _, rfl, run_takeDeferred hK', ?_⟩⟩
    have hne1 : w.heap.size + 1 + 1 ≠ D := by have := HSZ.out; omega
    have hne2 : w.heap.size + 1 + 1 + 1 ≠ D := by have := HSZ.out; omega
    have hq := (World.putObj_heap_other (w := ((V.setCell ⟨w.heap.size + 1 + 1, 0, none⟩ (.int .i64 0)).setCell ⟨w.heap.size + 1 + 1, 1, none⟩ (.int .i64 0)).setCell ⟨w.heap.size + 1 + 1 + 1, 0, none⟩ (.bool false)) (o := .deferred none) hne1).trans ((Below.heap_setCell _ _ _ _ (by simp)).trans (heap_set (heap_set HVR.out 0 (.int .i64 0)) 1 (.int .i64 0)))
    have hq2 := (World.putObj_heap_other (w := ((V.setCell ⟨w.heap.size + 1 + 1, 0, none⟩ (.int .i64 0)).setCell ⟨w.heap.size + 1 + 1, 1, none⟩ (.int .i64 0)).setCell ⟨w.heap.size + 1 + 1 + 1, 0, none⟩ (.bool false)) (o := .deferred none) hne2).trans (heap_set ((Below.heap_setCell _ _ _ _ (by simp)).trans ((Below.heap_setCell _ _ _ _ (by simp)).trans HVF.out)) 0 (.bool false))
    have q0 := heap_cell hq (j := 0) rfl
    have q1 := heap_cell hq (j := 1) rfl
    have q2 := heap_cell hq2 (j := 0) rfl
    have hfind := Pure.none_of_pred HANY.out
    refine ⟨.tuple #[.agg #[.int .i64 0, .int .i64 0], .bool false], ?_, ⟨by rw [hfind, HANY.out]; rfl, (((HVS.out.setCell (p := ⟨w.heap.size + 1 + 1, 0, none⟩) (by simp; omega) HL.out.1 _).setCell (p := ⟨w.heap.size + 1 + 1, 1, none⟩) (by simp; omega) HL.out.1 _).setCell (p := ⟨w.heap.size + 1 + 1 + 1, 0, none⟩) (by simp; omega) HL.out.1 _).put (by have := HSZ.out; omega) HL.out.1 hK' _ rfl⟩⟩
    simp at q0 q1 q2
    simp [results, Tryz.f49, go_sem, q0, q1, q2]
  case stop =>
    rintro D c pre V hD hpre ⟨rfl, ⟨ini, x, y, e1, e2, e3, hvr, hvf⟩, hvs⟩ hK
    subst e1
    have HVR := Lib.hid hvr
    have HVF := Lib.hid hvf
    have HVS := Lib.hid hvs
    have HK := Lib.hid hK
    have HHIT := Lib.hid (Pure.hit_of hpre e2 e3)
    clear hvr hvf hvs hK hpre e2 e3
    gi_wp2
    rw [Exit.noGoto_ret]
    refine ⟨by simp, .inl ⟨_, _, rfl, run_takeDeferred HK.out, ?_⟩⟩
    have hne1 : w.heap.size + 1 + 1 ≠ D := by have := HSZ.out; omega
    have hne2 : w.heap.size + 1 + 1 + 1 ≠ D := by have := HSZ.out; omega
    have hq := (World.putObj_heap_other (w := V) (o := .deferred none) hne1).trans HVR.out
    have hq2 := (World.putObj_heap_other (w := V) (o := .deferred none) hne2).trans HVF.out
    have q0 := heap_cell hq (j := 0) rfl
    have q1 := heap_cell hq (j := 1) rfl
    have q2 := heap_cell hq2 (j := 0) rfl
    refine ⟨.tuple #[.agg #[.int .i64 x, .int .i64 y], .bool true], ?_, ⟨by rw [HHIT.out.1, HHIT.out.2]; rfl, HVS.out.put (by have := HSZ.out; omega) HL.out.1 HK.out _ rfl⟩⟩
    simp at q0 q1 q2
    simp [results, Tryz.f49, go_sem, q0, q1, q2]

end Go.Proofs.YtjegkkpdemoldaaGreatDoor
