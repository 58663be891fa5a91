/-
  The iterator rules: all rules, those that open fewer bags first; and the iterator over one rule.
-/
import Derived.Test.YtjegkkpdemoldaaGreatDoorInner
import Derived.Test.YtjegkkpdemoldaaGreatDoorRule
namespace Go.Proofs.YtjegkkpdemoldaaGreatDoor
open Go.RowKit Go.Shelf
attribute [local go_sem] Oper.semAt_some

namespace Pure
def rowOf (o : Int) : List (Int × Int) := (ints (o.toNat + 1)).map (fun a => (o, a))
/-- All rules for so many bags. -/
def rulesL (b : Nat) : List (Int × Int) := (ints (b + 1)).flatMap rowOf
theorem flat_snoc (pre : List Int) (x : Int) : (pre ++ [x]).flatMap rowOf = pre.flatMap rowOf ++ rowOf x := by simp [List.flatMap_append]
theorem flat_prefix {pre xs pre2 : List Int} {x y : Int} (h : pre ++ [x] <+: xs) (h2 : pre2 ++ [y] <+: ints (x.toNat + 1)) : (pre.flatMap rowOf ++ pre2.map (fun a => (x, a))) ++ [(x, y)] <+: xs.flatMap rowOf := by
  obtain ⟨t, rfl⟩ := h
  obtain ⟨t2, h3⟩ := h2
  refine ⟨t2.map (fun a => (x, a)) ++ t.flatMap rowOf, ?_⟩
  rw [List.flatMap_append, flat_snoc]
  unfold rowOf
  rw [← h3]
  simp
end Pure

/-- What a round over rules keeps: the memo, all cells but those of two blocks, and from block n on records of loops. -/
structure KeepAll (n M R1 R2 : Nat) (A B : World) : Prop where
  size : A.heap.size ≤ B.heap.size
  memo : Memo A M → Memo B M
  cells : ∀ (k : Nat) (o : Obj), k ≠ R1 → k ≠ R2 → o.isCells = true → A.heap[k]? = some o → B.heap[k]? = some o
  new : ∀ (k : Nat) (o : Obj), n ≤ k → o.isCells = false → A.heap[k]? = some o → B.heap[k]? = some o

theorem KeepAll.trans {n M R1 R2 : Nat} {A B D : World} (h : KeepAll n M R1 R2 A B) (k : KeepAll n M R1 R2 B D) : KeepAll n M R1 R2 A D :=
  ⟨Nat.le_trans h.size k.size, fun c => k.memo (h.memo c), fun i o h1 h2 hc ho => k.cells i o h1 h2 hc (h.cells i o h1 h2 hc ho), fun i o hi hc ho => k.new i o hi hc (h.new i o hi hc ho)⟩
theorem KeepAll.refl {n M R1 R2 : Nat} (A : World) : KeepAll n M R1 R2 A A := ⟨Nat.le_refl _, fun c => c, fun _ _ _ _ _ h => h, fun _ _ _ _ h => h⟩
theorem KeepAll.step {n M R1 R2 : Nat} {A B : World} (h : Step M A B) (hm : Memo A M) (hM : M < n) : KeepAll n M R1 R2 A B :=
  ⟨h.grown.size, fun _ => h.memo, fun k o _ _ hc ho => (h.grown.block k (Array.getElem?_eq_some_iff.1 ho).1 (fun e => by
    cases e
    obtain ⟨u, hu, hu2⟩ := memo_obj hm
    rw [ho] at hu
    cases hu
    rw [hc] at hu2
    cases hu2)).trans ho, fun k o hk _ ho => (h.grown.block k (Array.getElem?_eq_some_iff.1 ho).1 (by simp; omega)).trans ho⟩
theorem KeepAll.put {n M R1 R2 : Nat} {W : World} {l : Nat} {o : Obj} (o' : Obj) (hl : l < n) (ho : W.heap[l]? = some o) (hc : o.isCells = false) (hw : o.isWalk = false) : KeepAll n M R1 R2 W (W.putObj l o') :=
  ⟨by simp [World.putObj], fun c => c.kept (World.putObj_heap_other (fun e => by
    obtain ⟨es, clock, hb, _⟩ := c
    rw [e, ho] at hb
    cases hb
    cases hw)), fun k u _ _ hu hk => (World.putObj_heap_other (fun e => by
      subst e
      rw [ho] at hk
      cases hk
      rw [hc] at hu
      cases hu)).trans hk, fun k u hk _ hu => (World.putObj_heap_other (by omega)).trans hu⟩
theorem KeepAll.set1 {n M R1 R2 : Nat} {W : World} (hM : R1 ≠ M) (hn : R1 < n) (i : Nat) (u : Value) : KeepAll n M R1 R2 W (W.setCell ⟨R1, i, none⟩ u) :=
  ⟨by simp [World.setCell], fun c => c.kept (Below.heap_setCell _ _ _ _ (fun e => hM e.symm)), fun k o h1 _ _ ho => (Below.heap_setCell _ _ _ _ h1).trans ho, fun k o hk _ ho => (Below.heap_setCell _ _ _ _ (by simp; omega)).trans ho⟩
theorem KeepAll.set2 {n M R1 R2 : Nat} {W : World} (hM : R2 ≠ M) (hn : R2 < n) (i : Nat) (u : Value) : KeepAll n M R1 R2 W (W.setCell ⟨R2, i, none⟩ u) :=
  ⟨by simp [World.setCell], fun c => c.kept (Below.heap_setCell _ _ _ _ (fun e => hM e.symm)), fun k o _ h2 _ ho => (Below.heap_setCell _ _ _ _ h2).trans ho, fun k o hk _ ho => (Below.heap_setCell _ _ _ _ (by simp; omega)).trans ho⟩

theorem cells_own {β : Type} {B k : Nat} {arr : Array Value} {t : TypeId} : OwnFrom B (fun (_ : β) V => V.heap[k]? = some (.cells arr t)) := fun _ _ _ _ hs hg hr =>
  (hg.block k (Array.getElem?_eq_some_iff.1 hs).1 (fun e => by
    obtain ⟨o, ho, hc⟩ := (hr k e.symm).2
    rw [hs] at ho
    cases ho
    cases hc)).trans hs
/-- What an iterator gives of rules. -/
def encRule (r : Int × Int) : Array Value := #[.agg #[.int .i64 r.1, .int .i64 r.2]]

theorem rules_any (b lo hi : Int) (T C : Nat) (w : World) : Calls Tryz.prog 63 #[holdV b lo hi T C] w fun e w' =>
    e = .returned (.func (.func 85) #[] #[.pointer (some ⟨w.heap.size, 0, none⟩)]) ∧ w' = w.alloc (.cells #[.int .i64 b, .int .i64 lo, .int .i64 hi, setsV T C] 82) := by
  go_enter Tryz.func63, Tryz.ntmps63
  go_wp2_with fail
  go_ret
  exact ⟨rfl, rfl⟩
theorem values_any (v : Value) (a : Option Addr) (n c : Nat) (hv : v = .slice a n c) (w : World) : Calls Tryz.prog 50 #[v] w fun e w' =>
    e = .returned (.func (.func 80) #[] #[.pointer (some ⟨w.heap.size, 0, none⟩)]) ∧ w' = w.alloc (.cells #[v] 105) := by
  subst hv
  go_enter Tryz.func50, Tryz.ntmps50
  go_wp2_with fail
  go_ret
  exact ⟨rfl, rfl⟩

set_option maxRecDepth 100000 in
set_option maxHeartbeats 4000000 in
/-- The iterator over one rule. -/
theorem values_runs (m Bs g M R1 R2 : Nat) (x y : Int) (w : World) (hs : w.heap[Bs]? = some (.cells #[.slice (some ⟨g, 0, none⟩) 1 1] 105)) (hg : w.heap[g]? = some (.cells #[.int .i64 x, .int .i64 y] 47)) :
    SeqRuns Fence.wide (m + 1) Tryz.prog 80 #[.pointer (some ⟨Bs, 0, none⟩)] encRule (KeepAll (w.heap.size + 2) M R1 R2) (fun _ _ => False) [(x, y)] w := fun l J Jx W hW _ hJ hJx _ hY h0 => by
  have hs' := (hW.block Bs (Array.getElem?_eq_some_iff.1 hs).1).trans hs
  have hg' := (hW.block g (Array.getElem?_eq_some_iff.1 hg).1).trans hg
  have s0 := heap_cell hs' (j := 0) rfl
  have g0 := heap_cell hg' (j := 0) rfl
  have g1 := heap_cell hg' (j := 1) rfl
  have HJ := Lib.hid hJ
  have HY := Lib.hid hY
  have H0 := Lib.hid h0
  clear hs hg hW hs' hg' hJ hJx hY h0
  refine callsIn_of_wp Tryz.func80 rfl trivial ?_ rfl
  simp only [Tryz.ntmps80, List.size_toArray, List.length_cons, List.length_nil, Nat.reduceAdd, Nat.reduceSub, Array.replicate_succ, Array.replicate_zero, List.push_toArray, List.append_toArray, List.nil_append, List.cons_append]
  gi_wp2
  gi_loopw [7] (fun i wr => ∃ k : Nat, k ≤ 1 ∧ i = .int .i64 k ∧ (k = 0 → wr = W) ∧ J ([(x, y)].take k) wr) (fun i _ => 1 - (intOf i).toNat)
  case atStart => exact ⟨0, by omega, rfl, fun _ => rfl, H0.out⟩
  case round =>
    obtain ⟨k, hk, rfl, hw, hJs⟩ := hrel
    by_cases hlt : k < 1
    · obtain rfl : k = 0 := by omega
      obtain rfl := hw rfl
      clear hw
      obtain ⟨fn, tmps, assign, body, hy, hR⟩ := HY.out [] (x, y) (wr.alloc (.cells #[.int .i64 x, .int .i64 y] 47)) (by simp) (HJ.out.alloc _ H0.out)
      dsimp only [encRule] at hy
      clear hJs
      gi_wp2
      refine hR.mono ?_
      rintro e W3 (⟨rfl, hJ3, _⟩ | ⟨rfl, hJx3, _⟩)
      · gi_wp2
        go_roundw
        case rel => exact ⟨1, by omega, by go_num, fun h => by omega, hJ3⟩
        case measure => simp [intOf]
      · gi_wp2
        refine bodyPost_ret (results_none rfl _ _ _) rfl ?_
        exact ⟨⟨_, rfl⟩, .inr ⟨_, List.prefix_refl _, hJx3⟩⟩
    · obtain rfl : k = 1 := by omega
      gi_wp2
      go_end0
      exact ⟨⟨_, rfl⟩, .inl hJs⟩

set_option maxRecDepth 100000 in
set_option maxHeartbeats 4000000 in
/-- **rules' iterator**. -/
theorem rules_runs (m b M T C Bh R1 R2 : Nat) (lo hi : Int) (hb : b ≤ 36) (w : World) (hR1 : Bh ≠ R1) (hR2 : Bh ≠ R2) (hR1w : R1 < w.heap.size) (hR2w : R2 < w.heap.size)
    (hh : w.heap[Bh]? = some (.cells #[.int .i64 b, .int .i64 lo, .int .i64 hi, setsV T C] 82)) :
    SeqRuns Fence.wide (m + 5) Tryz.prog 85 #[.pointer (some ⟨Bh, 0, none⟩)] encRule (KeepAll (w.heap.size + 2) M R1 R2) (fun _ _ => False) (Pure.rulesL b) w := fun l J Jx W hW hsz2 hJ hJx _ hY h0 => by
  have hhl : Bh < w.heap.size := (Array.getElem?_eq_some_iff.1 hh).1
  have hh' : W.heap[Bh]? = some (.cells #[.int .i64 b, .int .i64 lo, .int .i64 hi, setsV T C] 82) := (hW.block Bh hhl).trans hh
  have hm0 := heap_cell (heap_up hh' (.cells #[.func (.yield l) #[] #[]] 139)) (j := 0) rfl
  have HH := Lib.hid hh'
  have HHL := Lib.hid hhl
  have HJ := Lib.hid hJ
  have HJX := Lib.hid hJx
  have HY := Lib.hid hY
  have H0 := Lib.hid h0
  have HS2 := Lib.hid hsz2
  clear hh hh' hhl hJ hJx hY h0 hW hsz2
  refine callsIn_of_wp_marks Tryz.func85 rfl trivial ?_ rfl
  simp only [Tryz.ntmps85, List.size_toArray, List.length_cons, List.length_nil, Nat.reduceAdd, Nat.reduceSub, Array.replicate_succ, Array.replicate_zero, List.push_toArray, List.append_toArray, List.nil_append, List.cons_append]
  gi_wp2_with (refine ⟨trivial, ?_⟩; gi_at_call 74; refine (callsIn_wide.2 (upTo_any _ _)).mono ?_; rintro e w' ⟨rfl, rfl⟩)
  obtain ⟨w1, hw1⟩ : ∃ w1, (W.alloc (.cells #[.func (.yield l) #[] #[]] 139)).alloc (.cells #[.int .i64 b] 3) = w1 := ⟨_, rfl⟩
  have hsz : w1.heap.size = W.heap.size + 2 := by rw [← hw1]; simp
  have hj1 : J [] w1 := by rw [← hw1]; exact HJ.out.alloc _ (HJ.out.alloc _ H0.out)
  have hy1 : w1.heap[W.heap.size]? = some (.cells #[.func (.yield l) #[] #[]] 139) := by rw [← hw1]; exact heap_up (heap_top _ _ rfl) _
  have hn1 : w1.cell? ⟨W.heap.size + 1, 0, none⟩ = some (.int .i64 b) := by rw [← hw1]; exact cell_top _ _ _ (by simp)
  have hh1 : w1.heap[Bh]? = some (.cells #[.int .i64 b, .int .i64 lo, .int .i64 hi, setsV T C] 82) := by rw [← hw1]; exact heap_up (heap_up HH.out _) _
  rw [hw1]
  have HSZ := Lib.hid hsz
  clear hsz hw1 hm0
  refine wpIn_loop_runs (n := m + 5) rfl (by omega) (gf := 93) (lb := #[.pointer (some ⟨W.heap.size + 1, 0, none⟩)]) rfl trivial (enters_of Tryz.func93 (by kernel_rfl) rfl)
    (upTo_runs (m + 3) (W.heap.size + 1) b (by omega) w1 (by have := HSZ.out; omega) hn1) (Below.refl _ _) (fun _ => rfl) (fun _ _ => trivial) (fun _ _ _ _ _ _ => trivial) (fun _ _ h => h.elim)
    (fun pre V => J (pre.flatMap Pure.rowOf) V ∧ V.heap[Bh]? = some (.cells #[.int .i64 b, .int .i64 lo, .int .i64 hi, setsV T C] 82) ∧ V.heap[W.heap.size]? = some (.cells #[.func (.yield l) #[] #[]] 139))
    (fun c pre V => c = .ret ∧ ∃ q, q <+: Pure.rulesL b ∧ Jx q V)
    (OwnFrom.and (fun s A B row hs hg hr => OwnFrom.up HJ.out (by have := HSZ.out; omega) _ A B row hs hg hr) (OwnFrom.and cells_own cells_own))
    (fun c s A B row hs hg hr => by obtain ⟨hc, q, hq, hx⟩ := hs; exact ⟨hc, q, hq, OwnFrom.up HJX.out (by have := HSZ.out; omega) _ A B row hx hg hr⟩)
    (fun _ _ _ _ h => h.elim) ⟨hj1, hh1, hy1⟩
    (fun x a' V => ∃ ob, W.heap.size ≤ ob ∧ a' = { tmps := #[.func (.yield l) #[] #[], .pointer (some ⟨Bh, 0, none⟩), .pointer (some ⟨W.heap.size, 0, none⟩), .pointer (some ⟨ob, 0, none⟩), undef, .pointer (some ⟨Bh, 0, none⟩), .pointer (some ⟨Bh, 0, none⟩), .int .i64 b, .func (.func 93) #[] #[.pointer (some ⟨W.heap.size + 1, 0, none⟩)], .int .i64 x, undef, undef, undef, undef, undef, undef, undef, undef, undef], defers := [] } ∧ V.heap[ob]? = some (.cells #[.int .i64 x] 3))
    (fun _ _ _ A D row hs hg hr => by obtain ⟨ob, hl, e, h⟩ := hs; exact ⟨ob, hl, e, cells_own (β := Unit) () A D row h hg hr⟩) ?assign ?body ?done ?stop
  case assign =>
    intro l' pre x V K hi hK
    have HI := Lib.hid hi
    have HK := Lib.hid hK
    clear hi hK
    gi_wp2
    exact HK.out _ _ (KeepsFrom.of_grownBy (World.grownBy_alloc V _ none) (fun j e => by cases e)) trivial ⟨HJ.out.alloc _ HI.out.1, heap_up HI.out.2.1 _, heap_up HI.out.2.2 _⟩ ⟨_, by have := (Array.getElem?_eq_some_iff.1 HI.out.2.2).1; omega, rfl, heap_top _ _ rfl⟩
  case body =>
    rintro l' pre x a' V hl' hrec ⟨hj, hvh, hvy⟩ ⟨ob, hol, rfl, hob⟩ hpx
    have HOL := Lib.hid hol
    clear hol
    obtain ⟨r₀, hrec⟩ := hrec
    have hx := Pure.mem_ints.1 (Pure.prefix_mem hpx)
    obtain ⟨xn, rfl⟩ : ∃ xn : Nat, x = xn := ⟨x.toNat, by omega⟩
    have o0 := heap_cell hob (j := 0) rfl
    have HREC := Lib.hid hrec
    have HJ1 := Lib.hid hj
    have HVH := Lib.hid hvh
    have HVY := Lib.hid hvy
    have HOB := Lib.hid hob
    have HPX := Lib.hid hpx
    have HXB : Hid ((xn : Int) ≤ b) := Lib.hid (by omega)
    clear hrec hj hvh hvy hob hpx hx
    gi_wp2_with (refine ⟨trivial, ?_⟩; gi_at_call 74; refine (CallsIn.inRound l' (callsIn_wide.2 (upTo_any _ _))).mono ?_; rintro e w' ⟨rfl, rfl⟩)
    have hsz3 : W.heap.size + 2 ≤ V.heap.size := by have := (Array.getElem?_eq_some_iff.1 HREC.out).1; have := HSZ.out; omega
    have HSZ3 := Lib.hid hsz3
    clear hsz3 o0
    refine wpIn_loop_inner (F := Fence.wide.inRound l') (n := m + 3) rfl (heap_up HREC.out _) (by omega) (gf := 93) (lb := #[.pointer (some ⟨V.heap.size, 0, none⟩)]) rfl trivial (enters_of Tryz.func93 (by kernel_rfl) rfl)
      ((upTo_runs0 (m + 1) V.heap.size xn (by have := HXB.out; omega) (V.alloc (.cells #[.int .i64 xn] 3)) (by simp) (cell_top _ _ _ rfl)).inRound l') (Below.refl _ _) (fun _ => rfl)
      (fun pre2 V' => (J (pre.flatMap Pure.rowOf ++ pre2.map (fun a => ((xn : Int), a))) V' ∧ V'.heap[Bh]? = some (.cells #[.int .i64 b, .int .i64 lo, .int .i64 hi, setsV T C] 82) ∧ V'.heap[W.heap.size]? = some (.cells #[.func (.yield l) #[] #[]] 139) ∧ V'.heap[ob]? = some (.cells #[.int .i64 xn] 3)) ∧ KeepsFrom w1.heap.size V V')
      (fun c pre2 V' => (c = .ret ∧ ∃ q, q <+: Pure.rulesL b ∧ Jx q V') ∧ KeepsFrom w1.heap.size V V')
      (OwnFrom.and (OwnFrom.and (fun s A B row hs hg hr => OwnFrom.up HJ.out (by have := HSZ3.out; simp; omega) _ A B row hs hg hr) (OwnFrom.and cells_own (OwnFrom.and cells_own cells_own))) (ownFrom_keepsFrom (by simp)))
      (fun c => OwnFrom.and (fun s A B row hs hg hr => by obtain ⟨hc, q, hq, hx⟩ := hs; exact ⟨hc, q, hq, OwnFrom.up HJX.out (by have := HSZ3.out; simp; omega) _ A B row hx hg hr⟩) (ownFrom_keepsFrom (by simp)))
      ⟨⟨by simpa using HJ.out.alloc _ HJ1.out, heap_up HVH.out _, heap_up HVY.out _, heap_up HOB.out _⟩, KeepsFrom.of_grownBy (World.grownBy_alloc V _ none) (fun j e => by cases e)⟩
      (fun y a' _ => a' = { tmps := #[.func (.yield l) #[] #[], .pointer (some ⟨Bh, 0, none⟩), .pointer (some ⟨W.heap.size, 0, none⟩), .pointer (some ⟨ob, 0, none⟩), .int .i64 y, .pointer (some ⟨Bh, 0, none⟩), .pointer (some ⟨Bh, 0, none⟩), .int .i64 b, .func (.func 93) #[] #[.pointer (some ⟨W.heap.size + 1, 0, none⟩)], .int .i64 xn, .int .i64 xn, .func (.func 93) #[] #[.pointer (some ⟨V.heap.size, 0, none⟩)], .int .i64 y, undef, undef, undef, undef, undef, undef], defers := [] })
      (fun _ _ _ _ _ _ hs _ _ => hs) ?assign2 ?body2 ?done2 ?stop2
    case assign2 =>
      intro l2 pre2 y V' K hi hK
      gi_wp2
      exact hK _ _ (KeepsFrom.refl _ _) hi rfl
    case body2 =>
      rintro l2 pre2 y a' V' hl2 hrec2 ⟨⟨hj2, hvh2, hvy2, hob2⟩, hk2⟩ rfl hpy
      have hy := Pure.mem_ints.1 (Pure.prefix_mem hpy)
      have hpref := Pure.flat_prefix HPX.out (x := (xn : Int)) (pre2 := pre2) (y := y) (by rw [Int.toNat_natCast]; exact hpy)
      obtain ⟨fn, tmps, assign, body, hyy, hR⟩ := yield_inRound l2 (yield_inRound l' (yield_deep rfl (m + 3 - 1 - 1 - 1) (HY.out _ ((xn : Int), y) V' hpref hj2)))
      dsimp only [encRule] at hyy
      have y0 := heap_cell hvy2 (j := 0) rfl
      have o0 := heap_cell hob2 (j := 0) rfl
      have HVH2 := Lib.hid hvh2
      have HVY2 := Lib.hid hvy2
      have HOB2 := Lib.hid hob2
      have HK2 := Lib.hid hk2
      have HPR := Lib.hid hpref
      clear hj2 hvh2 hvy2 hob2 hk2 hpref hpy hy
      gi_wp2
      refine hR.mono ?_
      rintro e V3 (⟨rfl, hj3, hk3⟩ | ⟨rfl, hj3, hk3⟩)
      · have HJ3 := Lib.hid hj3
        have HK3 := Lib.hid hk3
        clear hj3 hk3
        gi_wp2
        refine ⟨⟨HK3.out.size, fun k u hk hu hc => HK3.out.new k u (by have := HSZ3.out; simp at hk; have := HS2.out; omega) hc hu⟩, ⟨by rw [List.map_append, ← List.append_assoc]; exact HJ3.out, HK3.out.cells _ _ hR1 hR2 rfl HVH2.out, HK3.out.cells _ _ (by have := HS2.out; omega) (by have := HS2.out; omega) rfl HVY2.out, HK3.out.cells _ _ (by have := HS2.out; have := HOL.out; omega) (by have := HS2.out; have := HOL.out; omega) rfl HOB2.out⟩,
          HK2.out.trans ⟨HK3.out.size, fun k u hk hu hc => HK3.out.new k u (by have := HSZ.out; have := HS2.out; omega) hc hu⟩⟩
      · have HJ3 := Lib.hid hj3
        have HK3 := Lib.hid hk3
        clear hj3 hk3
        gi_wp2
        refine ⟨⟨HK3.out.size, fun k u hk hu hc => HK3.out.new k u (by have := HSZ3.out; simp at hk; have := HS2.out; omega) hc hu⟩, ⟨rfl, _, HPR.out, HJ3.out⟩,
          HK2.out.trans ⟨HK3.out.size, fun k u hk hu hc => HK3.out.new k u (by have := HSZ.out; have := HS2.out; omega) hc hu⟩⟩
    case done2 =>
      rintro V' ⟨⟨hj2, hvh2, hvy2, hob2⟩, hk2⟩
      refine ⟨hk2, trivial, ?_, hvh2, hvy2⟩
      rw [Pure.flat_snoc]
      have h := hj2
      unfold Pure.rowOf
      rw [Int.toNat_natCast]
      exact h
    case stop2 =>
      rintro c pre2 V' hpre ⟨⟨rfl, hq⟩, hk2⟩
      gi_wp2
      exact ⟨hk2, trivial, rfl, hq⟩
  case done =>
    rintro D V hD ⟨hj, _⟩ hK
    gi_wp2
    refine ⟨by simp, .inl ⟨_, _, rfl, run_takeDeferred hK, ?_⟩⟩
    exact ⟨_, results_none rfl _ _ _, ⟨_, rfl⟩, .inl (HJ.out.putObj _ hj (by have := HSZ.out; omega) hK rfl)⟩
  case stop =>
    rintro D c pre V hD hpre ⟨rfl, q, hq, hx⟩ hK
    gi_wp2
    refine ⟨by simp, .inl ⟨_, _, rfl, run_takeDeferred hK, ?_⟩⟩
    exact ⟨_, results_none rfl _ _ _, ⟨_, rfl⟩, .inr ⟨q, hq, HJX.out.putObj _ hx (by have := HSZ.out; omega) hK rfl⟩⟩

end Go.Proofs.YtjegkkpdemoldaaGreatDoor
