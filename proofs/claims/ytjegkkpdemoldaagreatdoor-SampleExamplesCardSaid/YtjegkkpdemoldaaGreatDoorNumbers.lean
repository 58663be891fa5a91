/-
  The iterator numbers: the numbers of dirty bags that can be after a draw, in increasing order.
-/
import Derived.Test.YtjegkkpdemoldaaGreatDoorUpTo
namespace Go.Proofs.YtjegkkpdemoldaaGreatDoor
open Go.RowKit Go.Shelf
attribute [local go_sem] Oper.semAt_some

theorem yield_deep {F : Fence} (hd : F.depth = none) {m : Nat} (m' : Nat) {P : Program} {l : Nat} {args : Array Value} {W : World} {R : Ending → World → Prop} (h : YieldAt F m P l args W R) : YieldAt F m' P l args W R := by
  obtain ⟨fn, tmps, assign, body, hy, hR⟩ := h
  exact ⟨fn, tmps, assign, body, hy, ⟨hR.1, fun c cs _ => hR.2 c cs (fun d h => by rw [hd] at h; cases h)⟩⟩
theorem yield_inRound {F : Fence} {m : Nat} {P : Program} {l : Nat} {args : Array Value} {W : World} {R : Ending → World → Prop} (l' : Nat) (h : YieldAt F m P l args W R) : YieldAt (F.inRound l') m P l args W R := h

/-- What a round may not change in what is new: records of loops, and boxes of functions. -/
def Shut (o : Obj) : Prop := o.isCells = false ∨ ∃ arr, o = .cells arr 137

/-- What a round over numbers keeps: the counter, the two boxes that the iterator captured, and from block n on records of loops, and boxes of functions. -/
structure KeepNum (n M T C Bh Bd : Nat) (A B : World) : Prop where
  size : A.heap.size ≤ B.heap.size
  cnt : Cnt A M T C → Cnt B M T C
  hold : B.heap[Bh]? = A.heap[Bh]?
  draw : B.heap[Bd]? = A.heap[Bd]?
  new : ∀ (k : Nat) (o : Obj), n ≤ k → A.heap[k]? = some o → Shut o → B.heap[k]? = some o

theorem KeepNum.trans {n M T C Bh Bd : Nat} {A B D : World} (h : KeepNum n M T C Bh Bd A B) (k : KeepNum n M T C Bh Bd B D) : KeepNum n M T C Bh Bd A D :=
  ⟨Nat.le_trans h.size k.size, fun c => k.cnt (h.cnt c), k.hold.trans h.hold, k.draw.trans h.draw, fun i o hi ho hq => k.new i o hi (h.new i o hi ho hq) hq⟩

theorem cell_obj {W : World} {a : Addr} {v : Value} (h : W.cell? a = some v) : ∃ o : Obj, W.heap[a.block]? = some o ∧ o.isCells = true := by
  unfold World.cell? at h
  cases ho : W.heap[a.block]? with
  | none => simp [ho] at h
  | some o => exact ⟨o, rfl, by cases o <;> simp_all [Obj.isCells]⟩
theorem cell_putObj {W : World} {l : Nat} {o o' : Obj} (ho : W.heap[l]? = some o) (hc : o.isCells = false) {a : Addr} {v : Value} (h : W.cell? a = some v) : (W.putObj l o').cell? a = some v := by
  obtain ⟨o2, h2, h3⟩ := cell_obj h
  have hne : a.block ≠ l := fun e => by rw [e, ho] at h2; cases h2; rw [hc] at h3; cases h3
  unfold World.cell? at h ⊢
  rw [World.putObj_heap_other hne]
  exact h
theorem Cnt.putObj {W : World} {M T C l : Nat} {o : Obj} (o' : Obj) (h : Cnt W M T C) (ho : W.heap[l]? = some o) (hc : o.isCells = false) (hw : o.isWalk = false) : Cnt (W.putObj l o') M T C where
  told := cell_putObj ho hc h.told
  self := cell_putObj ho hc h.self
  memo := h.memo.kept (World.putObj_heap_other (fun e => by
    obtain ⟨es, clock, hb, _⟩ := h.memo
    rw [e, ho] at hb
    cases hb
    cases hw))
theorem KeepNum.put {n M T C Bh Bd : Nat} {W : World} {l : Nat} {o : Obj} (o' : Obj) (hl : l < n) (hh : Bh ≠ l) (hd : Bd ≠ l) (ho : W.heap[l]? = some o) (hc : o.isCells = false) (hw : o.isWalk = false) : KeepNum n M T C Bh Bd W (W.putObj l o') :=
  ⟨by simp [World.putObj], fun c => c.putObj o' ho hc hw, World.putObj_heap_other hh, World.putObj_heap_other hd, fun k u hk hu _ => (World.putObj_heap_other (by omega)).trans hu⟩

theorem heap_own {β : Type} {B k : Nat} {o : Obj} (hk : k < B) : OwnFrom B (fun (_ : β) V => V.heap[k]? = some o) := fun _ A D row hs hg hr =>
  (hg.block k (Array.getElem?_eq_some_iff.1 hs).1 (fun e => by have := (hr k e.symm).1; omega)).trans hs
theorem cnt_own {β : Type} {B M T C : Nat} (hM : M < B) : OwnFrom B (fun (_ : β) V => Cnt V M T C) := fun _ A D row hs hg hr => by
  have hc : ∀ {a : Addr} {v : Value}, A.cell? a = some v → D.cell? a = some v := fun {a v} h => hg.cell h (fun e => by
    obtain ⟨o, ho, hoc⟩ := cell_obj h
    obtain ⟨o2, ho2, ho2c⟩ := (hr a.block e.symm).2
    rw [ho] at ho2
    cases ho2
    rw [hoc] at ho2c
    cases ho2c)
  exact ⟨hc hs.told, hc hs.self, hs.memo.kept (hg.block M hs.memo.lt (fun e => by have := (hr M e.symm).1; omega))⟩
theorem heap_cell {V : World} {k j : Nat} {arr : Array Value} {t : TypeId} {v : Value} (h : V.heap[k]? = some (.cells arr t)) (hv : arr[j]? = some v) : V.cell? ⟨k, j, none⟩ = some v := by
  unfold World.cell?
  simp only [h]
  exact hv

theorem numbers_any (b lo hi o f : Int) (T C : Nat) (w : World) : Calls Tryz.prog 48 #[holdV b lo hi T C, .agg #[.int .i64 o, .int .i64 f]] w fun e w' =>
    e = .returned (.func (.func 78) #[] #[.pointer (some ⟨w.heap.size, 0, none⟩), .pointer (some ⟨w.heap.size + 1, 0, none⟩)]) ∧
    w' = (w.alloc (.cells #[.int .i64 b, .int .i64 lo, .int .i64 hi, setsV T C] 82)).alloc (.cells #[.int .i64 o, .int .i64 f] 37) := by
  go_enter Tryz.func48, Tryz.ntmps48
  go_wp2_with fail
  go_ret
  exact ⟨rfl, rfl⟩

theorem filter_snoc {α : Type} (p : α → Bool) (l : List α) (x : α) : (l ++ [x]).filter p = l.filter p ++ (if p x then [x] else []) := by
  rw [List.filter_append]
  congr 1
  cases h : p x <;> simp [h]
theorem filter_prefix {α : Type} (p : α → Bool) {l m : List α} (h : l <+: m) : l.filter p <+: m.filter p := by
  obtain ⟨t, rfl⟩ := h
  rw [List.filter_append]
  exact List.prefix_append _ _

set_option maxRecDepth 100000 in
set_option maxHeartbeats 4000000 in
/-- **numbers' iterator**. -/
theorem numbers_runs (m b M T C Bh Bd : Nat) (lo hi o f : Int) (hb : b ≤ 36) (ho0 : 0 ≤ o) (ho : o ≤ 36) (hf0 : 0 ≤ f) (hf : f ≤ 36) (w : World) (hw : Cnt w M T C)
    (hh : w.heap[Bh]? = some (.cells #[.int .i64 b, .int .i64 lo, .int .i64 hi, setsV T C] 82)) (hd : w.heap[Bd]? = some (.cells #[.int .i64 o, .int .i64 f] 37)) :
    SeqRuns Fence.wide (m + 3) Tryz.prog 78 #[.pointer (some ⟨Bh, 0, none⟩), .pointer (some ⟨Bd, 0, none⟩)] (fun x : Int => #[Value.int .i64 x]) (KeepNum (w.heap.size + 2) M T C Bh Bd) (Step M) (Pure.nums b lo hi o f) w := fun l J Jx W hW hsz2 hJ hJx hT hY h0 => by
  have hhl : Bh < w.heap.size := (Array.getElem?_eq_some_iff.1 hh).1
  have hdl : Bd < w.heap.size := (Array.getElem?_eq_some_iff.1 hd).1
  have hh' : W.heap[Bh]? = some (.cells #[.int .i64 b, .int .i64 lo, .int .i64 hi, setsV T C] 82) := (hW.block Bh hhl).trans hh
  have hd' : W.heap[Bd]? = some (.cells #[.int .i64 o, .int .i64 f] 37) := (hW.block Bd hdl).trans hd
  have HCW : Hid (Cnt W M T C) := Lib.hid ⟨(hW.cell (p := ⟨T, 0, none⟩) (World.block_lt_of_cell? w _ hw.told)).trans hw.told, (hW.cell (p := ⟨C, 0, none⟩) (World.block_lt_of_cell? w _ hw.self)).trans hw.self, hw.memo.kept (hW.block M hw.memo.lt)⟩
  have hm0 := heap_cell hh' (j := 0) rfl
  have HH := Lib.hid hh'
  have HD := Lib.hid hd'
  have HHL := Lib.hid hhl
  have HDL := Lib.hid hdl
  have HML := Lib.hid hw.memo.lt
  have HJ := Lib.hid hJ
  have HJX := Lib.hid hJx
  have HT := Lib.hid hT
  have HY := Lib.hid hY
  have H0 := Lib.hid h0
  have HS2 := Lib.hid hsz2
  clear hh hd hw hh' hd' hhl hdl hJ hJx hT hY h0 hW hsz2
  refine callsIn_of_wp_marks Tryz.func78 rfl trivial ?_ rfl
  simp only [Tryz.ntmps78, List.size_toArray, List.length_cons, List.length_nil, Nat.reduceAdd, Nat.reduceSub, Array.replicate_succ, Array.replicate_zero, List.push_toArray, List.append_toArray, List.nil_append, List.cons_append]
  have hm1 := cell_up hm0 (.cells #[.func (.yield l) #[] #[]] 137)
  gi_wp2_with (refine ⟨trivial, ?_⟩; gi_at_call 74; refine (callsIn_wide.2 (upTo_any _ _)).mono ?_; rintro e w' ⟨rfl, rfl⟩)
  obtain ⟨w1, hw1⟩ : ∃ w1, (W.alloc (.cells #[.func (.yield l) #[] #[]] 137)).alloc (.cells #[.int .i64 b] 3) = w1 := ⟨_, rfl⟩
  have hsz : w1.heap.size = W.heap.size + 2 := by rw [← hw1]; simp
  have hj1 : J [] w1 := by rw [← hw1]; exact HJ.out.alloc _ (HJ.out.alloc _ H0.out)
  have hB1 : Below W.heap.size W w1 := by rw [← hw1]; exact ((Below.refl _ _).alloc (Nat.le_refl _) _).alloc (by simp) _
  have hc1 : Cnt w1 M T C := by rw [← hw1]; exact (HCW.out.alloc _).alloc _
  have hy1 : w1.heap[W.heap.size]? = some (.cells #[.func (.yield l) #[] #[]] 137) := by
    rw [← hw1]; exact (Below.heap_alloc _ _ _ (by simp)).trans (World.alloc_heap_new W _)
  have hn1 : w1.cell? ⟨W.heap.size + 1, 0, none⟩ = some (.int .i64 b) := by rw [← hw1]; exact cell_top _ _ _ (by simp)
  have hh1 := (hB1.block Bh (by have := HHL.out; have := HS2.out; omega)).trans HH.out
  have hd1 := (hB1.block Bd (by have := HDL.out; have := HS2.out; omega)).trans HD.out
  rw [hw1]
  have HSZ := Lib.hid hsz
  clear hsz hw1 hm0 hm1
  refine wpIn_loop_runs (n := m + 3) rfl (by omega) (gf := 93) (lb := #[.pointer (some ⟨W.heap.size + 1, 0, none⟩)]) rfl trivial (enters_of Tryz.func93 (by kernel_rfl) rfl)
    (upTo_runs (m + 1) (W.heap.size + 1) b (by omega) w1 (by have := HSZ.out; omega) hn1) (Below.refl _ _) (fun _ => rfl) (fun _ _ => trivial) (fun _ _ _ _ _ _ => trivial) (fun _ _ h => h.elim)
    (fun pre V => J (pre.filter (Pure.okCan b lo hi o f)) V ∧ Cnt V M T C ∧ V.heap[Bh]? = some (.cells #[.int .i64 b, .int .i64 lo, .int .i64 hi, setsV T C] 82) ∧ V.heap[Bd]? = some (.cells #[.int .i64 o, .int .i64 f] 37) ∧ V.heap[W.heap.size]? = some (.cells #[.func (.yield l) #[] #[]] 137))
    (fun c pre V => c = .ret ∧ ∃ q, q <+: Pure.nums b lo hi o f ∧ Jx q V)
    (OwnFrom.and (fun s A B row hs hg hr => OwnFrom.up HJ.out (by have := HSZ.out; omega) _ A B row hs hg hr) (OwnFrom.and (cnt_own (by have := HML.out; have := HS2.out; have := HSZ.out; omega)) (OwnFrom.and (heap_own (by have := HHL.out; have := HS2.out; have := HSZ.out; omega)) (OwnFrom.and (heap_own (by have := HDL.out; have := HS2.out; have := HSZ.out; omega)) (heap_own (by have := HSZ.out; omega))))))
    (fun c s A B row hs hg hr => by obtain ⟨hc, q, hq, hx⟩ := hs; exact ⟨hc, q, hq, OwnFrom.up HJX.out (by have := HSZ.out; omega) _ A B row hx hg hr⟩)
    (fun _ _ _ _ h => h.elim) ⟨hj1, hc1, hh1, hd1, hy1⟩
    (fun x a' _ => a' = { tmps := #[.func (.yield l) #[] #[], .pointer (some ⟨Bh, 0, none⟩), .pointer (some ⟨Bd, 0, none⟩), .pointer (some ⟨W.heap.size, 0, none⟩), .int .i64 x, .pointer (some ⟨Bh, 0, none⟩), .pointer (some ⟨Bh, 0, none⟩), .int .i64 b, .func (.func 93) #[] #[.pointer (some ⟨W.heap.size + 1, 0, none⟩)], .int .i64 x, undef, undef, undef, undef, undef, undef, undef, undef, undef, undef], defers := [] })
    (fun _ _ _ _ _ _ hs _ _ => hs) ?assign ?body ?done ?stop
  case assign =>
    intro l' pre x V K hi hK
    gi_wp2
    exact hK _ _ (KeepsFrom.refl _ _) trivial hi rfl
  case body =>
    rintro l' pre x a' V _ _ ⟨hj, hc, hvh, hvd, hvy⟩ rfl hpx
    have hx := Pure.mem_ints.1 (Pure.prefix_mem hpx)
    have e0 := heap_cell hvh (j := 0) rfl
    have e1 := heap_cell hvh (j := 1) rfl
    have e2 := heap_cell hvh (j := 2) rfl
    have e3 := heap_cell hvh (j := 3) rfl
    have g0 := heap_cell hvd (j := 0) rfl
    have g1 := heap_cell hvd (j := 1) rfl
    have HCALL := Lib.hid (can_any b lo hi x o f (by omega) (by omega) hx.1 (by omega) ho0 ho hf0 hf V hc)
    have HJ1 := Lib.hid hj
    have HVH := Lib.hid hvh
    have HVD := Lib.hid hvd
    have HVY := Lib.hid hvy
    have HC := Lib.hid hc
    have HPX := Lib.hid hpx
    have HX := Lib.hid hx
    clear hj hc hvh hvd hvy hpx hx
    cases hr : Pure.okCan b lo hi o f x
    · have HR := Lib.hid hr
      rw [hr] at HCALL
      clear hr
      gi_wp2_with (refine ⟨trivial, ?_⟩; gi_at_call 79; refine (CallsIn.inRound l' (callsIn_wide.2 HCALL.out)).mono ?_; rintro e V1 ⟨rfl, hs⟩)
      refine ⟨fun _ h => (by cases h), ?_⟩
      gi_wp2
      have hne : ∀ {k : Nat} {q : Obj}, V.heap[k]? = some q → q.isCells = true → V1.heap[k]? = some q := fun {k q} hk hq => (hs.grown.block k (Array.getElem?_eq_some_iff.1 hk).1 (fun e => by
        cases e
        obtain ⟨u, hu, hu2⟩ := memo_obj HC.out.memo
        rw [hk] at hu
        cases hu
        rw [hq] at hu2
        cases hu2)).trans hk
      exact ⟨hs.keeps (by have := HML.out; have := HS2.out; have := HSZ.out; omega), trivial, by rw [filter_snoc, HR.out]; simpa using HT.out _ _ _ HJ1.out hs, HC.out.step hs, hne HVH.out rfl, hne HVD.out rfl, hne HVY.out rfl⟩
    · have HR := Lib.hid hr
      rw [hr] at HCALL
      clear hr
      have hpf : pre.filter (Pure.okCan b lo hi o f) ++ [x] <+: Pure.nums b lo hi o f := by
        have h := filter_prefix (Pure.okCan b lo hi o f) HPX.out
        rw [filter_snoc, HR.out] at h
        unfold Pure.nums
        simpa using h
      have HPF := Lib.hid hpf
      clear hpf
      gi_wp2_with (refine ⟨trivial, ?_⟩; gi_at_call 79; refine (CallsIn.inRound l' (callsIn_wide.2 HCALL.out)).mono ?_; rintro e V1 ⟨rfl, hs⟩; have y0 := hs.cell (heap_cell HVY.out (j := 0) rfl) (cell_not_map HC.out.memo (heap_cell HVY.out (j := 0) rfl)); obtain ⟨fn, tmps, assign, body, hy, hR⟩ := yield_inRound l' (yield_deep rfl (m + 3 - 1 - 1 - 1) (HY.out _ x V1 HPF.out (HT.out _ _ _ HJ1.out hs))); have HSS := Lib.hid hs; clear hs)
      have hnn : ∀ (k : Nat) (q : Obj), V.heap[k]? = some q → q.isCells = true → V1.heap[k]? = some q := fun k q hk hq => (HSS.out.grown.block k (Array.getElem?_eq_some_iff.1 hk).1 (fun e => by
        cases e
        obtain ⟨u, hu, hu2⟩ := memo_obj HC.out.memo
        rw [hk] at hu
        cases hu
        rw [hq] at hu2
        cases hu2)).trans hk
      have HNN := Lib.hid hnn
      clear hnn
      refine hR.mono ?_
      rintro e V2 (⟨rfl, hJ2, hk2⟩ | ⟨rfl, hJ2, hk2⟩)
      · have HJ2 := Lib.hid hJ2
        have HK2 := Lib.hid hk2
        clear hJ2 hk2
        gi_wp2
        exact ⟨(HSS.out.keeps (by have := HML.out; have := HS2.out; have := HSZ.out; omega)).trans ⟨HK2.out.size, fun k u hk hu hq => HK2.out.new k u (by have := HS2.out; have := HSZ.out; omega) hu (.inl hq)⟩, trivial,
          by rw [filter_snoc, HR.out]; exact HJ2.out, HK2.out.cnt (HC.out.step HSS.out), HK2.out.hold.trans (HNN.out _ _ HVH.out rfl), HK2.out.draw.trans (HNN.out _ _ HVD.out rfl), HK2.out.new _ _ HS2.out (HNN.out _ _ HVY.out rfl) (.inr ⟨_, rfl⟩)⟩
      · have HJ2 := Lib.hid hJ2
        have HK2 := Lib.hid hk2
        clear hJ2 hk2
        gi_wp2
        exact ⟨(HSS.out.keeps (by have := HML.out; have := HS2.out; have := HSZ.out; omega)).trans ⟨HK2.out.size, fun k u hk hu hq => HK2.out.new k u (by have := HS2.out; have := HSZ.out; omega) hu (.inl hq)⟩, trivial, rfl, _, HPF.out, HJ2.out⟩
  case done =>
    rintro D V hD ⟨hj, _⟩ hK
    gi_wp2
    refine ⟨by simp, .inl ⟨_, _, rfl, run_takeDeferred hK, ?_⟩⟩
    exact ⟨_, results_none rfl _ _ _, ⟨_, rfl⟩, .inl (HJ.out.putObj _ hj (by have := HSZ.out; omega) hK rfl)⟩
  case stop =>
    rintro D c pre V hD hpre ⟨rfl, q, hq, hx⟩ hK
    gi_wp2
    refine ⟨by simp, .inl ⟨_, _, rfl, run_takeDeferred hK, ?_⟩⟩
    exact ⟨_, results_none rfl _ _ _, ⟨_, rfl⟩, .inr ⟨q, hq, HJX.out.putObj _ hx (by have := HSZ.out; omega) hK rfl⟩⟩

end Go.Proofs.YtjegkkpdemoldaaGreatDoor
