/-
  copy, the builtin, by its run; and what is inside at first.
-/
import Derived.Test.YtjemcmehgkhhlaaCWork
import Derived.Lib.AppendZerosOnto
import Derived.Lib.Overlaps
import Derived.Deep.RegionLaw
namespace Go.Proofs.Ytjemcmehgkhhlaa
open Go.RowKit

theorem run_copy_rows {P : Program} (w : World) (dT sT ty elem : TypeId) (k b o dLen dCap : Nat) (a : Addr) (sLen sCap n : Nat) (cs : List Value)
    (hu : P.underlying dT = some (.slice elem)) (hs : (P.info? elem).map (·.size) = some k) (hn : n = Nat.min sLen dLen) (hl : cs.length = n * k)
    (hsrc : ∀ j v, cs[j]? = some v → w.cell? (a.add j) = some v) (hc : ∀ j, j < cs.length → (w.cell? ⟨b, o + j, none⟩).isSome = true) (hf : ∀ j, j < cs.length → w.frozen? ⟨b, o + j, none⟩ = false) (h1 : ∀ v ∈ cs, v.oneCell' = true) :
    (Builtin.copy_ #[dT, sT] ty #[.slice (some ⟨b, o, none⟩) dLen dCap, .slice (some a) sLen sCap]).run P w = .ok (goInt n) (w.setCells b o cs) := by
  have hld := run_loadCells_list (P := P) w a cs hsrc
  have hst := run_storeCells_cells (P := P) b o cs 0 w (by simpa using hc) (by simpa using hf) h1
  cases hq : P.info? elem with
  | none => simp [hq] at hs
  | some i =>
    have hi : i.size = k := by simpa [hq] using hs
    rw [hl] at hld
    simp [Builtin.copy_, run_underlying hu, Builtin.lenOf, Builtin.firstCells, sizeOf, typeInfo, hq, hi, ← hn, hld, hst]

/-- THE OPERATION 'copy(d, s)' for the walk, where its run is known by an equation. -/
theorem wpList_copy_eq {P : Program} (w : World) {ops : Array Oper} {rest : List Oper} {o : Oper} {a : Act} {Q : Exit → Act → World → Prop} (hgd : o.guard = none) (d s : Operand) (t t' : TypeId)
    (ho : o.op = .call { callee := .builtin .copy, args := #[d, s], argTypes := #[t, t'] }) (v u : Value) (hd : a.eval d = v) (hs : a.eval s = u) {v' : Value} {w' : World}
    (hr : (Builtin.copy_ #[t, t'] o.type #[v, u]).run P w = .ok v' w') (h : wpList P ops Q rest (a.put o.dst v') w') : wpList P ops Q (o :: rest) a w :=
  wpList_plain hgd fun K hK => by
    unfold Oper.wp execOp
    simp only [ho, resolve, invoke, builtin, Sem.run_bind, Sem.run_pure, Result.andThen_ok, List.map_toArray, List.map_cons, List.map_nil, hd, hs, hr]
    exact hK _ _ h
theorem step_copy_eq {P : Program} {ops : Array Oper} {o : Oper} {a : Act} {w : World} {K : Act → World → Prop} {Q : Exit → Act → World → Prop} {E : Prop}
    (hg : o.guard = none) (d x : Operand) (dT sT : TypeId) (hop : o.op = Op.call { callee := Callee.builtin Builtin.copy, args := #[d, x], argTypes := #[dT, sT] })
    (v u : Value) (hd : a.eval d = v) (hx : a.eval x = u) {v' : Value} {w' : World} (hr : (Builtin.copy_ #[dT, sT] o.type #[v, u]).run P w = .ok v' w') (hK : K (a.put o.dst v') w') :
    if Region.wanted o (yielded ops a.tmps) = true then Oper.wp P o a w K Q else E := by
  have hw : Region.wanted o (yielded ops a.tmps) = true := by simp [Region.wanted, hg]
  rw [if_pos hw]
  unfold Oper.wp
  simp [execOp, hop, resolve, invoke, builtin, hd, hx, hr, Result.andThen]
  exact hK


/-- What is inside cans. -/
def startS (k : Int) (m : Nat) (B : Nat → Int) : Nat → Int := fun q => if q = 0 then k else if q ≤ m then B (q - 1) else 0
theorem ins_congr {S T : Nat → Int} (h : ∀ q, q < 4 → S q = T q) : insB S = insB T := by
  simp only [insB, h 0 (by omega), h 1 (by omega), h 2 (by omega), h 3 (by omega)]
theorem insV_congr {S T : Nat → Int} (h : ∀ q, q < 4 → S q = T q) : insV S = insV T := by
  simp only [insV, h 0 (by omega), h 1 (by omega), h 2 (by omega), h 3 (by omega)]
theorem ins_cell {w : World} {b : Nat} {S : Nat → Int} (h : w.heap[b]? = some (insB S)) {q : Nat} (hq : q < 4) : w.cell? ⟨b, q, none⟩ = some (.int .i64 (S q)) := by
  have h4 : q = 0 ∨ q = 1 ∨ q = 2 ∨ q = 3 := by omega
  rcases h4 with rfl | rfl | rfl | rfl <;> exact heap_cell h rfl
theorem ins_set {w : World} {b : Nat} {S : Nat → Int} (h : w.heap[b]? = some (insB S)) {q : Nat} (hq : q < 4) (v : Int) : (w.setCell ⟨b, q, none⟩ (.int .i64 v)).heap[b]? = some (insB (fun j => if j = q then v else S j)) := by
  have h4 : q = 0 ∨ q = 1 ∨ q = 2 ∨ q = 3 := by omega
  rcases h4 with rfl | rfl | rfl | rfl <;> exact (heap_set h _ _).trans (by simp [insB])
theorem ins_setCells {w : World} {b : Nat} {S : Nat → Int} (h : w.heap[b]? = some (insB S)) {m : Nat} (hm : m ≤ 3) (B : Nat → Int) : (w.setCells b 1 (numsCells m B)).heap[b]? = some (insB (fun q => if q = 0 then S 0 else if q ≤ m then B (q - 1) else S q)) := by
  have h4 : m = 0 ∨ m = 1 ∨ m = 2 ∨ m = 3 := by omega
  rcases h4 with rfl | rfl | rfl | rfl
  · exact h.trans (by simp [insB])
  · exact (heap_set h 1 _).trans (by simp [insB])
  · exact (heap_set (heap_set h 1 _) 2 _).trans (by simp [insB])
  · exact (heap_set (heap_set (heap_set h 1 _) 2 _) 3 _).trans (by simp [insB])

set_option maxHeartbeats 4000000 in
set_option maxRecDepth 100000 in
theorem now_any (Bn : Nat) (a : Option Addr) (n c : Nat) (b : Option Addr) (m d : Nat) (k : Int) (l : Option Addr) (ln lc : Nat) (B : Nat → Int) (h1 : 1 ≤ m) (hm : m ≤ 3) (w : World) (hX : w.heap[Bn]? = some (benchB a n c b m d k l ln lc)) (hB : NumsAt w b m B) :
    Calls Try.prog 19 #[.pointer (some ⟨Bn, 0, none⟩)] w fun e w' => e = .returned (insV (startS k m B)) ∧ Below w.heap.size w w' := by
  obtain ⟨W, hW⟩ : ∃ W, w.alloc (insB (fun _ => 0)) = W := ⟨_, rfl⟩
  have HB : Hid (Below w.heap.size w W) := Lib.hid (by rw [← hW]; exact below_new _ _)
  have HR : Hid (W.heap[w.heap.size]? = some (insB (fun _ => 0))) := Lib.hid (by rw [← hW]; exact heap_top _ _ rfl)
  have HX := Lib.hid (heap_lft hX HB.out)
  have HN := Lib.hid (hB.below HB.out)
  clear hX hB
  have x2 := heap_cell HX.out (j := 2) rfl
  go_enter Try.func19, Try.ntmps19
  go_upto_region 1 with fail
  try rw [hW]
  clear hW
  go_upto_region 2 with fail
  obtain ⟨V, hV⟩ : ∃ V, W.alloc (insB (fun q => if q = 0 then k else 0)) = V := ⟨_, rfl⟩
  have hbv : Below W.heap.size W V := by rw [← hV]; exact below_new _ _
  have HV : Hid (V.heap[W.heap.size]? = some (insB (fun q => if q = 0 then k else 0))) := Lib.hid (by rw [← hV]; exact heap_top _ _ rfl)
  have HXV := Lib.hid (heap_lft HX.out hbv)
  have HRV := Lib.hid (heap_lft HR.out hbv)
  have HNV := Lib.hid (HN.out.below hbv)
  have HBV := Lib.hid (below_thn HB.out hbv)
  have HSW : Hid (w.heap.size < W.heap.size) := Lib.hid (Array.getElem?_eq_some_iff.1 HR.out).1
  have HBW0 := Lib.hid hbv
  try rw [show W.alloc (.cells #[.int .i64 k, .int .i64 0, .int .i64 0, .int .i64 0] 51) = V from hV]
  clear hV hbv x2
  obtain ⟨gb, ob, rfl, _⟩ := HNV.out 0 (by omega)
  have x1 := heap_cell HXV.out (j := 1) rfl
  obtain ⟨i0, hi0, hz0, hz1, hz2⟩ := infoInt
  have hi3 : (Try.prog.info? 3).map (·.size) = some 1 := by rw [hi0]; simp [hz1]
  have hcp : ∀ ty dc, (Builtin.copy_ #[22, 22] ty #[.slice (some ⟨W.heap.size, 1, none⟩) 3 dc, .slice (some ⟨gb, ob, none⟩) m d]).run Try.prog V.drew = .ok (goInt (m : Int)) (V.drew.setCells W.heap.size 1 (numsCells (m * 1) B)) := fun ty dc =>
    run_copy_rows V.drew _ _ ty 3 1 W.heap.size 1 3 dc ⟨gb, ob, none⟩ m d m _ Try.underlying22 hi3 (by simp only [Nat.min_def]; split <;> omega) (numsCells_length _ _)
      (fun j v hj => by
        obtain ⟨h1, rfl⟩ := numsCells_at hj
        rw [Go.WideShapes.add_plain]
        exact (HNV.out.below (Below.refl _ _).drew).at (by omega))
      (fun j hj => by rw [numsCells_length] at hj; rw [ins_cell (w := V.drew) HV.out (show 1 + j < 4 by omega)]; rfl) (fun j _ => heap_frozen (W := V.drew) HV.out _)
      (fun v hv => by
        obtain ⟨j, hj⟩ := List.getElem?_of_mem hv
        obtain ⟨_, rfl⟩ := numsCells_at hj
        rfl)
  rw [Nat.mul_one] at hcp
  obtain ⟨Z, hZ⟩ : ∃ Z, V.drew.setCells W.heap.size 1 (numsCells m B) = Z := ⟨_, rfl⟩
  have HZ : Hid (Z.heap[W.heap.size]? = some (insB (startS k m B))) := Lib.hid (by
    rw [← hZ]
    refine (ins_setCells (w := V.drew) HV.out hm B).trans ?_
    exact congrArg some (ins_congr (fun q hq => by
      unfold startS
      by_cases h0 : q = 0
      · simp [h0]
      · simp [h0])))
  have HBZ0 : Hid (Below W.heap.size W Z) := Lib.hid (by rw [← hZ]; exact below_setCells _ (Nat.le_refl _) _ _ _ (HBW0.out.drew))
  rw [hZ] at hcp
  clear hZ hi3 hi0 hz0 hz1 hz2
  go_region_law (refine step_copy_eq rfl _ _ 22 22 rfl (.slice (some ⟨W.heap.size, 1, none⟩) 3 3) (.slice (some ⟨gb, ob, none⟩) m d) (by simp [Act.eval]) (by simp [Act.eval]) (hcp _ _) ?_)
  clear x1 hcp
  have HRZ := Lib.hid (heap_lft HR.out HBZ0.out)
  have HBZ := Lib.hid (below_thn HB.out HBZ0.out)
  have z0 := heap_cell HZ.out (j := 0) rfl
  have z1 := heap_cell HZ.out (j := 1) rfl
  have z2 := heap_cell HZ.out (j := 2) rfl
  have z3 := heap_cell HZ.out (j := 3) rfl
  have r0 := heap_cell HRZ.out (j := 0) rfl
  have r1 := heap_cell HRZ.out (j := 1) rfl
  have r2 := heap_cell HRZ.out (j := 2) rfl
  have r3 := heap_cell HRZ.out (j := 3) rfl
  have f0 := heap_frozen HRZ.out 0
  have f1 := heap_frozen HRZ.out 1
  have f2 := heap_frozen HRZ.out 2
  have f3 := heap_frozen HRZ.out 3
  go_wp2_with fail
  refine bodyPost_ret (v := insV (startS k m B)) (by simp [results, Try.results19, go_sem, r0, r1, r2, r3]; try rfl) rfl ⟨rfl, ?_⟩
  repeat (first | with_reducible exact HBZ.out | with_reducible refine Below.setCell ?_ (by first | (simp; done) | (dsimp only; omega)) _)
end Go.Proofs.Ytjemcmehgkhhlaa
