/-
  The iterator of teeth that meet, tooth by tooth.
-/
import Derived.Test.YtiiekecohmaipaaMEq
import Derived.Sort.LoopGhostIn
namespace Go.Proofs.Ytiiekecohmaipaa
open Go.RowKit
attribute [local go_sem] Oper.semAt_some

/-- What has come when all has come. -/
def CameM (a b : Nat) (ys : List Nat) : Prop := ∃ M, ys = List.range M ∧ 1 ≤ M ∧ M % a = 0 ∧ M % b = 0 ∧ ∀ n, 1 ≤ n → n < M → ¬ (n % a = 0 ∧ n % b = 0)
/-- The iterator's own boxes. -/
def ownM (o : Obj) : Prop := ∃ arr, o = .cells arr 43
/-- What comes next. -/
def NextM (a b : Nat) (pre : List Nat) (x : Nat) : Prop := pre = List.range x ∧ ∀ q, 1 ≤ q → q ≤ x → ¬ (q % a = 0 ∧ q % b = 0)
structure MeshAt (W : World) (Ba Bb a b : Nat) : Prop where
  w1 : W.heap[Ba]? = some (.cells #[.int .i64 (a : Int)] 3)
  w2 : W.heap[Bb]? = some (.cells #[.int .i64 (b : Int)] 3)
theorem MeshAt.below {W W' : World} {Ba Bb a b : Nat} (h : MeshAt W Ba Bb a b) (hb : Below W.heap.size W W') : MeshAt W' Ba Bb a b := ⟨heap_lft h.w1 hb, heap_lft h.w2 hb⟩
theorem KeptC.obj {Bad : Nat → Obj → Prop} {W W' : World} (h : KeptC Bad W W') {i : Nat} {arr : Array Value} {t : TypeId} (hb : Bad i (.cells arr t)) (hi : W.heap[i]? = some (.cells arr t)) : W'.heap[i]? = some (.cells arr t) := h.cells i _ hb hi rfl
namespace Pure
theorem tmod_next {x a : Nat} : Int.tmod ((x : Int) + 1) (a : Int) = (((x + 1) % a : Nat) : Int) := by
  rw [show (x : Int) + 1 = ((x + 1 : Nat) : Int) by omega, tmod_nat]
theorem next_mod (n a : Nat) : (n % a + 1) % a = (n + 1) % a := by simp [Nat.add_mod]
end Pure

set_option maxRecDepth 100000 in
set_option maxHeartbeats 4000000 in
theorem mesh1_in (N l : Nat) (Bad : Nat → Obj → Prop) (W : World) (Ba Bb a b : Nat) (hbad : ∀ i arr, Bad i (.cells arr 43)) (h1 : ∀ o, Bad Ba o) (h2 : ∀ o, Bad Bb o) (hp : MeshAt W Ba Bb a b) (ha : 6 ≤ a ∧ a ≤ 120) (hb : 6 ≤ b ∧ b ≤ 120)
    (J Jx : List Nat → World → Prop) (hJ : Stays ownM W.heap.size J) (h0 : J [] W)
    (hY : ∀ pre x V, J pre V → pre.length < a * b → NextM a b pre x → YieldAt Fence.wide N Try.prog l #[meshV ((x % a : Nat) : Int) ((x % b : Nat) : Int)] V fun e V' => (e = .returned (.bool true) ∧ J (pre ++ [x]) V' ∧ KeptC Bad V V') ∨ (e = .returned (.bool false) ∧ Jx (pre ++ [x]) V')) :
    CallsIn Fence.wide (N + 1) Try.prog 15 #[.func (.yield l) #[] #[], .pointer (some ⟨Ba, 0, none⟩), .pointer (some ⟨Bb, 0, none⟩)] W fun e V => (∃ v, e = .returned v) ∧
      ((∃ ys, CameM a b ys ∧ J ys V) ∨ (∃ pre, True ∧ Jx pre V)) := by
  refine callsIn_of_wp Try.func15 rfl trivial ?_ rfl
  simp only [Try.ntmps15, List.size_toArray, List.length_cons, List.length_nil, Nat.reduceAdd, Nat.reduceSub, Array.replicate_succ, Array.replicate_zero, List.push_toArray, List.append_toArray, List.nil_append, List.cons_append]
  obtain ⟨W1, hW1⟩ : ∃ W1, W.alloc (meshB 0 0) = W1 := ⟨_, rfl⟩
  obtain ⟨W2, hW2⟩ : ∃ W2, W1.alloc (meshB 0 0) = W2 := ⟨_, rfl⟩
  have hb1 : Below W.heap.size W W1 := by rw [← hW1]; exact below_new _ _
  have hs1 : W1.heap.size = W.heap.size + 1 := by rw [← hW1]; simp
  have hb12 : Below W1.heap.size W1 W2 := by rw [← hW2]; exact below_new _ _
  have hb2 : Below W.heap.size W W2 := hb1.trans (hb12.mono (by omega))
  have HS1 : Hid (W1.heap[W.heap.size]? = some (meshB 0 0)) := Lib.hid (by rw [← hW1]; exact heap_top _ _ rfl)
  have HS2 : Hid (W2.heap[W.heap.size]? = some (meshB 0 0)) := Lib.hid (heap_lft HS1.out hb12)
  have HT2 : Hid (W2.heap[W1.heap.size]? = some (meshB 0 0)) := Lib.hid (by rw [← hW2]; exact heap_top _ _ rfl)
  have HSZ1 : Hid (W.heap.size < W1.heap.size) := Lib.hid (by omega)
  have HW2 := Lib.hid hW2
  have HP := Lib.hid hp
  have HP2 := Lib.hid (hp.below hb2)
  have HJ2 := Lib.hid (hJ _ _ _ hb2 (Spared.of_below hb2) h0)
  have HBD := Lib.hid hbad
  have HJS := Lib.hid hJ
  have HY := Lib.hid hY
  have HN1 := Lib.hid (And.intro h1 h2)
  have HAB := Lib.hid (And.intro ha hb)
  have s0 := heap_cell HS1.out (j := 0) rfl
  have s1 := heap_cell HS1.out (j := 1) rfl
  clear hJ h0 hY hbad hb1 hb12 hb2 h1 h2 hp ha hb hW2 hs1
  gi_wp2_with fail
  rw [HW2.out]
  clear hW1 s0 s1
  gi_loopg [5, 6] (a * b + 1) (fun gk v5 v6 wr => ∃ (n B : Nat) (ag : Bool), gk = a * b + 1 - n ∧ v5 = .pointer (some ⟨B, 0, none⟩) ∧ v6 = .bool ag ∧ (ag = true ↔ 1 ≤ n ∧ n % a = 0 ∧ n % b = 0) ∧ (∀ q, 1 ≤ q → q < n → ¬ (q % a = 0 ∧ q % b = 0)) ∧ J (List.range n) wr ∧ wr.heap[B]? = some (meshB ((n % a : Nat) : Int) ((n % b : Nat) : Int)) ∧ wr.heap[W.heap.size]? = some (meshB 0 0) ∧ W.heap.size < B ∧ MeshAt wr Ba Bb a b)
  case atStart => exact ⟨0, W1.heap.size, false, by omega, rfl, rfl, by simp, fun q _ _ => by omega, HJ2.out, by simpa using HT2.out, HS2.out, HSZ1.out, HP2.out⟩
  case round =>
    obtain ⟨n, B, ag, rfl, rfl, rfl, hag, hmin, hj, ht, hs, hB, hm⟩ := hrel
    cases ag
    rotate_left
    · have hM := hag.1 rfl
      have HJr := Lib.hid hj
      have HMr := Lib.hid (And.intro hM hmin)
      clear hj hM hmin hag ht hs hB hm
      gi_wp2_with fail
      go_end0
      exact ⟨⟨_, rfl⟩, .inl ⟨_, ⟨n, rfl, HMr.out.1.1, HMr.out.1.2.1, HMr.out.1.2.2, HMr.out.2⟩, HJr.out⟩⟩
    · have hab : 1 ≤ a * b := Nat.mul_pos (by have := HAB.out; omega) (by have := HAB.out; omega)
      have hlt : n < a * b := by
        apply Decidable.byContradiction
        intro h
        by_cases e : n = a * b
        · subst e
          exact absurd (hag.2 ⟨hab, Nat.mul_mod_right a b, Nat.mul_mod_left a b⟩) (by decide)
        · exact hmin (a * b) hab (by omega) ⟨Nat.mul_mod_right a b, Nat.mul_mod_left a b⟩
      obtain ⟨fn, tmps, assign, body, hy, hR⟩ := HY.out _ n wr hj (by rw [List.length_range]; exact hlt) ⟨rfl, fun q g1 g2 g3 => by
        by_cases e : q = n
        · subst e
          exact absurd (hag.2 ⟨g1, g3.1, g3.2⟩) (by decide)
        · exact hmin q g1 (by omega) g3⟩
      have HAG := Lib.hid (And.intro hag hmin)
      have HLT := Lib.hid hlt
      have HT := Lib.hid ht
      have HS := Lib.hid hs
      have HM := Lib.hid hm
      have HBB := Lib.hid hB
      obtain ⟨x, hx⟩ : ∃ x, n % a = x := ⟨_, rfl⟩
      obtain ⟨y, hy2⟩ : ∃ y, n % b = y := ⟨_, rfl⟩
      rw [hx, hy2] at hy
      have HXY := Lib.hid (And.intro hx hy2)
      have y0 := heap_cell HT.out (j := 0) rfl
      have y1 := heap_cell HT.out (j := 1) rfl
      rw [hx] at y0
      rw [hy2] at y1
      clear hag hmin hlt hj ht hs hm hB hab hx hy2
      gi_wp2_with fail
      refine hR.mono ?_
      rintro e V (⟨rfl, hJ3, hK3⟩ | ⟨rfl, hJx3⟩)
      rotate_left
      · gi_wp2_with fail
        refine bodyPost_ret (results_none rfl _ _ _) rfl ?_
        exact ⟨⟨_, rfl⟩, .inr ⟨_, trivial, hJx3⟩⟩
      · have HTV := Lib.hid (hK3.obj (HBD.out _ _) HT.out)
        have HSV := Lib.hid (hK3.obj (HBD.out _ _) HS.out)
        have HMV : Hid (MeshAt V Ba Bb a b) := Lib.hid ⟨hK3.obj (HN1.out.1 _) HM.out.w1, hK3.obj (HN1.out.2 _) HM.out.w2⟩
        have HJV := Lib.hid hJ3
        clear y0 y1 hK3 hJ3 hy hR
        obtain ⟨rfl, rfl⟩ := HXY.out
        have hx1 : n % a < a := Nat.mod_lt _ (by have := HAB.out; omega)
        have hx2 : n % b < b := Nat.mod_lt _ (by have := HAB.out; omega)
        have hax := HAB.out
        have y0 := heap_cell HTV.out (j := 0) rfl
        have y1 := heap_cell HTV.out (j := 1) rfl
        have f0 := heap_frozen HTV.out 0
        have f1 := heap_frozen HTV.out 1
        have c0 := heap_cell HMV.out.w1 (j := 0) rfl
        have c1 := heap_cell HMV.out.w2 (j := 0) rfl
        gi_wp2_with fail
        have ha0 : ((a : Int) = 0) = False := by simp; omega
        have hb0 : ((b : Int) = 0) = False := by simp; omega
        have hw1 : IntKind.i64.wrap (((n % a : Nat) : Int) + 1) = ((n % a : Nat) : Int) + 1 := IntWalk.i64_in _ (by omega)
        have hw2 : IntKind.i64.wrap (((n % b : Nat) : Int) + 1) = ((n % b : Nat) : Int) + 1 := IntWalk.i64_in _ (by omega)
        gi_region
        obtain ⟨Z, hZ⟩ : ∃ Z, ((V.setCell ⟨B, 0, none⟩ (.int .i64 (((n : Int) + 1) % (a : Int)))).setCell ⟨B, 1, none⟩ (.int .i64 (((n : Int) + 1) % (b : Int)))).drew = Z := ⟨_, rfl⟩
        rw [hZ]
        have q1 : ((n : Int) + 1) % (a : Int) = (((n + 1) % a : Nat) : Int) := by push_cast; rfl
        have q2 : ((n : Int) + 1) % (b : Int) = (((n + 1) % b : Nat) : Int) := by push_cast; rfl
        rw [q1, q2] at hZ ⊢
        have hbz : Below (W.heap.size + 1) V Z := by
          rw [← hZ]
          exact (((Below.refl _ V).setCell HBB.out _).setCell HBB.out _).drew
        have HZB : Hid (Z.heap[B]? = some (meshB (((n + 1) % a : Nat) : Int) (((n + 1) % b : Nat) : Int))) := Lib.hid (by rw [← hZ]; exact heap_set (heap_set HTV.out 0 _) 1 _)
        have HZS : Hid (Z.heap[W.heap.size]? = some (meshB 0 0)) := Lib.hid ((hbz.block _ (by omega)).trans HSV.out)
        have HMZ : Hid (MeshAt Z Ba Bb a b) := Lib.hid ⟨(hbz.block _ (by have := (Array.getElem?_eq_some_iff.1 HP.out.w1).1; omega)).trans HMV.out.w1, (hbz.block _ (by have := (Array.getElem?_eq_some_iff.1 HP.out.w2).1; omega)).trans HMV.out.w2⟩
        have hsp : Spared ownM V Z := fun i o hi _ ho => by
          have hne : i ≠ B := fun e => by
            subst e
            rw [HTV.out] at hi
            cases hi
            exact ho ⟨_, rfl⟩
          rw [← hZ]
          exact (setCell_other hne).trans ((setCell_other hne).trans hi)
        have HJZ := Lib.hid (HJS.out _ _ _ (hbz.mono (by omega)) hsp HJV.out)
        have HSB : Hid (W.heap.size < Z.heap.size) := Lib.hid (Array.getElem?_eq_some_iff.1 HZS.out).1
        obtain ⟨X, hX⟩ : ∃ X, (n + 1) % a = X := ⟨_, rfl⟩
        obtain ⟨Y, hY'⟩ : ∃ Y, (n + 1) % b = Y := ⟨_, rfl⟩
        rw [hX, hY'] at HZB
        rw [hX, hY']
        have HXY2 := Lib.hid (And.intro hX hY')
        clear hZ q1 q2 hbz hsp hX hY' y0 y1 f0 f1 c0 c1 hw1 hw2 ha0 hb0 hax hx1 hx2 HTV HSV HMV HJV HT HS HM
        obtain ⟨U, hU⟩ : ∃ U, Z.alloc (meshB (X : Int) (Y : Int)) = U := ⟨_, rfl⟩
        have hbu : Below Z.heap.size Z U := by rw [← hU]; exact below_new _ _
        have HUB : Hid (U.heap[Z.heap.size]? = some (meshB (X : Int) (Y : Int))) := Lib.hid (by rw [← hU]; exact heap_top _ _ rfl)
        have HUS := Lib.hid (heap_lft HZS.out hbu)
        have HMU := Lib.hid (HMZ.out.below hbu)
        have HJU := Lib.hid (HJS.out _ _ _ (hbu.mono (by have := HSB.out; omega)) (Spared.of_below hbu) HJZ.out)
        have z0 := heap_cell HZB.out (j := 0) rfl
        have z1 := heap_cell HZB.out (j := 1) rfl
        have u0 := heap_cell HUB.out (j := 0) rfl
        have u1 := heap_cell HUB.out (j := 1) rfl
        have s0 := heap_cell HUS.out (j := 0) rfl
        have s1 := heap_cell HUS.out (j := 1) rfl
        have heq := eq_mesh (X : Int) (Y : Int) 0 0 U
        clear hbu
        gi_wp2_with fail
        gi_roundg (a * b + 1 - (n + 1))
        case measure => have := HLT.out; omega
        case rel =>
          refine ⟨n + 1, Z.heap.size, _, rfl, rfl, rfl, ?_, fun q g1 g2 g3 => ?_, by rw [List.range_succ]; exact HJU.out, ?_, HUS.out, HSB.out, HMU.out⟩
          · obtain ⟨rfl, rfl⟩ := HXY2.out
            simp
          · by_cases e : q = n
            · subst e
              exact absurd (HAG.out.1.2 ⟨g1, g3.1, g3.2⟩) (by decide)
            · exact HAG.out.2 q g1 (by omega) g3
          · rw [HXY2.out.1, HXY2.out.2]
            exact HUB.out

/-- The iterator of teeth that meet keeps the contract. -/
theorem mesh_seq (N : Nat) (Bad : Nat → Obj → Prop) (w : World) (Ba Bb a b : Nat) (hbad : ∀ i arr, Bad i (.cells arr 43)) (h1 : ∀ o, Bad Ba o) (h2 : ∀ o, Bad Bb o) (hp : MeshAt w Ba Bb a b) (ha : 6 ≤ a ∧ a ≤ 120) (hb : 6 ≤ b ∧ b ≤ 120) :
    SeqC (N + 1) Try.prog 15 #[.pointer (some ⟨Ba, 0, none⟩), .pointer (some ⟨Bb, 0, none⟩)] (fun n => #[meshV ((n % a : Nat) : Int) ((n % b : Nat) : Int)]) Bad ownM (CameM a b) (fun _ => True) (NextM a b) (a * b) w := fun l J Jx W hW hJ _ hY h0 =>
  mesh1_in N l Bad W Ba Bb a b hbad h1 h2 (hp.below hW) ha hb J Jx hJ h0 hY
theorem meetings_any (a b : Int) (w : World) :
    Calls Try.prog 10 #[.int .i64 a, .int .i64 b] w fun e w' =>
      e = .returned (.func (.func 15) #[] #[.pointer (some ⟨w.heap.size, 0, none⟩), .pointer (some ⟨w.heap.size + 1, 0, none⟩)]) ∧ w' = (w.alloc (.cells #[.int .i64 a] 3)).alloc (.cells #[.int .i64 b] 3) := by
  go_enter Try.func10, Try.ntmps10
  go_wp2
  go_ret
  exact ⟨rfl, rfl⟩
end Go.Proofs.Ytiiekecohmaipaa
