/-
  The contract of Strikes.
-/
import Derived.Test.YtiiekecohmaipaaMSort
import Derived.Test.YtiiekecohmaipaaCHeldIn
namespace Go.Proofs.Ytiiekecohmaipaa
open Go.RowKit
attribute [local go_sem] Oper.semAt_some

namespace Pure
def good (x y t : Int) : Bool := two x y && decide (0 ≤ t ∧ t ≤ x - 1)
/-- What Strikes tells. -/
def StrikesIs (x y t : Int) (L : List Int) (e : Int) : Prop := (good x y t = false ∧ L = [] ∧ e = 2) ∨ (good x y t = true ∧ e = 0 ∧ ∃ a b c N : Nat, x = a ∧ y = b ∧ t = c ∧ IsTurns a b N ∧ L = marks (hit a b c N) b)
theorem StrikesIs.same {x y t : Int} {L L' : List Int} {e e' : Int} (h : StrikesIs x y t L e) (g : StrikesIs x y t L' e') : L = L' ∧ e = e' := by
  rcases h with ⟨h1, rfl, rfl⟩ | ⟨h1, rfl, a, b, c, N, rfl, rfl, rfl, h2, rfl⟩
  · rcases g with ⟨_, rfl, rfl⟩ | ⟨g1, _⟩
    · exact ⟨rfl, rfl⟩
    · rw [h1] at g1; cases g1
  · rcases g with ⟨g1, _⟩ | ⟨_, rfl, a', b', c', N', ea, eb, ec, g2, rfl⟩
    · rw [h1] at g1; cases g1
    · obtain rfl : a = a' := by omega
      obtain rfl : b = b' := by omega
      obtain rfl : c = c' := by omega
      obtain rfl := h2.same g2
      exact ⟨rfl, rfl⟩
end Pure
/-- An append in a round whose run is known. -/
theorem round_append {n l : Nat} {P : Program} {w : World} {ops : Array Oper} {rest : List Oper} {o : Oper} {a : Act} {Q : Exit → Act → World → Prop} (hgd : o.guard = none) (s x : Operand) (t tn : TypeId)
    (ho : o.op = .call { callee := .builtin .append, args := #[s, x], argTypes := #[t, tn] }) {vs vx v' : Value} {w' : World} (hs : a.eval s = vs) (hx : a.eval x = vx)
    (hr : (Builtin.append_ #[t, tn] o.type #[vs, vx]).run P w = .ok v' w') (h : wpListIn (Fence.wide.inRound l) n P ops Q rest (a.put o.dst v') w') : wpListIn (Fence.wide.inRound l) n P ops Q (o :: rest) a w :=
  wpListIn_plain hgd fun K hK => by
    unfold Oper.wpIn
    refine ⟨fun _ _ => trivial, ?_⟩
    rw [show (Fence.wide.inRound l).round = some l from rfl, Oper.semAt_some l _ _ (fun c e => by rw [ho] at e; cases e), exec_append s x t tn ho hs hx hr]
    exact hK _ _ h
theorem nums_typed {w : World} {base : Nat} {t : TypeId} {k : Nat} {a : Option Addr} {len cap : Nat} {F : Nat → Int} (h : OwnNums w base t k a len cap F) (y : Addr) (hy : a = some y) : ∃ cu, w.heap[y.block]? = some (.cells cu t) ∧ base ≤ y.block := by
  obtain ⟨_, ⟨h1, _⟩ | ⟨g', cap', cur, he, hbase, hg, _⟩⟩ := h
  · simp only [Value.slice.injEq] at h1
    rw [hy] at h1
    cases h1.1
  · simp only [Value.slice.injEq] at he
    rw [hy] at he
    cases he.1
    exact ⟨cur, hg, hbase⟩
/-- What stands behind so many meetings. -/
structure StI (w : World) (Bs base a b c n : Nat) (W : World) : Prop where
  box : ∃ sa cap, W.heap[Bs]? = some (.cells #[.slice sa (Pure.st a b c n).length cap] 27) ∧ OwnNums W base 3 1 sa (Pure.st a b c n).length cap (fun j => (Pure.st a b c n).getD j 0)
  t : W.heap[w.heap.size]? = some (.cells #[.int .i64 (c : Int)] 3)
  b : Below w.heap.size w W
theorem StI.stays {w : World} {Bs base a b c n : Nat} {W W' : World} (hB : Bs < base) (hw : w.heap.size < base) (hb : Below base W W') (hs : Spared ownM W W') (h : StI w Bs base a b c n W) : StI w Bs base a b c n W' := by
  obtain ⟨⟨sa, cap, h1, h2⟩, h3, h4⟩ := h
  refine ⟨⟨sa, cap, (hb.block _ hB).trans h1, h2.kept fun x hx => ?_⟩, (hb.block _ hw).trans h3, h4.trans (hb.mono (by omega))⟩
  obtain ⟨cu, hc, _⟩ := nums_typed h2 x hx
  rw [hc]
  exact hs _ _ hc rfl (fun ⟨arr, e⟩ => by simp only [Obj.cells.injEq] at e; exact absurd e.2.1 (by decide))
def StrikesOut (x y t : Int) (w : World) (e : Ending) (w' : World) : Prop := ∃ a cap L er, e = .returned (.tuple #[.slice a L.length cap, .int .i64 er]) ∧ Pure.StrikesIs x y t L er ∧ L.length ≤ 200 ∧ NumsAt w' a L.length (fun j => L.getD j 0) ∧ Below w.heap.size w w'
theorem nums_none (w : World) (F : Nat → Int) : NumsAt w none 0 F := fun j hj => absurd hj (Nat.not_lt_zero j)

set_option maxRecDepth 100000 in
set_option maxHeartbeats 4000000 in
theorem strikes_any (x y t : Int) (w : World) :
    Calls Try.prog 6 #[.int .i64 x, .int .i64 y, .int .i64 t] w (StrikesOut x y t w) := by
  refine (callsIn_wide (n := 5)).1 ?_
  refine callsIn_of_wp_marks Try.func6 rfl trivial ?_ rfl
  simp only [Try.ntmps6, List.size_toArray, List.length_cons, List.length_nil, Nat.reduceAdd, Nat.reduceSub, Array.replicate_succ, Array.replicate_zero, List.push_toArray, List.append_toArray, List.nil_append, List.cons_append]
  obtain ⟨W, hW⟩ : ∃ W, w.alloc (.cells #[.int .i64 t] 3) = W := ⟨_, rfl⟩
  have HB : Hid (Below w.heap.size w W) := Lib.hid (by rw [← hW]; exact below_new _ _)
  have HT : Hid (W.heap[w.heap.size]? = some (.cells #[.int .i64 t] 3)) := Lib.hid (by rw [← hW]; exact heap_top _ _ rfl)
  gi_wp2_with fail
  clear hW
  refine ⟨trivial, (callsIn_wide.2 (toothed_any _ 2 2 _ (by omega) _ nums_two)).mono ?_⟩
  rw [Pure.two_span]
  rintro e W1 ⟨rfl, hb⟩
  have hb1 := below_thn (below_new W (.cells #[.int .i64 x, .int .i64 y] 3)) (hb.mono (by simp))
  have HB1 := Lib.hid (below_thn HB.out hb1)
  have HT1 := Lib.hid (heap_lft HT.out hb1)
  clear hb hb1
  by_cases ht : Pure.two x y = true
  rotate_left
  · have hf : Pure.two x y = false := by simpa using ht
    rw [hf]
    clear ht
    gi_wp2_with fail
    refine ⟨trivial, ?_⟩
    gi_wp2_with fail
    refine ⟨.tuple #[.slice none 0 0, .int .i64 2], ?_, ?_⟩
    · simp [results, Try.f6, go_sem]
    · exact ⟨none, 0, [], 2, rfl, .inl ⟨by simp [Pure.good, hf], rfl, rfl⟩, by simp, nums_none _ _, HB1.out⟩
  · rw [ht]
    have ht2 := ht
    unfold Pure.two at ht2
    simp only [decide_eq_true_eq] at ht2
    obtain ⟨a, rfl⟩ : ∃ a : Nat, x = a := ⟨x.toNat, by omega⟩
    obtain ⟨b, rfl⟩ : ∃ b : Nat, y = b := ⟨y.toNat, by omega⟩
    have ha : 6 ≤ a ∧ a ≤ 120 := by omega
    have hb : 6 ≤ b ∧ b ≤ 120 := by omega
    have hw1 : IntKind.i64.wrap ((a : Int) - 1) = (a : Int) - 1 := IntWalk.i64_in _ (by omega)
    have HTW := Lib.hid ht
    have HAB := Lib.hid (And.intro ha hb)
    have c0 := heap_cell HT1.out (j := 0) rfl
    clear ht ht2 ha hb
    gi_wp2_with fail
    obtain ⟨r, hr⟩ : ∃ r, decide (0 ≤ t ∧ t ≤ (a : Int) - 1) = r := ⟨_, rfl⟩
    refine ⟨trivial, (callsIn_wide.2 (within1 0 ((a : Int) - 1) t _ 1 _ (first_cell _ _ _ (by simp)) r hr)).mono ?_⟩
    rintro e U ⟨rfl, rfl⟩
    have hb2 : Below W1.heap.size W1 ((W1.alloc (.cells #[.int .i64 t] 3)).alloc (spanB 0 ((a : Int) - 1))) := (below_new _ _).alloc (by simp) _
    obtain ⟨W2, hW2⟩ : ∃ W2, (W1.alloc (.cells #[.int .i64 t] 3)).alloc (spanB 0 ((a : Int) - 1)) = W2 := ⟨_, rfl⟩
    rw [hW2] at hb2 ⊢
    have HB2 := Lib.hid (below_thn HB1.out hb2)
    have HT2 := Lib.hid (heap_lft HT1.out hb2)
    have HR := Lib.hid hr
    clear hb2 hW2 c0 hw1 hr
    cases r
    · gi_wp2_with fail
      refine ⟨.tuple #[.slice none 0 0, .int .i64 2], ?_, ?_⟩
      · simp [results, Try.f6, go_sem]
      · exact ⟨none, 0, [], 2, rfl, .inl ⟨by rw [Pure.good, HTW.out, HR.out]; rfl, rfl, rfl⟩, by simp, nums_none _ _, HB2.out⟩
    · have hr := of_decide_eq_true HR.out
      obtain ⟨c, rfl⟩ : ∃ c : Nat, t = c := ⟨t.toNat, by omega⟩
      have HGD : Hid (Pure.good (a : Int) (b : Int) (c : Int) = true) := Lib.hid (by rw [Pure.good, HTW.out, HR.out]; rfl)
      have HCA : Hid (c < a) := Lib.hid (by omega)
      clear hr
      gi_wp2_with fail
      refine ⟨trivial, (callsIn_wide.2 (meetings_any _ _ _)).mono ?_⟩
      rintro e W3 ⟨rfl, hW3⟩
      gi_wp2_with fail
      obtain ⟨V, hV⟩ : ∃ V, ((W2.alloc (.cells #[.slice none 0 0] 27)).alloc (.cells #[.int .i64 (a : Int)] 3)).alloc (.cells #[.int .i64 (b : Int)] 3) = V := ⟨_, rfl⟩
      have hbv : Below W2.heap.size W2 V := by rw [← hV]; exact ((below_new _ _).alloc (by simp) _).alloc (by simp; omega) _
      have hvs : V.heap.size = W2.heap.size + 3 := by rw [← hV]; simp
      have hc : V.heap[W2.heap.size]? = some (.cells #[.slice none 0 0] 27) := by rw [← hV]; exact heap_up (heap_up (heap_top _ _ rfl) _) _
      have hm : MeshAt V (W2.heap.size + 1) (W2.heap.size + 1 + 1) a b := ⟨by rw [← hV]; exact heap_up (heap_top _ _ (by simp)) _, by rw [← hV]; exact heap_top _ _ (by simp)⟩
      rw [hV]
      have hsw : w.heap.size < W2.heap.size := (Array.getElem?_eq_some_iff.1 HT2.out).1
      have HI0 : Hid (StI w W2.heap.size V.heap.size a b c 0 V) := Lib.hid ⟨⟨none, 0, hc, own_nil _ _ _ _ _⟩, heap_lft HT2.out hbv, below_thn HB2.out hbv⟩
      have HVS := Lib.hid hvs
      have HM := Lib.hid hm
      have HSW := Lib.hid hsw
      clear hV hbv hvs hc hm hsw hW3 W3
      have hst : ∀ (n : Nat) (A B : World), Below V.heap.size A B → Spared ownM A B → StI w W2.heap.size V.heap.size a b c n A → StI w W2.heap.size V.heap.size a b c n B := fun n A B hb hs h => h.stays (by have := HVS.out; omega) (by have := HVS.out; have := HSW.out; omega) hb hs
      have HST := Lib.hid hst
      clear hst
      refine wp_range_state (n := 5) (by omega) (gf := 15) (lb := #[.pointer (some ⟨W2.heap.size + 1, 0, none⟩), .pointer (some ⟨W2.heap.size + 1 + 1, 0, none⟩)]) rfl (enters_of Try.func15 (by kernel_rfl) rfl)
        (mesh_seq 3 (keepM (W2.heap.size + 1) (W2.heap.size + 1 + 1)) V (W2.heap.size + 1) (W2.heap.size + 1 + 1) a b (fun i arr => .inl ⟨arr, rfl⟩) (fun _ => .inr (.inl rfl)) (fun _ => .inr (.inr rfl)) HM.out HAB.out.1 HAB.out.2) (Below.refl _ _) (fun _ => rfl)
        (fun (pre : List Nat) (W : World) => StI w W2.heap.size V.heap.size a b c pre.length W) (fun _ _ _ => False)
        (fun s A B hb hs h => HST.out _ A B hb hs h) (fun _ _ _ _ _ _ h => h) HI0.out
        (fun x a' W' => ∃ Bx, W'.heap[Bx]? = some (meshB ((x % a : Nat) : Int) ((x % b : Nat) : Int)) ∧ (V.heap.size ≤ Bx ∧ a' = { tmps := #[.int .i64 a, .int .i64 b, .int .i64 c, undef, undef, .pointer (some ⟨w.heap.size, 0, none⟩), .slice none 0 0, .int .i64 0, .pointer (some ⟨W2.heap.size, 0, none⟩), .pointer (some ⟨Bx, 0, none⟩), .int .i64 a, .int .i64 b, .slice (some ⟨W.heap.size, 0, none⟩) 2 2, .bool true, .bool false, .bool false, .int .i64 a, .int .i64 ((a : Int) - 1), .agg #[.int .i64 0, .int .i64 ((a : Int) - 1)], .int .i64 c, .slice (some ⟨W1.heap.size, 0, none⟩) 1 1, .bool true, .bool false, .bool false, .int .i64 a, .int .i64 b, .func (.func 15) #[] #[.pointer (some ⟨W2.heap.size + 1, 0, none⟩), .pointer (some ⟨W2.heap.size + 1 + 1, 0, none⟩)], meshV ((x % a : Nat) : Int) ((x % b : Nat) : Int), undef, undef, undef, undef, undef, undef, undef, undef, undef, undef, undef, undef], defers := [] })) ?hAx ?assign ?body ?done ?stop
      case hAx =>
        intro x a' s X Y row hs hg hr
        obtain ⟨Bx, h, h2⟩ := hs
        refine ⟨Bx, (hg.block Bx (Array.getElem?_eq_some_iff.1 h).1 (fun e => ?_)).trans h, h2⟩
        obtain ⟨_, u, hu, hc⟩ := hr Bx e.symm
        rw [h] at hu
        cases hu
        cases hc
      case assign =>
        intro l pre x W' K hi hsz hK
        gi_wp2
        have hb := below_new W' (meshB ((x % a : Nat) : Int) ((x % b : Nat) : Int))
        exact hK _ _ (KeptR.of_below hb) (HST.out _ _ _ (hb.mono hsz) (Spared.of_below hb) hi) ⟨W'.heap.size, heap_top W' (meshB ((x % a : Nat) : Int) ((x % b : Nat) : Int)) rfl, hsz, rfl⟩
      case body =>
        rintro l pre x a' W' hsz hi ⟨Bx, hx, hBx, rfl⟩ hlt ⟨rfl, hmin⟩
        rw [List.length_range] at hi hlt
        obtain ⟨⟨sa, cap, hbx, hos⟩, htt, hbw⟩ := hi
        have HMIN := Lib.hid hmin
        have HBX := Lib.hid hbx
        have HOS := Lib.hid hos
        have HTT := Lib.hid htt
        have HBW := Lib.hid hbw
        have HSZ := Lib.hid hsz
        have HXX := Lib.hid hx
        have c0 := heap_cell HXX.out (j := 0) rfl
        have c1 := heap_cell HXX.out (j := 1) rfl
        have t0 := heap_cell HTT.out (j := 0) rfl
        clear hmin hbx hos htt hbw hsz hx hlt
        by_cases hq : x % a = c
        rotate_left
        · have hq1 : ¬ (((x % a : Nat) : Int) = (c : Int)) := by omega
          gi_wp2_with fail
          have he : Pure.st a b c (List.range x ++ [x]).length = Pure.st a b c x := by
            rw [List.length_append, List.length_range, List.length_singleton, Pure.st_succ, if_neg hq, List.append_nil]
          refine ⟨KeptR.refl _ _, ⟨⟨sa, cap, ?_, ?_⟩, HTT.out, HBW.out⟩⟩
          · rw [he]; exact HBX.out
          · rw [he]; exact HOS.out
        · have hlen : (Pure.st a b c x).length ≤ b := Pure.st_len (by have := HAB.out; omega) (fun q g1 g2 => HMIN.out q g1 (by omega))
          have hlen2 : (Pure.st a b c x).length ≤ 200 := by have := HAB.out; omega
          obtain ⟨Y, hY⟩ : ∃ Y, W'.alloc (.cells #[.int .i64 ((x % b : Nat) : Int)] 3) = Y := ⟨_, rfl⟩
          have hby : Below W'.heap.size W' Y := by rw [← hY]; exact below_new _ _
          have hone : NumsAt Y (some ⟨W'.heap.size, 0, none⟩) 1 (fun _ => ((x % b : Nat) : Int)) := by rw [← hY]; exact nums_one (first_cell _ _ _ rfl)
          obtain ⟨i0, hi, hz0, hz1, hz2⟩ := infoInt
          obtain ⟨sa', cap', Z, hr, hol, hal, hbe, _⟩ := app_own Y V.heap.size 3 27 27 1 8 i0 _ Try.underlying27 hi hz0 hz1 hz2 rfl (by decide) (by decide) (HOS.out.below hby) (some ⟨W'.heap.size, 0, none⟩) 1 1 (fun _ => ((x % b : Nat) : Int)) (by simpa using hone) (fun h => by cases h) hlen2 (by omega) (by have h1 := HSZ.out; have h2 := hby.size; omega)
          have hsa : ∀ y, sa = some y → ∃ cu, Y.heap[y.block]? = some (.cells cu 3) ∧ V.heap.size ≤ y.block := fun y hy => nums_typed (HOS.out.below hby) y hy
          have hbz : Z.heap[W2.heap.size]? = some (.cells #[.slice sa (Pure.st a b c x).length cap] 27) := (hal _ (by have h1 := HSZ.out; have h2 := hby.size; have := HVS.out; omega) (fun y hy e => by obtain ⟨_, _, h⟩ := hsa y hy; have := HVS.out; omega)).trans (heap_lft HBX.out hby)
          have htz : Z.heap[w.heap.size]? = some (.cells #[.int .i64 (c : Int)] 3) := (hal _ (by have h1 := HSZ.out; have h2 := hby.size; have := HVS.out; have := HSW.out; omega) (fun y hy e => by obtain ⟨_, _, h⟩ := hsa y hy; have := HVS.out; have := HSW.out; omega)).trans (heap_lft HTT.out hby)
          have HKP : Hid (KeptR (keepM (W2.heap.size + 1) (W2.heap.size + 1 + 1)) W' Z) := Lib.hid ((KeptR.of_below hby).trans (KeptR.alone hbe.size hal (fun y o hy ho => by
            obtain ⟨cu, h1, h2⟩ := hsa y hy
            exact keepM_other h1 (by decide) (by have := HVS.out; omega) (by have := HVS.out; omega) o ho)))
          have HBZ := Lib.hid hbz
          have HTZ := Lib.hid htz
          have HOZ := Lib.hid hol
          have HBB := Lib.hid ((HBW.out.trans (hby.mono (by have h1 := HSZ.out; have := HVS.out; have := HSW.out; omega))).trans (hbe.mono (by have := HVS.out; have := HSW.out; omega)))
          rw [← hY] at hr
          have HAR := Lib.hid hr
          have s0 := heap_cell HBX.out (j := 0) rfl
          have z0 := heap_cell HBZ.out (j := 0) rfl
          have g0 := heap_frozen HBZ.out 0
          have hq1 : (((x % a : Nat) : Int) = (c : Int)) := by omega
          clear hlen hlen2 hY hby hone hi hz0 hz1 hz2 hr hol hal hbe hsa hbz htz
          gi_wp2_with (gi_at_builtin; refine round_append rfl _ _ _ _ rfl rfl rfl HAR.out ?_)
          have he : Pure.st a b c (List.range x ++ [x]).length = Pure.st a b c x ++ [((x % b : Nat) : Int)] := by
            rw [List.length_append, List.length_range, List.length_singleton, Pure.st_succ, if_pos hq]
          have hel : (Pure.st a b c (List.range x ++ [x]).length).length = (Pure.st a b c x).length + 1 := by rw [he, List.length_append, List.length_singleton]
          refine ⟨HKP.out.trans (KeptR.set _ (keepM_other HBZ.out (by decide) (by dsimp only; omega) (by dsimp only; omega)) _), ⟨⟨sa', cap', ?_, ?_⟩, (setCell_other (by have := HSW.out; dsimp only; omega)).trans HTZ.out, HBB.out.setCell (by have := HSW.out; dsimp only; omega) _⟩⟩
          · rw [hel]
            exact heap_set HBZ.out 0 _
          · rw [hel, he]
            refine (HOZ.out.congr (G := fun j => (Pure.st a b c x ++ [((x % b : Nat) : Int)]).getD j 0) (fun q hq => ?_)).kept (fun y hy => ?_)
            · unfold joinF
              by_cases h : q < (Pure.st a b c x).length
              · rw [if_pos (by omega)]
                simp [List.getD, List.getElem?_append_left h]
              · obtain rfl : q = (Pure.st a b c x).length := by omega
                rw [if_neg (by omega)]
                simp [List.getD]
            · obtain ⟨cu, h1, h2⟩ := nums_typed HOZ.out y hy
              exact setCell_other (by have := HVS.out; dsimp only; omega)
      case done =>
        rintro D ys U hD ⟨M, rfl, h1, h2, h3, h4⟩ hi hK
        obtain ⟨hN, hM⟩ := Pure.turns_of (by have := HAB.out; omega) h1 h2 h3 h4
        rw [List.length_range] at hi
        obtain ⟨⟨sa, cap, hbx, hos⟩, htt, hbw⟩ := hi
        have hlen : (Pure.st a b c M).length ≤ 200 := by have h := Pure.st_len (a := a) (t := c) (n := M) (show 1 ≤ b by have := HAB.out; omega) h4; have := HAB.out; omega
        have hcM : c < M := by
          have h5 := Nat.mul_le_mul_right a hN.1
          have := HCA.out
          omega
        have hpos : 0 < (Pure.st a b c M).length := List.length_pos_of_mem (Pure.mem_st.2 ⟨c, hcM, Nat.mod_eq_of_lt HCA.out, rfl⟩)
        have hsort := Pure.strikes_eq (a := a) (b := b) (M := M) (N := M / a) (t := c) (by have := HAB.out; omega) HCA.out hM h4 (p := Pure.hit a b c (M / a)) (fun x _ => Pure.hit_iff)
        obtain ⟨L, hL⟩ : ∃ L, Pure.st a b c M = L := ⟨_, rfl⟩
        rw [hL] at hbx hos hlen hpos hsort
        have HL := Lib.hid (And.intro hlen hpos)
        have HSO := Lib.hid hsort
        have HN := Lib.hid hN
        have HBX := Lib.hid hbx
        have HOS := Lib.hid hos
        have HBW := Lib.hid hbw
        have HD := Lib.hid hD
        have HK := Lib.hid hK
        have HVU : Hid (V.heap.size ≤ U.heap.size) := Lib.hid (Nat.le_of_lt (Nat.lt_of_le_of_lt hD (Array.getElem?_eq_some_iff.1 hK).1))
        have s0 := heap_cell HBX.out (j := 0) rfl
        clear h1 h2 h3 h4 hN hM hbx hos htt hbw hlen hcM hpos hsort hD hK hL
        gi_wp2_with fail
        refine ⟨trivial, (callsIn_wide.2 (sort_any U V.heap.size sa cap L HOS.out HL.out.2 (by have := HL.out; omega) HVU.out)).mono ?_⟩
        rintro e U2 ⟨rfl, ho2, hb2, hal⟩
        have hbx2 : U2.heap[W2.heap.size]? = some (.cells #[.slice sa L.length cap] 27) := (hb2.block _ (by have := HVS.out; omega)).trans HBX.out
        have hk2 : U2.heap[D]? = some (.deferred (some [])) := (hal _ (Array.getElem?_eq_some_iff.1 HK.out).1 (fun y hy e => by
          obtain ⟨cu, h1, _⟩ := nums_typed HOS.out y hy
          have h2 := HK.out
          rw [e, h1] at h2
          cases h2)).trans HK.out
        have hbw2 : Below w.heap.size w U2 := HBW.out.trans (hb2.mono (by have := HVS.out; have := HSW.out; omega))
        have HO2 := Lib.hid ho2
        have HK2 := Lib.hid hk2
        have HBW2 := Lib.hid hbw2
        have HBX2 := Lib.hid hbx2
        have s1 := heap_cell HBX2.out (j := 0) rfl
        clear s0 ho2 hb2 hal hbx2 hk2 hbw2
        gi_wp2_with fail
        refine ⟨by simp, .inl ⟨_, _, rfl, run_takeDeferred HK2.out, ?_⟩⟩
        have hml : (Pure.marks (Pure.hit a b c (M / a)) b).length = L.length := by rw [← HSO.out, List.length_mergeSort]
        refine ⟨.tuple #[.slice sa L.length cap, .int .i64 0], ?_, ?_⟩
        · simp [results, Try.f6, go_sem]
        · have hkp : OwnNums (U2.putObj D (.deferred none)) V.heap.size 3 1 sa L.length cap (fun j => (L.mergeSort fun x y => decide (x ≤ y)).getD j 0) := HO2.out.kept (fun y hy => World.putObj_heap_other (fun e => by
            obtain ⟨cu, h1, _⟩ := nums_typed HO2.out y hy
            have h2 := HK2.out
            rw [← e, h1] at h2
            cases h2))
          refine ⟨sa, cap, Pure.marks (Pure.hit a b c (M / a)) b, 0, by rw [hml], .inr ⟨HGD.out, rfl, a, b, c, M / a, rfl, rfl, rfl, HN.out, rfl⟩, by rw [hml]; exact HL.out.1, ?_, HBW2.out.trans ((below_put U2 (Nat.le_refl D) (.deferred none)).mono (by have h1 := HD.out; have h2 := HVS.out; have h3 := HSW.out; omega))⟩
          rw [hml, ← HSO.out]
          simpa using hkp.nums
      case stop =>
        rintro D c pre W hD hS h hK
        exact h.elim
end Go.Proofs.Ytiiekecohmaipaa
