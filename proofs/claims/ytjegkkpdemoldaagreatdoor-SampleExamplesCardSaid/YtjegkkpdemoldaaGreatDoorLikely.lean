/-
  The contract of likely.
-/
import Derived.Test.YtjegkkpdemoldaaGreatDoorSpan
import Derived.Test.YtjegkkpdemoldaaGreatDoorReach
import Derived.Test.YtjegkkpdemoldaaGreatDoorUpTo
import Derived.Maps.OwnIn
import Derived.Deep.AppendLies
namespace Go.Proofs.YtjegkkpdemoldaaGreatDoor
open Go.RowKit Go.Shelf
attribute [local go_sem] Oper.semAt_some

theorem infoInt : (Tryz.prog.info? 3).map (fun i => (i.zero, i.size, i.bytes)) = some (some (.int .i64 0), 1, 8) := by kernel_rfl
theorem cell_one (w : World) (v : Value) (t : TypeId) {b : Nat} (hb : b = w.heap.size) (j : Nat) (u : Value) (h : [v][j]? = some u) : (w.alloc (.cells #[v] t)).cell? ((⟨b, 0, none⟩ : Addr).add j) = some u := by
  match j, h with
  | 0, h =>
    simp at h
    subst h
    exact cell_top w v t hb

theorem row_mono {W : World} {base base' size n : Nat} {e : TypeId} {v : Value} {xs : List Value} (h : W.ownsRow base e size v n xs) (hb : base' ≤ base) : W.ownsRow base' e size v n xs := by
  refine ⟨h.1, ?_⟩
  rcases h.2 with h2 | ⟨g, cap, cur, hv, hg, r⟩
  · exact .inl h2
  · exact .inr ⟨g, cap, cur, hv, Nat.le_trans hb hg, r⟩

namespace Pure
def likely (b : Nat) (lo hi o f : Int) : List Int := best (fun x => ways b x o f) (nums b lo hi o f)
theorem prefix_length {α : Type} {l m : List α} (h : l <+: m) : l.length ≤ m.length := h.length_le
theorem nums_length (b : Nat) (lo hi o f : Int) : (nums b lo hi o f).length ≤ b + 1 := by
  unfold nums
  exact Nat.le_trans (List.length_filter_le _ _) (by rw [ints_length]; omega)
end Pure

set_option maxRecDepth 100000 in
set_option maxHeartbeats 4000000 in
theorem likely_in (n b M T C : Nat) (lo hi o f : Int) (hb : b ≤ 36) (ho0 : 0 ≤ o) (ho : o ≤ 36) (hf0 : 0 ≤ f) (hf : f ≤ 36) (w : World) (hw : Cnt w M T C) :
    CallsIn Fence.wide (n + 5) Tryz.prog 42 #[holdV b lo hi T C, .agg #[.int .i64 o, .int .i64 f]] w fun e W' =>
      ∃ v, e = .returned v ∧ W'.ownsRow w.heap.size 3 1 v (Pure.likely b lo hi o f).length ((Pure.likely b lo hi o f).map (Value.int .i64)) ∧ Step M w W' := by
  have HW := Lib.hid hw
  have HL := Lib.hid hw.lt
  clear hw
  obtain ⟨i0, hi0, hz0, hz1, hz2⟩ := info_parts infoInt
  refine callsIn_of_wp_marks Tryz.func42 rfl trivial ?_ rfl
  simp only [Tryz.ntmps42, List.size_toArray, List.length_cons, List.length_nil, Nat.reduceAdd, Nat.reduceSub, Array.replicate_succ, Array.replicate_zero, List.push_toArray, List.append_toArray, List.nil_append, List.cons_append]
  gi_wp2_with (refine ⟨trivial, ?_⟩; gi_at_call 48; refine (callsIn_wide.2 (numbers_any b lo hi o f T C _)).mono ?_; rintro e w' ⟨rfl, rfl⟩)
  obtain ⟨W1, hW1⟩ : ∃ W1, (((((w.alloc (.cells #[.int .i64 b, .int .i64 lo, .int .i64 hi, setsV T C] 82)).alloc (.cells #[.int .i64 o, .int .i64 f] 37)).alloc (.cells #[.slice none 0 0] 39)).alloc (.cells #[.int .i64 0] 3)).alloc (.cells #[.int .i64 b, .int .i64 lo, .int .i64 hi, setsV T C] 82)).alloc (.cells #[.int .i64 o, .int .i64 f] 37) = W1 := ⟨_, rfl⟩
  have hsz : W1.heap.size = w.heap.size + 6 := by rw [← hW1]; simp
  have hS1 : Step M w W1 := by rw [← hW1]; exact ((((((Step.refl HW.out.memo).alloc _).alloc _).alloc _).alloc _).alloc _).alloc _
  have hh0 : W1.heap[w.heap.size]? = some (.cells #[.int .i64 b, .int .i64 lo, .int .i64 hi, setsV T C] 82) := by
    rw [← hW1]; exact heap_up (heap_up (heap_up (heap_up (heap_up (heap_top _ _ rfl) _) _) _) _) _
  have hd0 : W1.heap[w.heap.size + 1]? = some (.cells #[.int .i64 o, .int .i64 f] 37) := by
    rw [← hW1]; exact heap_up (heap_up (heap_up (heap_up (heap_top _ _ (by simp)) _) _) _) _
  have hl1 : W1.heap[w.heap.size + 1 + 1]? = some (.cells #[.slice none 0 0] 39) := by
    rw [← hW1]; exact heap_up (heap_up (heap_up (heap_top _ _ (by simp)) _) _) _
  have hm1 : W1.heap[w.heap.size + 1 + 1 + 1]? = some (.cells #[.int .i64 0] 3) := by
    rw [← hW1]; exact heap_up (heap_up (heap_top _ _ (by simp)) _) _
  have hh1 : W1.heap[w.heap.size + 1 + 1 + 1 + 1]? = some (.cells #[.int .i64 b, .int .i64 lo, .int .i64 hi, setsV T C] 82) := by
    rw [← hW1]; exact heap_up (heap_top _ _ (by simp)) _
  have hd1 : W1.heap[w.heap.size + 1 + 1 + 1 + 1 + 1]? = some (.cells #[.int .i64 o, .int .i64 f] 37) := by
    rw [← hW1]; exact heap_top _ _ (by simp)
  rw [hW1]
  have HSZ := Lib.hid hsz
  have HS1 := Lib.hid hS1
  clear hsz hW1 hS1
  obtain ⟨vf, hvf⟩ : ∃ vf : Int → Int, vf = fun x => Pure.ways b x o f := ⟨_, rfl⟩
  have HVF : Hid (∀ x, vf x = Pure.ways b x o f) := Lib.hid (fun x => by rw [hvf])
  have HLK : Hid (Pure.likely b lo hi o f = Pure.best vf (Pure.nums b lo hi o f)) := Lib.hid (by rw [hvf]; rfl)
  clear hvf
  refine wpIn_over_numbers (n + 1) (b := b) (M := M) (T := T) (C := C) (lo := lo) (hi := hi) (o := o) (f := f) hb ho0 (by omega) hf0 (by omega) (HW.out.step HS1.out) hh1 hd1 rfl rfl
    (fun pre V => ∃ v, V.heap[w.heap.size + 1 + 1]? = some (.cells #[v] 39) ∧ V.ownsRow W1.heap.size 3 1 v (Pure.best vf pre).length ((Pure.best vf pre).map (Value.int .i64)) ∧ V.heap[w.heap.size + 1 + 1 + 1]? = some (.cells #[.int .i64 (Pure.most vf pre)] 3) ∧
      V.heap[w.heap.size]? = some (.cells #[.int .i64 b, .int .i64 lo, .int .i64 hi, setsV T C] 82) ∧ V.heap[w.heap.size + 1]? = some (.cells #[.int .i64 o, .int .i64 f] 37) ∧ Step M w V)
    (fun s A D row hs hg hr => by
      obtain ⟨v, g1, g2, g3, g4, g5, g6⟩ := hs
      have hn : ∀ k, k < W1.heap.size → some k ≠ row := fun k hk e => by have := (hr k e.symm).1; omega
      have z := HSZ.out
      exact ⟨v, (hg.block _ (Array.getElem?_eq_some_iff.1 g1).1 (hn _ (by omega))).trans g1, row_own (β := Unit) () A D row g2 hg hr, (hg.block _ (Array.getElem?_eq_some_iff.1 g3).1 (hn _ (by omega))).trans g3,
        (hg.block _ (Array.getElem?_eq_some_iff.1 g4).1 (hn _ (by omega))).trans g4, (hg.block _ (Array.getElem?_eq_some_iff.1 g5).1 (hn _ (by omega))).trans g5, step_own (β := Unit) (by omega) HL.out.1 () A D row g6 hg hr⟩)
    (fun s A B hc hs hst => by
      obtain ⟨v, g1, g2, g3, g4, g5, g6⟩ := hs
      have z := HL.out
      exact ⟨v, hst.heap g1 (by omega), hst.row hc.memo g2, hst.heap g3 (by omega), hst.heap g4 (by omega), hst.heap g5 (by omega), g6.trans hst⟩)
    ⟨_, hl1, World.ownsRow_nil _ _ _ _, hm1, hh0, hd0, HS1.out⟩
    (fun x a' => a' = { tmps := #[holdV b lo hi T C, .agg #[.int .i64 o, .int .i64 f], .pointer (some ⟨w.heap.size, 0, none⟩), .pointer (some ⟨w.heap.size + 1, 0, none⟩), .slice none 0 0, .pointer (some ⟨w.heap.size + 1 + 1, 0, none⟩), .pointer (some ⟨w.heap.size + 1 + 1 + 1, 0, none⟩), .int .i64 x, undef,
      holdV b lo hi T C, .agg #[.int .i64 o, .int .i64 f],
      .func (.func 78) #[] #[.pointer (some ⟨w.heap.size + 1 + 1 + 1 + 1, 0, none⟩), .pointer (some ⟨w.heap.size + 1 + 1 + 1 + 1 + 1, 0, none⟩)], .int .i64 x, undef, undef, undef, undef, undef, undef, undef, undef, undef, undef, undef, undef, undef, undef, undef, undef], defers := [] })
    ?assign ?body ?done
  case assign =>
    intro l x W K hK
    gi_wp2
    rfl
  case body =>
    rintro l pre x a' V hl hpx rfl hc hbh hbd ⟨v, hv, hown, hm, hh, hd, hst⟩
    have HBH := Lib.hid hbh
    have HBD := Lib.hid hbd
    have hxm := Pure.mem_nums.1 (Pure.prefix_mem hpx)
    have HLEN : Hid ((Pure.best vf pre).length ≤ 37) := Lib.hid (by
      have h1 := Pure.best_length vf pre
      have h2 := Pure.prefix_length hpx
      have h3 := Pure.nums_length b lo hi o f
      simp at h2
      omega)
    have hx0 := hxm.1.1
    have hx1 := hxm.1.2
    have HCALL := Lib.hid (ways_any b lo hi x o f (by omega) (by omega) (by omega) (by omega) (by omega) ho0 ho hf0 hf V hc)
    obtain ⟨wx, hwx⟩ : ∃ y, Pure.ways b x o f = y := ⟨_, rfl⟩
    have HX : Hid (vf x = wx) := Lib.hid (by rw [HVF.out, hwx])
    rw [hwx] at HCALL
    clear hbh hbd hxm hpx hwx
    have h0 := heap_cell hh (j := 0) rfl
    have h1 := heap_cell hh (j := 1) rfl
    have h2 := heap_cell hh (j := 2) rfl
    have h3 := heap_cell hh (j := 3) rfl
    have d0 := heap_cell hd (j := 0) rfl
    have d1 := heap_cell hd (j := 1) rfl
    obtain ⟨mo, hmo⟩ : ∃ y, Pure.most vf pre = y := ⟨_, rfl⟩
    rw [hmo] at hm
    have HMO := Lib.hid hmo
    have HV := Lib.hid hv
    have HOWN := Lib.hid hown
    have HM := Lib.hid hm
    have HH := Lib.hid hh
    have HD := Lib.hid hd
    have HST := Lib.hid hst
    have HC := Lib.hid hc
    clear hv hown hm hh hd hst hc hmo
    gi_wp2_with fail
    refine ⟨trivial, ?_⟩
    refine (CallsIn.inRound l (callsIn_wide.2 HCALL.out)).mono ?_
    rintro e V2 ⟨rfl, hs2⟩
    have hv := hs2.heap HV.out (by have := HL.out; omega)
    have hm := hs2.heap HM.out (by have := HL.out; omega)
    have hh := hs2.heap HH.out (by have := HL.out; omega)
    have hd := hs2.heap HD.out (by have := HL.out; omega)
    have hown := hs2.row HC.out.memo HOWN.out
    have hst := HST.out.trans hs2
    have hkf := hs2.keeps (B := W1.heap.size) (by have := HL.out; have := HSZ.out; omega)
    have hkn : KeepNum (W1.heap.size + 2) M T C (w.heap.size + 1 + 1 + 1 + 1) (w.heap.size + 1 + 1 + 1 + 1 + 1) V V2 := KeepNum.step hs2 (by have := HL.out; have := HSZ.out; omega) (by have := HL.out; omega) (by have := HL.out; omega) (Array.getElem?_eq_some_iff.1 HBH.out).1 (Array.getElem?_eq_some_iff.1 HBD.out).1
    have c0 := heap_cell hv (j := 0) rfl
    have c1 := heap_cell hm (j := 0) rfl
    have f0 := heap_frozen hv 0
    have f1 := heap_frozen hm 0
    have HC2 := Lib.hid (HC.out.step hs2)
    have hsz2 : W1.heap.size ≤ V2.heap.size := by have := (Array.getElem?_eq_some_iff.1 HBD.out).1; have := hs2.grown.size; have := HSZ.out; omega
    have QV := Lib.hid hv
    have QM := Lib.hid hm
    have QH := Lib.hid hh
    have QD := Lib.hid hd
    have QO := Lib.hid hown
    have QST := Lib.hid hst
    have QKF := Lib.hid hkf
    have QKN := Lib.hid hkn
    have QSZ := Lib.hid hsz2
    clear hv hm hh hd hown hst hkf hkn hs2 hsz2 h0 h1 h2 h3 d0 d1
    rcases Int.lt_trichotomy wx mo with hlt | heq | hgt
    · have hne : (wx == mo) = false := by simp; omega
      have E1 := Lib.hid (Pure.best_less (v := vf) (x := x) (l := pre) (by rw [HX.out, HMO.out]; exact hlt))
      have E2 : Hid (Pure.most vf (pre ++ [x]) = mo) := Lib.hid (by rw [Pure.most_snoc, HX.out, HMO.out]; omega)
      gi_wp2
      exact ⟨QKF.out, QKN.out, v, QV.out, by rw [E1.out]; exact QO.out, by rw [E2.out]; exact QM.out, QH.out, QD.out, QST.out⟩
    · subst heq
      have E1 := Lib.hid (Pure.best_same (v := vf) (x := x) (l := pre) (by rw [HX.out, HMO.out]))
      have E2 : Hid (Pure.most vf (pre ++ [x]) = wx) := Lib.hid (by rw [Pure.most_snoc, HX.out, HMO.out]; omega)
      gi_wp2_with (gi_at_builtin; (refine wpListIn_append_own_at _ rfl _ _ 39 rfl W1.heap.size 3 i0 (.int .i64 0) 1 8 Tryz.underlying39 hi0 hz0 hz1 hz2 rfl (by decide) v _ _ rfl (QO.out.alloc _) ⟨V2.heap.size, 0, none⟩ 1 1 [.int .i64 x] rfl rfl (cell_one _ _ _ (by simp)) (by simp [Value.oneCell']) (by have := HLEN.out; unfold maxLen; omega) (by have := HLEN.out; omega) (by have := QSZ.out; simp; omega) ?_; intro v' w1 hown' hgrow _ hat; obtain ⟨g2, cap2, hv2, hg2a, hg2b⟩ := World.ownsRow.form hown' (Nat.succ_pos _); subst hv2; clear hg2a hg2b; have hvv : w1.heap[w.heap.size + 1 + 1]? = some (.cells #[v] 39) := (hgrow.block _ (Array.getElem?_eq_some_iff.1 (heap_up QV.out _)).1 (row_ne QO.out (by have := HSZ.out; omega))).trans (heap_up QV.out _); have c2 := heap_cell hvv (j := 0) rfl; have f2 := heap_frozen hvv 0; have HVV := Lib.hid hvv; have HOWN2 := Lib.hid hown'; have HGROW := Lib.hid hgrow; clear hvv hown' hgrow hat))
      have z1 := HL.out
      have z2 := HSZ.out
      have z3 := QSZ.out
      obtain ⟨p1, p2, p3, p4, p5, p6⟩ := push_close (N := W1.heap.size + 2) (T' := 39) HC2.out QST.out QV.out QO.out HGROW.out HOWN2.out z1.1 z1.2.1 z1.2.2 (by omega) (by omega) (by omega) (Bh := w.heap.size + 1 + 1 + 1 + 1) (Bd := w.heap.size + 1 + 1 + 1 + 1 + 1) (by omega) (by omega) (by omega) (by omega) (by omega) (by omega) (by omega) (by omega) (by decide)
      refine ⟨QKF.out.trans (p1 _), QKN.out.trans p2, _, p3, ?_, ?_, p5 _ _ (by omega) (by omega) QH.out, p5 _ _ (by omega) (by omega) QD.out, p6⟩
      · rw [E1.out]
        simpa using p4
      · rw [E2.out]
        exact p5 _ _ (by omega) (by omega) QM.out
    · have hne : (wx == mo) = false := by simp; omega
      have E1 := Lib.hid (Pure.best_more (v := vf) (x := x) (l := pre) (by rw [HX.out, HMO.out]; exact hgt))
      have E2 : Hid (Pure.most vf (pre ++ [x]) = wx) := Lib.hid (by rw [Pure.most_snoc, HX.out, HMO.out]; omega)
      gi_wp2_with (gi_at_builtin; (refine wpListIn_append_own_at _ rfl _ _ 39 rfl W1.heap.size 3 i0 (.int .i64 0) 1 8 Tryz.underlying39 hi0 hz0 hz1 hz2 rfl (by decide) (.slice none 0 0) 0 [] rfl (World.ownsRow_nil _ _ _ _) ⟨V2.heap.size, 0, none⟩ 1 1 [.int .i64 x] rfl rfl (cell_one _ _ _ (by simp)) (by simp [Value.oneCell']) (by unfold maxLen; omega) (by omega) (by have := QSZ.out; simp; omega) ?_; intro v' w1 hown' hgrow _ hat; obtain ⟨g2, cap2, hv2, hg2a, hg2b⟩ := World.ownsRow.form hown' (Nat.succ_pos _); subst hv2; clear hg2a hg2b; have hb4 : ((V2.setCell ⟨w.heap.size + 1 + 1, 0, none⟩ (.slice none 0 0)).setCell ⟨w.heap.size + 1 + 1 + 1, 0, none⟩ (.int .i64 wx)).heap[w.heap.size + 1 + 1]? = some (.cells #[.slice none 0 0] 39) := (Below.heap_setCell _ _ _ _ (by simp)).trans (heap_set QV.out 0 (.slice none 0 0)); have hvv : w1.heap[w.heap.size + 1 + 1]? = some (.cells #[.slice none 0 0] 39) := (hgrow.block _ (Array.getElem?_eq_some_iff.1 (heap_up hb4 _)).1 (by simp [Value.ownBlock])).trans (heap_up hb4 _); have c2 := heap_cell hvv (j := 0) rfl; have f2 := heap_frozen hvv 0; have HVV := Lib.hid hvv; have HOWN2 := Lib.hid hown'; have HGROW := Lib.hid hgrow; clear hb4 hvv hown' hgrow hat))
      have z1 := HL.out
      have z2 := HSZ.out
      have z3 := QSZ.out
      obtain ⟨p1, p2, p3, p4, p5, p6⟩ := push_close (N := W1.heap.size + 2) (T' := 39) ((HC2.out.set (p := ⟨w.heap.size + 1 + 1, 0, none⟩) (by simp; omega) (by simp; omega) (by simp; omega) (.slice none 0 0)).set (p := ⟨w.heap.size + 1 + 1 + 1, 0, none⟩) (by simp; omega) (by simp; omega) (by simp; omega) (.int .i64 wx)) ((QST.out.setCell (p := ⟨w.heap.size + 1 + 1, 0, none⟩) (by simp; omega) z1.1 (.slice none 0 0)).setCell (p := ⟨w.heap.size + 1 + 1 + 1, 0, none⟩) (by simp; omega) z1.1 (.int .i64 wx))
        ((Below.heap_setCell _ _ _ _ (by simp)).trans (heap_set QV.out 0 (.slice none 0 0))) (World.ownsRow_nil _ W1.heap.size 3 1) HGROW.out HOWN2.out z1.1 z1.2.1 z1.2.2 (by omega) (by omega) (by omega) (Bh := w.heap.size + 1 + 1 + 1 + 1) (Bd := w.heap.size + 1 + 1 + 1 + 1 + 1) (by omega) (by omega) (by omega) (by omega) (by simp; omega) (by simp; omega) (by omega) (by omega) (by decide)
      have kk : ∀ k q, k ≠ w.heap.size + 1 + 1 → k ≠ w.heap.size + 1 + 1 + 1 → V2.heap[k]? = some q → ((V2.setCell ⟨w.heap.size + 1 + 1, 0, none⟩ (.slice none 0 0)).setCell ⟨w.heap.size + 1 + 1 + 1, 0, none⟩ (.int .i64 wx)).heap[k]? = some q := fun k q n1 n2 hq => (Below.heap_setCell _ _ _ _ n2).trans ((Below.heap_setCell _ _ _ _ n1).trans hq)
      refine ⟨QKF.out.trans (((keepsFrom_setCell _ _ _).trans (keepsFrom_setCell _ _ _)).trans (p1 _)), QKN.out.trans (((KeepNum.setCell _ (by simp; omega) (by simp) (by simp) (by simp; omega) (by simp; omega) (by simp; omega) _).trans (KeepNum.setCell _ (by simp; omega) (by simp) (by simp) (by simp; omega) (by simp; omega) (by simp; omega) _)).trans p2), _, p3, ?_, ?_, p5 _ _ (by omega) (by omega) (kk _ _ (by omega) (by omega) QH.out), p5 _ _ (by omega) (by omega) (kk _ _ (by omega) (by omega) QD.out), p6⟩
      · rw [E1.out]
        simpa using p4
      · rw [E2.out]
        exact p5 _ _ (by omega) (by omega) (heap_set ((Below.heap_setCell _ _ _ _ (by simp)).trans QM.out) 0 _)
  case done =>
    rintro D V hD hc ⟨v, hv, hown, hm, hh, hd, hst⟩ hK
    have c0 := heap_cell hv (j := 0) rfl
    have HV := Lib.hid hv
    have HOWN := Lib.hid hown
    have HST := Lib.hid hst
    have HK := Lib.hid hK
    clear hv hown hm hh hd hst hK hc
    gi_wp2
    refine ⟨by simp, .inl ⟨_, _, rfl, run_takeDeferred HK.out, ?_⟩⟩
    refine ⟨v, ?_, ⟨v, rfl, ?_, HST.out.put (by have := HSZ.out; omega) HL.out.1 HK.out _ rfl⟩⟩
    · simp [results, Tryz.f42, go_sem]
    · rw [HLK.out]
      exact row_mono (row_own (β := Unit) (B := 0) () V _ (some D) HOWN.out (grownBy_putObj' V D (.deferred none)) (fun r e => by cases e; exact ⟨Nat.zero_le _, _, HK.out, rfl⟩)) (by have := HSZ.out; omega)

/-- **likely**. -/
theorem likely_any {b M T C : Nat} {lo hi o f : Int} (hb : b ≤ 36) (ho0 : 0 ≤ o) (ho : o ≤ 36) (hf0 : 0 ≤ f) (hf : f ≤ 36) (w : World) (hw : Cnt w M T C) :
    Calls Tryz.prog 42 #[holdV b lo hi T C, .agg #[.int .i64 o, .int .i64 f]] w fun e w' =>
      ∃ v, e = .returned v ∧ w'.ownsRow w.heap.size 3 1 v (Pure.likely b lo hi o f).length ((Pure.likely b lo hi o f).map (Value.int .i64)) ∧ Step M w w' :=
  callsIn_wide.1 (likely_in 0 b M T C lo hi o f hb ho0 ho hf0 hf w hw)

end Go.Proofs.YtjegkkpdemoldaaGreatDoor
