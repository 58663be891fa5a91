/-
  The contracts of slices.Clone at ricks, of copied, and of the specification's Twin and Great; append onto a slice of the call's own memory.
-/
import Derived.Test.YtijfdfplebbaaabVCheck
import Derived.Test.YtijfdfplebbaaabRest
import Derived.Maps.AppendAt
import Derived.Deep.Upon
namespace Go.Proofs.Ytijfdfplebbaaab
open Go.RowKit

/-- A copy in the call's own memory. -/
def CopyOut (t : TypeId) (k len : Nat) (F : Nat → Int) (w : World) (e : Ending) (w' : World) : Prop :=
  ∃ a cap, e = .returned (.slice a len cap) ∧ OwnNums w' w.heap.size t k a len cap F ∧ Below w.heap.size w w'
def joinF (F : Nat → Int) (n : Nat) (G : Nat → Int) : Nat → Int := fun q => if q < n then F q else G (q - n)
theorem numsCells_append (n m : Nat) (F G : Nat → Int) : numsCells n F ++ numsCells m G = numsCells (n + m) (joinF F n G) := by
  apply List.ext_getElem?
  intro i
  by_cases h1 : i < n
  · rw [List.getElem?_append_left (by rw [numsCells_length]; exact h1), numsCells_get h1, numsCells_get (by omega)]
    simp [joinF, h1]
  · rw [List.getElem?_append_right (by rw [numsCells_length]; omega), numsCells_length]
    by_cases h2 : i < n + m
    · rw [numsCells_get (by omega), numsCells_get h2]
      simp [joinF, h1]
    · rw [List.getElem?_eq_none (by rw [numsCells_length]; omega), List.getElem?_eq_none (by rw [numsCells_length]; omega)]
/-- All objects but the slice's own array are as they were. -/
def Alone (a : Option Addr) (w w' : World) : Prop := ∀ i, i < w.heap.size → (∀ x, a = some x → i ≠ x.block) → w'.heap[i]? = w.heap[i]?
theorem OwnNums.own_block {w : World} {base : Nat} {t : TypeId} {k : Nat} {a : Option Addr} {len cap : Nat} {F : Nat → Int} (h : OwnNums w base t k a len cap F) : (a = none ∧ len = 0 ∧ cap = 0) ∨ ∃ g, a = some ⟨g, 0, none⟩ ∧ base ≤ g := by
  obtain ⟨_, ⟨h1, h2⟩ | ⟨g, _, _, he, hb, _⟩⟩ := h
  · simp only [Value.slice.injEq] at h1
    exact .inl ⟨h1.1, h2, h1.2.2⟩
  · simp only [Value.slice.injEq] at he
    exact .inr ⟨g, he.1, hb⟩
theorem OwnNums.le_cap {w : World} {base : Nat} {t : TypeId} {k : Nat} {a : Option Addr} {len cap : Nat} {F : Nat → Int} (h : OwnNums w base t k a len cap F) : len ≤ cap := by
  obtain ⟨_, ⟨h1, h2⟩ | ⟨g, _, _, he, hb, _, hlc, _⟩⟩ := h
  · omega
  · simp only [Value.slice.injEq] at he
    omega
theorem OwnNums.congr {w : World} {base : Nat} {t : TypeId} {k : Nat} {a : Option Addr} {len cap : Nat} {F G : Nat → Int} (h : OwnNums w base t k a len cap F) (hFG : ∀ q, q < len * k → F q = G q) : OwnNums w base t k a len cap G := by
  unfold OwnNums at *
  rw [← numsCells_congr hFG]
  exact h
theorem app_own (w : World) (base : Nat) (T ST ty : TypeId) (k bytes : Nat) (i : TypeInfo) (z : Value) (hu : Try.prog.underlying ST = some (.slice T)) (hi : Try.prog.info? T = some i) (hz : i.zero = some z) (hz1 : i.size = k) (hz2 : i.bytes = bytes) (hzs : z.cells.size = k) (hk : 0 < k) (hb : bytes ≤ 64)
    {a : Option Addr} {len cap : Nat} {F : Nat → Int} (hown : OwnNums w base T k a len cap F) (src : Option Addr) (m c : Nat) (G : Nat → Int) (hs : NumsAt w src (m * k) G) (hnil : src = none → m = 0) (hl : len ≤ 100) (hm : m ≤ 100) (hbase : base ≤ w.heap.size) :
    ∃ a' cap' w', (Builtin.append_ #[ST, ST] ty #[.slice a len cap, .slice src m c]).run Try.prog w = .ok (.slice a' (len + m) cap') w' ∧ OwnNums w' base T k a' (len + m) cap' (joinF F (len * k) G) ∧ Alone a w w' ∧ Below base w w' ∧ (∀ x', a' = some x' → a = some x' ∨ w.heap.size ≤ x'.block) := by
  cases src with
  | none =>
    obtain rfl := hnil rfl
    refine ⟨a, cap, w, ?_, OwnNums.congr hown (fun q hq => by rw [joinF, if_pos (by simpa using hq)]), fun _ _ _ => rfl, Below.refl _ _, fun x' h => .inl h⟩
    exact run_append_nothing w ST ST ty T i hu hi a len cap hown.le_cap _ (Src.ofNil w hu c)
  | some ad =>
    obtain ⟨v', w', hr, h2, h3, h4, h5⟩ := run_append_own_at (P := Try.prog) (w := w) base ST ty T i z k bytes hu hi hz hz1 hz2 hzs hk (.slice a len cap) len (numsCells (len * k) F) hown ad m c (numsCells (m * k) G) (numsCells_length _ _)
      (fun j u hj => by
        obtain ⟨h1, rfl⟩ := numsCells_at hj
        obtain ⟨b, off, h6, h7⟩ := hs j h1
        cases h6
        rw [Go.WideShapes.add_plain]
        exact h7)
      (fun u hu => by
        obtain ⟨j, hj⟩ := List.getElem?_of_mem hu
        obtain ⟨_, rfl⟩ := numsCells_at hj
        rfl) (by unfold maxLen; omega) (Nat.le_trans (Nat.mul_le_mul (show len + m ≤ 200 by omega) hb) (by decide)) hbase
    have h2' : w'.ownsRow base T k v' (len + m) (numsCells ((len + m) * k) (joinF F (len * k) G)) := by
      rw [numsCells_append] at h2
      rw [Nat.add_mul]
      exact h2
    have hal : Alone a w w' := fun i hi hne => h3.block i hi (fun e => by
      cases a with
      | none => simp [Value.ownBlock] at e
      | some x => simp [Value.ownBlock] at e; exact hne x rfl e)
    have hbel : Below base w w' := (Below.refl _ _).grown h3 hbase (fun g hg => by
      obtain ⟨h1, _⟩ | ⟨g', h1, h6⟩ := hown.own_block
      · rw [h1] at hg; simp [Value.ownBlock] at hg
      · rw [h1] at hg; simp [Value.ownBlock] at hg; omega)
    have hsh : ∃ a' cap', v' = .slice a' (len + m) cap' := by
      obtain ⟨_, ⟨h6, h7⟩ | ⟨g, c', cur, h6, _⟩⟩ := h2'
      · exact ⟨none, 0, by rw [h6, h7]⟩
      · exact ⟨_, _, h6⟩
    obtain ⟨a', cap', rfl⟩ := hsh
    refine ⟨a', cap', w', hr, h2', hal, hbel, fun x' hx => ?_⟩
    subst hx
    obtain ⟨h8, _⟩ | ⟨g, h8, _⟩ := OwnNums.own_block (w := w') (F := joinF F (len * k) G) h2'
    · cases h8
    · cases h8
      rcases h5 with h5 | h5
      · left
        obtain ⟨h1, _⟩ | ⟨g', h1, _⟩ := hown.own_block
        · rw [h1] at h5; simp [Value.ownBlock] at h5
        · rw [h1] at h5 ⊢
          simp [Value.ownBlock] at h5
          rw [h5]
      · right
        simp [Value.ownBlock] at h5
        simp [h5]

theorem infoStamp : ∃ i, Try.prog.info? 27 = some i ∧ i.zero = some (.agg #[.int .i64 0, .int .i64 0, .int .i64 0]) ∧ i.size = 3 ∧ i.bytes = 24 := by
  have h : (Try.prog.info? 27).map (fun i => (i.zero, i.size, i.bytes)) = some (some (.agg #[.int .i64 0, .int .i64 0, .int .i64 0]), 3, 24) := by kernel_rfl
  obtain ⟨i, hi, h2⟩ := Option.map_eq_some_iff.1 h
  simp only [Prod.mk.injEq] at h2
  exact ⟨i, hi, h2.1, h2.2.1, h2.2.2⟩
set_option maxHeartbeats 1000000 in
set_option maxRecDepth 100000 in
theorem cloneStamp_any (a : Option Addr) (len cap : Nat) (F : Nat → Int) (hl : len ≤ 40) (hnil : a = none → len = 0 ∧ cap = 0) (w : World) (h : NumsAt w a (len * 3) F) :
    Calls Try.prog 21 #[.slice a len cap] w (CopyOut 27 3 len F w) := by
  cases a with
  | none =>
    obtain ⟨rfl, rfl⟩ := hnil rfl
    have hnl := Lib.run_eql_slice_nil (P := Try.prog) w 22 27 none 0 0 0 0 Try.underlying22
    simp only [Option.isNone_none] at hnl
    go_enter Try.func21, Try.ntmps21
    go_wp2_with fail
    go_ret
    exact ⟨none, 0, rfl, own_nil _ _ _ _ _, Below.refl _ _⟩
  | some b0 =>
    clear hnil
    by_cases h0 : len = 0
    · subst h0
      clear h
      have hnl := Lib.run_eql_slice_nil (P := Try.prog) w 22 27 (some b0) 0 cap 0 0 Try.underlying22
      simp only [Option.isNone_some] at hnl
      go_enter Try.func21, Try.ntmps21
      go_wp2_with fail
      go_ret
      exact ⟨_, _, rfl, own_empty _ _ _ rfl (Nat.le_refl _) _, below_new _ _⟩
    · obtain ⟨b, off, hb0, _⟩ := h 0 (by omega)
      cases hb0
      have HN : Hid (NumsAt (w.alloc (.cells #[] 27)) (some ⟨b, off, none⟩) (len * 3) F) := Lib.hid (h.alloc _)
      clear h
      obtain ⟨i0, hi, hz0, hz1, hz2⟩ := infoStamp
      have hnl := Lib.run_eql_slice_nil (P := Try.prog) w 22 27 (some ⟨b, off, none⟩) len cap 0 0 Try.underlying22
      simp only [Option.isNone_some] at hnl
      go_enter Try.func21, Try.ntmps21
      go_wp2_with (at_builtin; refine wpList_append_grows _ rfl (.tmp 5) (.tmp 6) 22 rfl 27 i0 (.agg #[.int .i64 0, .int .i64 0, .int .i64 0]) 3 24 Try.underlying22 hi hz0 hz1 hz2 rfl (by decide) (some ⟨w.heap.size, 0, none⟩) 0 0 [] rfl (by simp) rfl (by intro _ _ _ _ h; simp at h) ⟨b, off, none⟩ len cap (numsCells (len * 3) F) rfl (numsCells_length _ _) (fun j v h => numsCells_hold HN.out h) ?c2 (by omega) (by unfold maxLen; omega) (by omega) ?grow)
      case c2 =>
        intro v hv
        obtain ⟨j, hj⟩ := List.getElem?_of_mem hv
        obtain ⟨_, rfl⟩ := numsCells_at hj
        rfl
      case grow =>
        intro v' w' hown hgrow
        have hown : w'.ownsRow (w.alloc (.cells #[] 27)).heap.size 27 3 v' len (numsCells (len * 3) F) := by simpa using hown
        obtain ⟨a', cap', rfl⟩ : ∃ a' cap', v' = .slice a' len cap' := by
          obtain ⟨_, ⟨rfl, h⟩ | ⟨g, c, cur, rfl, _⟩⟩ := hown
          · exact absurd h h0
          · exact ⟨_, _, rfl⟩
        have HO : Hid (OwnNums w' w.heap.size 27 3 a' len cap' F) := Lib.hid (OwnNums.base hown (by simp))
        have HB : Hid (Below w.heap.size w w') := Lib.hid (((Below.refl _ _).alloc (Nat.le_refl _) _).grown hgrow (by simp) (fun k h => by cases h))
        clear hown hgrow
        go_wp2_with fail
        go_ret
        exact ⟨_, _, rfl, HO.out, HB.out⟩

/-- A watch in the call's own memory. -/
def ShaftOut (h : Int) (n : Nat) (F : Nat → Int) (w : World) (e : Ending) (w' : World) : Prop :=
  ∃ a1 c1, e = .returned (shaftV h a1 n c1) ∧ OwnNums w' w.heap.size 27 3 a1 n c1 F ∧ Below w.heap.size w w'
theorem great_any (h : Int) (a : Option Addr) (n c : Nat) (w : World) : Calls Try.prog 4 #[shaftV h a n c] w fun e w' => e = .returned (.bool (decide ((10 : Int) < n))) ∧ Below w.heap.size w w' := by
  go_enter Try.func4, Try.ntmps4
  go_wp2_with fail
  go_ret
  exact ⟨rfl, below_new _ _⟩

set_option maxHeartbeats 2000000 in
set_option maxRecDepth 100000 in
theorem twin_any (h : Int) (a : Option Addr) (n c : Nat) (F : Nat → Int) (hn : n ≤ 40) (hnil : a = none → n = 0) (w : World) (hF : NumsAt w a (n * 3) F) :
    Calls Try.prog 5 #[shaftV h a n c] w (ShaftOut h n F w) := by
  obtain ⟨W, hW⟩ : ∃ W, (w.alloc (shaftB h a n c)).alloc (shaftB 0 none 0 0) = W := ⟨_, rfl⟩
  have HB : Hid (Below w.heap.size w W) := Lib.hid (by rw [← hW]; exact (below_new _ _).alloc (by simp) _)
  have HX : Hid (W.heap[w.heap.size]? = some (shaftB h a n c)) := Lib.hid (by rw [← hW]; exact heap_up (heap_top _ _ rfl) _)
  have HY : Hid (W.heap[w.heap.size + 1]? = some (shaftB 0 none 0 0)) := Lib.hid (by rw [← hW]; exact heap_top _ _ (by simp))
  have HP : Hid (NumsAt W a (n * 3) F) := Lib.hid (hF.below HB.out)
  have HSZ : Hid (W.heap.size = w.heap.size + 2) := Lib.hid (by rw [← hW]; simp)
  clear hF
  have HNL := Lib.hid hnil
  clear hnil
  go_enter Try.func5, Try.ntmps5
  go_upto_region 1 with fail
  try rw [hW]
  clear hW
  go_cut [] from 3 to 9 (fun wx => ∃ a1 c1, wx.heap[w.heap.size + 1]? = some (shaftB h a1 n c1) ∧ OwnNums wx W.heap.size 27 3 a1 n c1 F ∧ Below w.heap.size w wx)
  case first =>
    rename_i J K' hJ hK'
    generalize hA : (Act.mk _ _ : Act) = a0
    have m1 : At a0 1 (.pointer (some ⟨w.heap.size, 0, none⟩)) := by rw [← hA]; rfl
    have m2 : At a0 2 (.pointer (some ⟨w.heap.size + 1, 0, none⟩)) := by rw [← hA]; rfl
    have hsz : 9 < a0.tmps.size := by rw [← hA]; exact of_decide_eq_true (by kernel_rfl)
    have hfin : ∀ a' w', Kept (List.range' 3 7) a0 a' → (∃ a1 c1, w'.heap[w.heap.size + 1]? = some (shaftB h a1 n c1) ∧ OwnNums w' W.heap.size 27 3 a1 n c1 F ∧ Below w.heap.size w w') → K' a' w' := by
      intro a' w' hI hL
      refine hK' _ _ (Met.intro (hJ _ _ ⟨a'.tmps.getD 3 undef, a'.tmps.getD 4 undef, a'.tmps.getD 5 undef, a'.tmps.getD 6 undef, a'.tmps.getD 7 undef, a'.tmps.getD 8 undef, a'.tmps.getD 9 undef, hL, hI.eq.trans ?_⟩))
      rw [← hA]
      kernel_rfl
    have hI : Kept (List.range' 3 7) a0 a0 := Kept.refl _ _
    clear hA hJ hK' J
    refine with_pan (fun d _ _ _ _ h => by cases d <;> exact h) ?_
    intro hpan
    refine wp_region_rest (fun z => z.heap[w.heap.size]? = some (shaftB h a n c)) (by kernel_rfl) ?_
    obtain ⟨wz, hwz⟩ : ∃ x, W.drew = x := ⟨_, rfl⟩
    change Rest _ _ _ _ _ _ _ (W.drew)
    rw [hwz]
    have hq : Below W.heap.size W wz := by rw [← hwz]; exact (Below.refl _ _).drew
    clear hwz
    have hS := heap_lft HX.out hq
    refine rest_take (k := 0) (d := 3) (v := .pointer (some ⟨w.heap.size, 0, none⟩)) hI rfl rfl (by kernel_rfl) (Nat.lt_of_le_of_lt (by decide) hsz) (by kernel_rfl) hpan (by kernel_rfl) hS (wanted_free rfl) (fun z hz => by have n1 := hI.at m1 (by kernel_rfl); have e1 := n1; have f1 := n1.eval; unfold At at e1; simp [go_sem, e1]) (fun a' hI' n3' hk => ?_)
    have n3 := n3'
    replace hI := hI'
    clear hk hI' n3'
    obtain ⟨act9, rfl⟩ : ∃ x, x = a' := ⟨_, rfl⟩
    refine rest_take (k := 1) (d := 4) (v := .int .i64 h) hI rfl rfl (by kernel_rfl) (Nat.lt_of_le_of_lt (by decide) hsz) (by kernel_rfl) hpan (by kernel_rfl) hS (wanted_free rfl) (fun z hz => by have e3 := n3; have f3 := n3.eval; unfold At at e3; have k0 := heap_cell hz (j := 0) rfl; simp [go_sem, e3, k0]) (fun a' hI' n4' hk => ?_)
    replace n3 := hk _ _ n3 rfl
    have n4 := n4'
    replace hI := hI'
    clear hk hI' n4'
    obtain ⟨act9, rfl⟩ : ∃ x, x = a' := ⟨_, rfl⟩
    clear n3
    refine rest_take (k := 3) (d := 6) (v := .pointer (some ⟨w.heap.size, 1, none⟩)) hI rfl rfl (by kernel_rfl) (Nat.lt_of_le_of_lt (by decide) hsz) (by kernel_rfl) hpan (by kernel_rfl) hS (wanted_free rfl) (fun z hz => by have n1 := hI.at m1 (by kernel_rfl); have e1 := n1; have f1 := n1.eval; unfold At at e1; simp [go_sem, e1]) (fun a' hI' n6' hk => ?_)
    replace n4 := hk _ _ n4 rfl
    have n6 := n6'
    replace hI := hI'
    clear hk hI' n6'
    obtain ⟨act9, rfl⟩ : ∃ x, x = a' := ⟨_, rfl⟩
    refine rest_take (k := 4) (d := 7) (v := .slice a n c) hI rfl rfl (by kernel_rfl) (Nat.lt_of_le_of_lt (by decide) hsz) (by kernel_rfl) hpan (by kernel_rfl) hS (wanted_free rfl) (fun z hz => by have e6 := n6; have f6 := n6.eval; unfold At at e6; have k0 := heap_cell hz (j := 1) rfl; simp [go_sem, e6, k0]) (fun a' hI' n7' hk => ?_)
    replace n4 := hk _ _ n4 rfl
    replace n6 := hk _ _ n6 rfl
    have n7 := n7'
    replace hI := hI'
    clear hk hI' n7'
    obtain ⟨act9, rfl⟩ : ∃ x, x = a' := ⟨_, rfl⟩
    clear n6
    have hz1 := below_new wz (.cells #[] 27)
    have hq1 := below_thn hq hz1
    have hy1 := heap_lft HY.out hq1
    have ho0 : OwnNums (wz.alloc (.cells #[] 27)) W.heap.size 27 3 (some ⟨wz.heap.size, 0, none⟩) 0 0 F := own_empty _ _ _ rfl hq.size _
    have hn1 := HP.out.below hq1
    have hs1 := heap_lft hS hz1
    refine rest_only (k := 2) (by kernel_rfl) (op_value (k := 2) (d := 5) (v := .slice (some ⟨wz.heap.size, 0, none⟩) 0 0) hI rfl rfl (by kernel_rfl) (Nat.lt_of_le_of_lt (by decide) hsz) (wanted_free rfl) (by simp [go_sem]; try rfl) (fun a' hI' n5' hk => ⟨hs1, ?_⟩))
    replace n4 := hk _ _ n4 rfl
    replace n7 := hk _ _ n7 rfl
    have n5 := n5'
    replace hI := hI'
    clear hk hI' n5'
    obtain ⟨act9, rfl⟩ : ∃ x, x = a' := ⟨_, rfl⟩
    obtain ⟨i0, hi, hz0, hz1', hz2⟩ := infoStamp
    obtain ⟨a1, c1, w2, hr, ho1, hal, hb1, _⟩ := app_own _ W.heap.size 27 22 22 3 24 i0 _ Try.underlying22 hi hz0 hz1' hz2 rfl (by decide) (by decide) ho0 a n c F hn1 HNL.out (by omega) (by omega) (by have := hq.size; simp; omega)
    have hq2 : Below W.heap.size W w2 := hq1.trans hb1
    have hs2 := heap_lft HX.out hq2
    have hy2 := heap_lft HY.out hq2
    replace ho1 : OwnNums w2 W.heap.size 27 3 a1 n c1 F := by have h := ho1.congr (G := F) (fun q _ => by simp [joinF]); simpa using h
    replace hr := hr
    clear hz1 hq1 hy1 ho0 hn1 hs1 hal
    refine rest_only (k := 5) (by kernel_rfl) (op_value (k := 5) (d := 8) (v := .slice a1 (0 + n) c1) hI rfl rfl (by kernel_rfl) (Nat.lt_of_le_of_lt (by decide) hsz) (wanted_free rfl) (exec_append (.tmp 5) (.tmp 7) 22 22 rfl n5.eval n7.eval (hr)) (fun a' hI' n8' hk => ⟨hs2, ?_⟩))
    replace n4 := hk _ _ n4 rfl
    replace n7 := hk _ _ n7 rfl
    replace n5 := hk _ _ n5 rfl
    have n8 := n8'
    replace hI := hI'
    clear hk hI' n8'
    obtain ⟨act9, rfl⟩ : ∃ x, x = a' := ⟨_, rfl⟩
    replace hS := hs2
    rw [Nat.zero_add] at n8
    refine rest_take (k := 6) (d := 9) (v := shaftV h a1 n c1) hI rfl rfl (by kernel_rfl) (Nat.lt_of_le_of_lt (by decide) hsz) (by kernel_rfl) hpan (by kernel_rfl) hS (wanted_free rfl) (fun z hz => by have e4 := n4; have f4 := n4.eval; unfold At at e4; have e8 := n8; have f8 := n8.eval; unfold At at e8; simp [go_sem, e4, e8]) (fun a' hI' n9' hk => ?_)
    replace n4 := hk _ _ n4 rfl
    replace n7 := hk _ _ n7 rfl
    replace n5 := hk _ _ n5 rfl
    replace n8 := hk _ _ n8 rfl
    have n9 := n9'
    replace hI := hI'
    clear hk hI' n9'
    obtain ⟨act9, rfl⟩ : ∃ x, x = a' := ⟨_, rfl⟩
    obtain ⟨Z, hZ⟩ : ∃ Z, (w2.setCell ⟨w.heap.size + 1, 0, none⟩ (.int .i64 h)).setCell ⟨w.heap.size + 1, 1, none⟩ (.slice a1 n c1) = Z := ⟨_, rfl⟩
    have hsZ : Z.heap[w.heap.size]? = some (shaftB h a n c) := by rw [← hZ]; exact (Below.heap_setCell _ _ _ _ (by simp)).trans ((Below.heap_setCell _ _ _ _ (by simp)).trans hs2)
    have hyZ : Z.heap[w.heap.size + 1]? = some (shaftB h a1 n c1) := by rw [← hZ]; exact heap_set (heap_set hy2 0 _) 1 _
    have hoZ : OwnNums Z W.heap.size 27 3 a1 n c1 F := by rw [← hZ]; exact (ho1.set (by have := HSZ.out; simp; omega) _).set (by have := HSZ.out; simp; omega) _
    have hbZ : Below w.heap.size w Z := by rw [← hZ]; exact ((below_thn HB.out hq2).setCell (by simp) _).setCell (by simp) _
    refine rest_only (k := 7) (by kernel_rfl) (op_store (k := 7) rfl rfl (wanted_free rfl) (by have n2 := hI.at m2 (by kernel_rfl); have e2 := n2; have f2 := n2.eval; unfold At at e2; have e9 := n9; have f9 := n9.eval; unfold At at e9; have k0 := heap_cell hy2 (j := 0) rfl; have k1 := heap_cell hy2 (j := 1) rfl; have f0 := heap_frozen hy2 0; have f1 := heap_frozen hy2 1; simp [go_sem, e2, e9, k0, k1, f0, f1]; try rfl) ⟨by rw [hZ]; exact hsZ, ?_⟩)
    refine rest_done (by kernel_rfl) ?_
    rw [hZ]
    exact hfin _ _ hI ⟨a1, c1, hyZ, hoZ, hbZ⟩
  case rest =>
    obtain ⟨w2, rfl⟩ : ∃ x, x = wc := ⟨_, rfl⟩
    obtain ⟨a1, c1, hy, ho, hb⟩ := hcut
    have HO := Lib.hid ho
    have HB2 := Lib.hid hb
    have HY2 := Lib.hid hy
    clear ho hb hy
    have y0 := heap_cell HY2.out (j := 0) rfl
    have y1 := heap_cell HY2.out (j := 1) rfl
    go_wp2_with fail
    refine bodyPost_ret (v := shaftV h a1 n c1) (by simp [results, Try.results5, go_sem, y0, y1]; try rfl) rfl ⟨a1, c1, rfl, OwnNums.base HO.out (by have := HSZ.out; omega), HB2.out⟩

end Go.Proofs.Ytijfdfplebbaaab
