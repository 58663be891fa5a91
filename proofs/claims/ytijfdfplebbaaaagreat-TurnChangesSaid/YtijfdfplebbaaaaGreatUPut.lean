/-
  The contracts of Put and Strike.
-/
import Derived.Test.YtijfdfplebbaaaaGreatUWithout
import Derived.Test.YtijfdfplebbaaaaGreatUIns
namespace Go.Proofs.YtijfdfplebbaaaaGreat
open Go.RowKit

theorem tfirstErr2 (x y : Int) (s cap : Nat) (w : World) (h0 : w.cell? ⟨s, 0, none⟩ = some (.int .i64 x)) (h1 : w.cell? ⟨s, 1, none⟩ = some (.int .i64 y)) :
    Calls Tryz.prog 14 #[.slice (some ⟨s, 0, none⟩) 2 cap] w fun e w' => e = .returned (.int .i64 (if x = 0 then y else x)) ∧ Below w.heap.size w w' :=
  (firstError_any s 2 cap [x, y] rfl (by omega) w (World.block_lt_of_cell? w _ h0) (fun j hj => by
    have : j = 0 ∨ j = 1 := by omega
    rcases this with rfl | rfl
    · exact h0
    · exact h1)).mono fun e w' h => ⟨by
      rw [h.1]
      congr 2
      by_cases hx : x = 0
      · by_cases hy : y = 0
        · subst hx; subst hy; rfl
        · subst hx; simp [hy]
      · simp [hx], h.2⟩
def nilRoll : RollX := ⟨none, 0, 0, none, 0, 0, none, 0, 0, none, 0, 0, none, 0, 0⟩
abbrev ZB : Obj := .cells #[.slice none 0 0, .slice none 0 0, .slice none 0 0, .slice none 0 0, .slice none 0 0] 30
namespace Pure
def posN (nn : Nat) (N : Nat → NoteX) (t : Int) : Nat := ((List.range nn).find? fun j => !decide ((N j).n < t)).getD nn
theorem posN_eq {nn : Nat} {N : Nat → NoteX} {t : Int} {i : Nat} (h1 : i ≤ nn) (h2 : ∀ m, m < i → (N m).n < t) (h3 : i < nn → t ≤ (N i).n) : posN nn N t = i := by
  unfold posN
  by_cases h : i < nn
  · have : (List.range nn).find? (fun j => !decide ((N j).n < t)) = some i := by
      rw [List.find?_range_eq_some]
      refine ⟨?_, List.mem_range.2 h, fun j hj => ?_⟩
      · have := h3 h
        simp
        omega
      · have := h2 j hj
        simp
        omega
    rw [this]
    rfl
  · have : (List.range nn).find? (fun j => !decide ((N j).n < t)) = none := by
      rw [List.find?_eq_none]
      intro j hj
      have := h2 j (by have := List.mem_range.1 hj; omega)
      simp
      omega
    rw [this]
    show nn = i
    omega
def insN (N : Nat → NoteX) (k : Nat) (x : NoteX) : Nat → NoteX := fun j => if j < k then N j else if j = k then x else N (j - 1)
theorem insV_notes (N : Nat → NoteX) (k : Nat) (x : NoteX) (q : Nat) : insV (noteF N) k (noteF fun _ => x) q = noteF (insN N k x) q := by
  rw [noteF_split (insN N k x)]
  unfold insV insN
  by_cases h1 : q < k * 7
  · rw [if_pos h1, noteF_split N, if_pos (by omega)]
  · rw [if_neg h1]
    by_cases h2 : q < k * 7 + 7
    · have e : q / 7 = k := by omega
      rw [if_pos h2, noteF_split, if_neg (by omega), if_pos e]
      congr 1
      omega
    · rw [if_neg h2, noteF_split N, if_neg (by omega), if_neg (by omega), show (q - 7) / 7 = q / 7 - 1 by omega, show (q - 7) % 7 = q % 7 by omega]
def putC (r : RollX) (d : RollD) : Int := if checkE r d = 0 then err (decide ((r.nn : Int) < 24)) 9 else checkE r d
def strC (r : RollX) (d : RollD) (ln : Nat) (L : Nat → Int) : Int := if checkE r d = 0 then err (numsOk r d ln L) 91 else checkE r d
def big (r : RollX) : RollX := { r with nn := r.nn + 1 }
def insD (r : RollX) (d : RollD) (x : NoteX) : RollD := { d with N := insN d.N (posN r.nn d.N x.n) x }
def putE (r : RollX) (d : RollD) (x : NoteX) : Int := if putC r d = 0 then (if checkE (big r) (insD r d x) = 0 then 0 else 91) else putC r d
theorem err_zero {b : Bool} {n : Int} (hn : n ≠ 0) (h : err b n = 0) : b = true := by
  cases b
  · exact absurd h hn
  · rfl
theorem checkE_zero {r : RollX} {d : RollD} (h : checkE r d = 0) : press r.pn d.P r.wn d.W = true ∧ roll r d = true := by
  unfold checkE at h
  split at h
  · exact ⟨by assumption, err_zero (by decide) h⟩
  · exact absurd h (by decide)
theorem checkE_sz {r r' : RollX} (d : RollD) (h1 : r'.pn = r.pn) (h2 : r'.wn = r.wn) (h3 : r'.mn = r.mn) (h4 : r'.sn = r.sn) (h5 : r'.nn = r.nn) : checkE r' d = checkE r d := by
  obtain ⟨_, _, _, _, _, _, _, _, _, _, _, _, _, _, _⟩ := r
  obtain ⟨_, _, _, _, _, _, _, _, _, _, _, _, _, _, _⟩ := r'
  simp only at h1 h2 h3 h4 h5
  subst h1 h2 h3 h4 h5
  rfl
theorem checkE_small {r : RollX} {d : RollD} (h : checkE r d = 0) : RollS r := by
  obtain ⟨h1, h2⟩ := checkE_zero h
  simp only [press, fewP, roll, menOk, shiftsOk, notesOk, Bool.and_eq_true, decide_eq_true_eq] at h1 h2
  exact ⟨by omega, by omega, by omega, by omega, by omega⟩
theorem checkE_sorted {r : RollX} {d : RollD} (h : checkE r d = 0) : ∀ m n, m < n → n < r.nn → (d.N m).n < (d.N n).n := by
  have h2 := (checkE_zero h).2
  simp only [roll, notesOk, inOrder, Bool.and_eq_true, decide_eq_true_eq] at h2
  intro m n
  induction n with
  | zero => intro h; omega
  | succ n ih =>
    intro hm hn
    have h4 := h2.2.2 n (by omega)
    by_cases e : m = n
    · subst e; exact h4
    · have := ih (by omega) (by omega); omega
theorem putC_zero {r : RollX} {d : RollD} (h : putC r d = 0) : checkE r d = 0 ∧ r.nn < 24 := by
  unfold putC at h
  split at h
  · rename_i h0
    have := err_zero (by decide) h
    simp only [decide_eq_true_eq] at this
    exact ⟨h0, by omega⟩
  · rename_i h0
    exact absurd h h0
end Pure
theorem note_one {w : World} {v : Nat} {x : NoteX} (h : w.heap[v]? = some (tnoteB x)) : NotesAt w (some ⟨v, 0, none⟩) 1 (fun _ => x) := fun j hj => by
  obtain rfl : j = 0 := by omega
  exact ⟨v, 0, rfl, heap_cell h (j := 0) rfl, heap_cell h (j := 1) rfl, heap_cell h (j := 2) rfl, heap_cell h (j := 3) rfl, heap_cell h (j := 4) rfl, heap_cell h (j := 5) rfl, heap_cell h (j := 6) rfl⟩
/-- A roll that is answered: of its own memory, and empty beside an error. -/
structure RollOut (w : World) (base : Nat) (ok : Bool) (pn wn mn sn nn : Nat) (d : RollD) (r : RollX) : Prop where
  own : OwnRoll w base r d
  p : r.pn = if ok then pn else 0
  w : r.wn = if ok then wn else 0
  m : r.mn = if ok then mn else 0
  s : r.sn = if ok then sn else 0
  n : r.nn = if ok then nn else 0
theorem own_nilRoll (w : World) (base : Nat) (d : RollD) : OwnRoll w base nilRoll d := ⟨own_nil _ _ _ _ _, own_nil _ _ _ _ _, own_nil _ _ _ _ _, own_nil _ _ _ _ _, ownv_nil _ _ _ _ _⟩
theorem nil_out (w : World) (base : Nat) (pn wn mn sn nn : Nat) (d : RollD) : RollOut w base false pn wn mn sn nn d nilRoll := ⟨own_nilRoll _ _ _, rfl, rfl, rfl, rfl, rfl⟩
theorem OwnVals.cells {w : World} {base : Nat} {t : TypeId} {k : Nat} {a : Option Addr} {len cap : Nat} {F : Nat → Value} (h : OwnVals w base t k a len cap F) (x : Addr) (hx : a = some x) : ∃ cu, w.heap[x.block]? = some (.cells cu t) := by
  obtain ⟨_, ⟨h1, _⟩ | ⟨g, _, cu, he, hb, hg, _⟩⟩ := h
  · subst hx; cases h1
  · subst hx
    simp only [Value.slice.injEq, Option.some.injEq] at he
    obtain ⟨rfl, _⟩ := he
    exact ⟨cu, hg⟩
/-- The four lists that have no note stay where only notes and one box are written. -/
theorem OwnRoll.moved {w w' : World} {base b7 : Nat} {r : RollX} {d : RollD} (h : OwnRoll w base r d) (hk : ∀ x : Addr, ∀ cu tt, w.heap[x.block]? = some (.cells cu tt) → tt ≠ 34 → x.block < b7 → w'.heap[x.block]? = w.heap[x.block]?) (h7 : w.heap.size ≤ b7) (a : Option Addr) (n c : Nat) (N : Nat → NoteX) (hn : OwnVals w' base 34 7 a n c (noteF N)) :
    OwnRoll w' base ⟨r.pa, r.pn, r.pc, r.wa, r.wn, r.wc, r.ma, r.mn, r.mc, r.sa, r.sn, r.sc, a, n, c⟩ { d with N := N } :=
  ⟨h.p.kept fun x hx => by obtain ⟨cu, hc⟩ := h.p.cells x hx; exact hk x _ _ hc (by decide) (Nat.lt_of_lt_of_le (h.p.lt x hx).2 h7),
   h.g.kept fun x hx => by obtain ⟨cu, hc⟩ := h.g.cells x hx; exact hk x _ _ hc (by decide) (Nat.lt_of_lt_of_le (h.g.lt x hx).2 h7),
   h.m.kept fun x hx => by obtain ⟨cu, hc⟩ := h.m.cells x hx; exact hk x _ _ hc (by decide) (Nat.lt_of_lt_of_le (h.m.lt x hx).2 h7),
   h.s.kept fun x hx => by obtain ⟨cu, hc⟩ := h.s.cells x hx; exact hk x _ _ hc (by decide) (Nat.lt_of_lt_of_le (h.s.lt x hx).2 h7), hn⟩

set_option maxHeartbeats 16000000 in
set_option maxRecDepth 100000 in
/-- **Strike**. -/
theorem strike_any (r : RollX) (d : RollD) (la : Option Addr) (ln lc : Nat) (L : Nat → Int) (hN : RollN r) (hnil : RollNil r) (hl : ln ≤ 60) (w : World) (hR : RollAt w r d) (hL : NumsAt w la ln L) :
    Calls Tryz.prog 8 #[rollV r, .slice la ln lc] w fun e w' => ∃ r', e = .returned (.tuple #[rollV r', .int .i64 (Pure.strC r d ln L)]) ∧ RollOut w' w.heap.size (decide (Pure.strC r d ln L = 0)) r.pn r.wn r.mn r.sn (Pure.keepN (fun j => Pure.has ln L (d.N j).n) r.nn) (Pure.struckD r d ln L) r' ∧ Below w.heap.size w w' := by
  obtain ⟨W, hW⟩ : ∃ W, (w.alloc (rollB r)).alloc ZB = W := ⟨_, rfl⟩
  have HB : Hid (Below w.heap.size w W) := Lib.hid (by rw [← hW]; exact (below_new _ _).alloc (by simp) _)
  have HX : Hid (W.heap[w.heap.size]? = some (rollB r)) := Lib.hid (by rw [← hW]; exact heap_up (heap_top _ _ rfl) _)
  have HZ : Hid (W.heap[w.heap.size + 1]? = some ZB) := Lib.hid (by rw [← hW]; exact heap_top _ _ (by simp))
  have HSZ : Hid (W.heap.size = w.heap.size + 2) := Lib.hid (by rw [← hW]; simp)
  have HR := Lib.hid (hR.below HB.out)
  have HL := Lib.hid (hL.below HB.out)
  have HN := Lib.hid hnil
  clear hR hL hnil
  go_enter Tryz.func8, Tryz.ntmps8
  go_upto_region 1 with fail
  try rw [hW]
  clear hW
  go_cut [6] from 7 to 13 (fun s wx => s = .int .i64 (Pure.strC r d ln L) ∧ Below W.heap.size W wx)
  case first =>
    rename_i J K' hJ hK'
    generalize hA : (Act.mk _ _ : Act) = a0
    have m1 : At a0 1 (.slice la ln lc) := by rw [← hA]; rfl
    have m2 : At a0 2 (.pointer (some ⟨w.heap.size, 0, none⟩)) := by rw [← hA]; rfl
    have hsz : 13 < a0.tmps.size := by rw [← hA]; exact of_decide_eq_true (by kernel_rfl)
    have hfin : ∀ a' w', Kept (6 :: List.range' 7 7) a0 a' → At a' 6 (.int .i64 (Pure.strC r d ln L)) → (Below W.heap.size W w') → K' a' w' := by
      intro a' w' hI hv6 hL
      refine hK' _ _ (Met.intro (hJ _ _ ⟨a'.tmps.getD 6 undef, a'.tmps.getD 7 undef, a'.tmps.getD 8 undef, a'.tmps.getD 9 undef, a'.tmps.getD 10 undef, a'.tmps.getD 11 undef, a'.tmps.getD 12 undef, a'.tmps.getD 13 undef, ⟨by have g := hv6; unfold At at g; rw [Array.getD_eq_getD_getElem?, g]; rfl, hL⟩, hI.eq.trans ?_⟩))
      rw [← hA]
      kernel_rfl
    have hI : Kept (6 :: List.range' 7 7) a0 a0 := Kept.refl _ _
    clear hA hJ hK' J
    refine with_pan (fun d _ _ _ _ h => by cases d <;> exact h) ?_
    intro hpan
    refine wp_region_rest (fun z => z.heap[w.heap.size]? = some (rollB r)) (by kernel_rfl) ?_
    obtain ⟨wz, hwz⟩ : ∃ x, W.drew = x := ⟨_, rfl⟩
    change Rest _ _ _ _ _ _ _ (W.drew)
    rw [hwz]
    have hq : Below W.heap.size W wz := by rw [← hwz]; exact (Below.refl _ _).drew
    clear hwz
    have hS : wz.heap[w.heap.size]? = some (rollB r) := heap_lft HX.out hq
    refine rest_take (k := 0) (d := 7) (v := rollV r) hI rfl rfl (by kernel_rfl) (Nat.lt_of_le_of_lt (by decide) hsz) (by kernel_rfl) hpan (by kernel_rfl) hS (wanted_free rfl) (fun z hz => by have n2 := hI.at m2 (by kernel_rfl); have e2 := n2; have f2 := n2.eval; unfold At at e2; have k0 := heap_cell hz (j := 0) rfl; have k1 := heap_cell hz (j := 1) rfl; have k2 := heap_cell hz (j := 2) rfl; have k3 := heap_cell hz (j := 3) rfl; have k4 := heap_cell hz (j := 4) rfl; simp [go_sem, e2, k0, k1, k2, k3, k4]) (fun a' hI' n7' hk => ?_)
    have n7 := n7'
    replace hI := hI'
    clear hk hI' n7'
    obtain ⟨act9, rfl⟩ : ∃ x, x = a' := ⟨_, rfl⟩
    refine rest_take (k := 2) (d := 9) (v := rollV r) hI rfl rfl (by kernel_rfl) (Nat.lt_of_le_of_lt (by decide) hsz) (by kernel_rfl) hpan (by kernel_rfl) hS (wanted_free rfl) (fun z hz => by have n2 := hI.at m2 (by kernel_rfl); have e2 := n2; have f2 := n2.eval; unfold At at e2; have k0 := heap_cell hz (j := 0) rfl; have k1 := heap_cell hz (j := 1) rfl; have k2 := heap_cell hz (j := 2) rfl; have k3 := heap_cell hz (j := 3) rfl; have k4 := heap_cell hz (j := 4) rfl; simp [go_sem, e2, k0, k1, k2, k3, k4]) (fun a' hI' n9' hk => ?_)
    replace n7 := hk _ _ n7 rfl
    have n9 := n9'
    replace hI := hI'
    clear hk hI' n9'
    obtain ⟨act9, rfl⟩ : ∃ x, x = a' := ⟨_, rfl⟩
    refine rest_take (k := 3) (d := 10) (v := .slice la ln lc) hI rfl rfl (by kernel_rfl) (Nat.lt_of_le_of_lt (by decide) hsz) (by kernel_rfl) hpan (by kernel_rfl) hS (wanted_free rfl) (fun z hz => by have n1 := hI.at m1 (by kernel_rfl); have e1 := n1; have f1 := n1.eval; unfold At at e1; simp [go_sem, e1]) (fun a' hI' n10' hk => ?_)
    replace n7 := hk _ _ n7 rfl
    replace n9 := hk _ _ n9 rfl
    have n10 := n10'
    replace hI := hI'
    clear hk hI' n10'
    obtain ⟨act9, rfl⟩ : ∃ x, x = a' := ⟨_, rfl⟩
    refine rest_only (k := 1) (by kernel_rfl) (op_call (k := 1) (d := 8) (R := fun v w' => v = .int .i64 (Pure.checkE r d) ∧ Below wz.heap.size wz w') hI rfl rfl (by kernel_rfl) (Nat.lt_of_le_of_lt (by decide) hsz) (wanted_free rfl) ((tCheck_any r d hN _ (HR.out.below hq)).mono fun e w' g => ⟨_, g.1, rfl, g.2⟩) (by have e7 := n7; have f7 := n7.eval; unfold At at e7; simp [go_sem, e7]) ?_)
    intro v w' a' hR' hI' n8' hk
    obtain ⟨rfl, hb⟩ := hR'
    refine ⟨heap_lft hS hb, ?_⟩
    replace n7 := hk _ _ n7 rfl
    replace n9 := hk _ _ n9 rfl
    replace n10 := hk _ _ n10 rfl
    have n8 := n8'
    replace hI := hI'
    clear hk hI' n8'
    obtain ⟨act9, rfl⟩ : ∃ x, x = a' := ⟨_, rfl⟩
    replace hS : w'.heap[w.heap.size]? = some (rollB r) := heap_lft hS hb
    replace hq := below_thn hq hb
    clear hb
    obtain ⟨u1, rfl⟩ : ∃ y, y = w' := ⟨_, rfl⟩
    clear n7
    refine rest_only (k := 4) (by kernel_rfl) (op_call (k := 4) (d := 11) (R := fun v w' => v = .int .i64 (Pure.err (Pure.numsOk r d ln L) 91) ∧ Below u1.heap.size u1 w') hI rfl rfl (by kernel_rfl) (Nat.lt_of_le_of_lt (by decide) hsz) (wanted_free rfl) ((checkNumbers_any r d la ln lc L hN hl _ (HR.out.below hq) (HL.out.below hq)).mono fun e w' g => ⟨_, g.1, rfl, g.2⟩) (by have e9 := n9; have f9 := n9.eval; unfold At at e9; have e10 := n10; have f10 := n10.eval; unfold At at e10; simp [go_sem, e9, e10]) ?_)
    intro v w' a' hR' hI' n11' hk
    obtain ⟨rfl, hb⟩ := hR'
    refine ⟨heap_lft hS hb, ?_⟩
    replace n9 := hk _ _ n9 rfl
    replace n10 := hk _ _ n10 rfl
    replace n8 := hk _ _ n8 rfl
    have n11 := n11'
    replace hI := hI'
    clear hk hI' n11'
    obtain ⟨act9, rfl⟩ : ∃ x, x = a' := ⟨_, rfl⟩
    replace hS : w'.heap[w.heap.size]? = some (rollB r) := heap_lft hS hb
    replace hq := below_thn hq hb
    clear hb
    obtain ⟨u2, rfl⟩ : ∃ y, y = w' := ⟨_, rfl⟩
    clear n9
    clear n10
    have hn1 := below_new u2 (.cells #[.int .i64 (Pure.checkE r d), .int .i64 (Pure.err (Pure.numsOk r d ln L) 91)] 37)
    have hca := heap_top u2 (.cells #[.int .i64 (Pure.checkE r d), .int .i64 (Pure.err (Pure.numsOk r d ln L) 91)] 37) rfl
    have hq1 := below_thn hq hn1
    have hs1 := heap_lft hS hn1
    obtain ⟨u3, hwe⟩ : ∃ y, u2.alloc (.cells #[.int .i64 (Pure.checkE r d), .int .i64 (Pure.err (Pure.numsOk r d ln L) 91)] 37) = y := ⟨_, rfl⟩
    rw [hwe] at hn1 hca hq1 hs1
    refine rest_only (k := 5) (by kernel_rfl) (op_value (k := 5) (d := 12) (v := .slice (some ⟨u2.heap.size, 0, none⟩) 2 2) hI rfl rfl (by kernel_rfl) (Nat.lt_of_le_of_lt (by decide) hsz) (wanted_free rfl) (by have e8 := n8; have f8 := n8.eval; unfold At at e8; have e11 := n11; have f11 := n11.eval; unfold At at e11; simp [go_sem, e8, e11]; try rfl) (fun a' hI' n12' hk => ⟨by rw [hwe]; exact hs1, ?_⟩))
    replace n8 := hk _ _ n8 rfl
    replace n11 := hk _ _ n11 rfl
    have n12 := n12'
    replace hI := hI'
    clear hk hI' n12'
    obtain ⟨act9, rfl⟩ : ∃ x, x = a' := ⟨_, rfl⟩
    rw [hwe]
    replace hS := hs1
    replace hq := hq1
    clear hwe hs1 hq1 hn1
    clear n8
    clear n11
    refine rest_only (k := 6) (by kernel_rfl) (op_call (k := 6) (d := 13) (R := fun v w' => v = .int .i64 (if Pure.checkE r d = 0 then Pure.err (Pure.numsOk r d ln L) 91 else Pure.checkE r d) ∧ Below u3.heap.size u3 w') hI rfl rfl (by kernel_rfl) (Nat.lt_of_le_of_lt (by decide) hsz) (wanted_free rfl) ((tfirstErr2 _ _ u2.heap.size 2 _ (heap_cell hca (j := 0) rfl) (heap_cell hca (j := 1) rfl)).mono fun e w' g => ⟨_, g.1, rfl, g.2⟩) (by have e12 := n12; have f12 := n12.eval; unfold At at e12; simp [go_sem, e12]) ?_)
    intro v w' a' hR' hI' n13' hk
    obtain ⟨rfl, hb⟩ := hR'
    refine ⟨heap_lft hS hb, ?_⟩
    replace n12 := hk _ _ n12 rfl
    have n13 := n13'
    replace hI := hI'
    clear hk hI' n13'
    obtain ⟨act9, rfl⟩ : ∃ x, x = a' := ⟨_, rfl⟩
    replace hS : w'.heap[w.heap.size]? = some (rollB r) := heap_lft hS hb
    replace hq := below_thn hq hb
    clear hb
    obtain ⟨u4, rfl⟩ : ∃ y, y = w' := ⟨_, rfl⟩
    clear n12
    refine rest_take (k := 7) (d := 6) (v := .int .i64 (if Pure.checkE r d = 0 then Pure.err (Pure.numsOk r d ln L) 91 else Pure.checkE r d)) hI rfl rfl (by kernel_rfl) (Nat.lt_of_le_of_lt (by decide) hsz) (by kernel_rfl) hpan (by kernel_rfl) hS (wanted_free rfl) (fun z hz => by have e13 := n13; have f13 := n13.eval; unfold At at e13; simp [go_sem, e13]) (fun a' hI' n6' hk => ?_)
    replace n13 := hk _ _ n13 rfl
    have n6 := n6'
    replace hI := hI'
    clear hk hI' n6'
    obtain ⟨act9, rfl⟩ : ∃ x, x = a' := ⟨_, rfl⟩
    refine rest_done (by kernel_rfl) ?_
    exact hfin _ _ hI n6 hq
  case rest =>
    obtain ⟨V, rfl⟩ : ∃ x, x = wc := ⟨_, rfl⟩
    obtain ⟨rfl, hb⟩ := hcut
    have HX1 := Lib.hid (heap_lft HX.out hb)
    have HZ1 := Lib.hid (heap_lft HZ.out hb)
    have HB1 := Lib.hid (below_thn HB.out hb)
    have HR1 := Lib.hid (HR.out.below hb)
    have HL1 := Lib.hid (HL.out.below hb)
    have HS1 : Hid (w.heap.size + 2 ≤ V.heap.size) := Lib.hid (by have := hb.size; have := HSZ.out; omega)
    clear hb HX HZ HB HR HL HSZ
    obtain ⟨c, hc⟩ : ∃ c, Pure.strC r d ln L = c := ⟨_, rfl⟩
    have HC := Lib.hid hc
    rw [hc]
    clear hc
    by_cases h0 : c = 0
    · subst h0
      have HSM : Hid (RollS r) := Lib.hid (by
        have h1 := HC.out
        unfold Pure.strC at h1
        split at h1
        · exact Pure.checkE_small (by assumption)
        · rename_i h2; exact absurd h1 h2)
      have x0 := heap_cell HX1.out (j := 0) rfl
      have x1 := heap_cell HX1.out (j := 1) rfl
      have x2 := heap_cell HX1.out (j := 2) rfl
      have x3 := heap_cell HX1.out (j := 3) rfl
      have x4 := heap_cell HX1.out (j := 4) rfl
      go_wp2_with fail
      refine (without_any r d la ln lc L HSM.out HN.out hl _ HR1.out HL1.out).mono ?_
      rintro e u ⟨r', rfl, ho, e1, e2, e3, e4, e5, hb⟩
      have HO := Lib.hid ho
      have HZ2 := Lib.hid (heap_lft HZ1.out hb)
      have HB2 := Lib.hid (below_thn HB1.out hb)
      have HE := Lib.hid (And.intro e1 (And.intro e2 (And.intro e3 (And.intro e4 e5))))
      clear ho hb e1 e2 e3 e4 e5 x0 x1 x2 x3 x4
      have z0 := heap_cell HZ2.out (j := 0) rfl
      have z1 := heap_cell HZ2.out (j := 1) rfl
      have z2 := heap_cell HZ2.out (j := 2) rfl
      have z3 := heap_cell HZ2.out (j := 3) rfl
      have z4 := heap_cell HZ2.out (j := 4) rfl
      have fz0 := heap_frozen HZ2.out 0
      have fz1 := heap_frozen HZ2.out 1
      have fz2 := heap_frozen HZ2.out 2
      have fz3 := heap_frozen HZ2.out 3
      have fz4 := heap_frozen HZ2.out 4
      go_wp2_with fail
      refine bodyPost_ret (v := .tuple #[rollV r', .int .i64 0]) (by simp [results, Tryz.results8, go_sem, z0, z1, z2, z3, z4]; try rfl) rfl ⟨r', by rw [HC.out], ?_, ?_⟩
      · rw [HC.out]
        refine ⟨?_, HE.out.1, HE.out.2.1, HE.out.2.2.1, HE.out.2.2.2.1, HE.out.2.2.2.2⟩
        have h2 := HS1.out
        refine OwnRoll.base (base := V.heap.size) ?_ (by omega)
        repeat (first | with_reducible exact HO.out | with_reducible refine OwnRoll.set ?_ (by dsimp only; omega) _)
      · repeat (first | with_reducible exact HB2.out | with_reducible refine Below.setCell ?_ (by dsimp only; omega) _)
    · have e1 : (c != 0) = true := by simpa using h0
      have HC0 := Lib.hid h0
      clear h0
      have z0 := heap_cell HZ1.out (j := 0) rfl
      have z1 := heap_cell HZ1.out (j := 1) rfl
      have z2 := heap_cell HZ1.out (j := 2) rfl
      have z3 := heap_cell HZ1.out (j := 3) rfl
      have z4 := heap_cell HZ1.out (j := 4) rfl
      have fz0 := heap_frozen HZ1.out 0
      have fz1 := heap_frozen HZ1.out 1
      have fz2 := heap_frozen HZ1.out 2
      have fz3 := heap_frozen HZ1.out 3
      have fz4 := heap_frozen HZ1.out 4
      go_wp2_with fail
      refine bodyPost_ret (v := .tuple #[rollV nilRoll, .int .i64 (c)]) (by simp [results, Tryz.results8, go_sem, z0, z1, z2, z3, z4, nilRoll]; try rfl) rfl ⟨nilRoll, by rw [HC.out], by rw [HC.out, decide_eq_false HC0.out]; exact nil_out _ _ _ _ _ _ _ _, ?_⟩
      repeat (first | with_reducible exact HB1.out | with_reducible refine Below.setCell ?_ (by dsimp only; omega) _)

set_option maxHeartbeats 16000000 in
set_option maxRecDepth 100000 in
/-- **Put**. -/
theorem put_any (r : RollX) (d : RollD) (x : NoteX) (hN : RollN r) (hnil : RollNil r) (w : World) (hR : RollAt w r d) :
    Calls Tryz.prog 6 #[rollV r, tnoteV x] w fun e w' => ∃ r', e = .returned (.tuple #[rollV r', .int .i64 (Pure.putE r d x)]) ∧ RollOut w' w.heap.size (decide (Pure.putE r d x = 0)) r.pn r.wn r.mn r.sn (r.nn + 1) (Pure.insD r d x) r' ∧ Below w.heap.size w w' := by
  obtain ⟨W, hW⟩ : ∃ W, ((w.alloc (rollB r)).alloc (tnoteB x)).alloc ZB = W := ⟨_, rfl⟩
  have HB : Hid (Below w.heap.size w W) := Lib.hid (by rw [← hW]; exact ((below_new _ _).alloc (by simp) _).alloc (by simp; omega) _)
  have HX : Hid (W.heap[w.heap.size]? = some (rollB r)) := Lib.hid (by rw [← hW]; exact heap_up (heap_up (heap_top _ _ rfl) _) _)
  have HY : Hid (W.heap[w.heap.size + 1]? = some (tnoteB x)) := Lib.hid (by rw [← hW]; exact heap_up (heap_top _ _ (by simp)) _)
  have HZ : Hid (W.heap[w.heap.size + 1 + 1]? = some ZB) := Lib.hid (by rw [← hW]; exact heap_top _ _ (by simp))
  have HSZ : Hid (W.heap.size = w.heap.size + 3) := Lib.hid (by rw [← hW]; simp)
  have HR := Lib.hid (hR.below HB.out)
  have HN := Lib.hid hnil
  clear hR hnil
  go_enter Tryz.func6, Tryz.ntmps6
  go_upto_region 1 with fail
  try rw [hW]
  clear hW
  go_cut [6] from 10 to 18 (fun s wx => s = .int .i64 (Pure.putC r d) ∧ Below W.heap.size W wx)
  case first =>
    rename_i J K' hJ hK'
    generalize hA : (Act.mk _ _ : Act) = a0
    have m2 : At a0 2 (.pointer (some ⟨w.heap.size, 0, none⟩)) := by rw [← hA]; rfl
    have hsz : 18 < a0.tmps.size := by rw [← hA]; exact of_decide_eq_true (by kernel_rfl)
    have hfin : ∀ a' w', Kept (6 :: List.range' 10 9) a0 a' → At a' 6 (.int .i64 (Pure.putC r d)) → (Below W.heap.size W w') → K' a' w' := by
      intro a' w' hI hv6 hL
      refine hK' _ _ (Met.intro (hJ _ _ ⟨a'.tmps.getD 6 undef, a'.tmps.getD 10 undef, a'.tmps.getD 11 undef, a'.tmps.getD 12 undef, a'.tmps.getD 13 undef, a'.tmps.getD 14 undef, a'.tmps.getD 15 undef, a'.tmps.getD 16 undef, a'.tmps.getD 17 undef, a'.tmps.getD 18 undef, ⟨by have g := hv6; unfold At at g; rw [Array.getD_eq_getD_getElem?, g]; rfl, hL⟩, hI.eq.trans ?_⟩))
      rw [← hA]
      kernel_rfl
    have hI : Kept (6 :: List.range' 10 9) a0 a0 := Kept.refl _ _
    clear hA hJ hK' J
    refine with_pan (fun d _ _ _ _ h => by cases d <;> exact h) ?_
    intro hpan
    refine wp_region_rest (fun z => z.heap[w.heap.size]? = some (rollB r)) (by kernel_rfl) ?_
    obtain ⟨wz, hwz⟩ : ∃ x, W.drew = x := ⟨_, rfl⟩
    change Rest _ _ _ _ _ _ _ (W.drew)
    rw [hwz]
    have hq : Below W.heap.size W wz := by rw [← hwz]; exact (Below.refl _ _).drew
    clear hwz
    have hS : wz.heap[w.heap.size]? = some (rollB r) := heap_lft HX.out hq
    refine rest_take (k := 0) (d := 10) (v := rollV r) hI rfl rfl (by kernel_rfl) (Nat.lt_of_le_of_lt (by decide) hsz) (by kernel_rfl) hpan (by kernel_rfl) hS (wanted_free rfl) (fun z hz => by have n2 := hI.at m2 (by kernel_rfl); have e2 := n2; have f2 := n2.eval; unfold At at e2; have k0 := heap_cell hz (j := 0) rfl; have k1 := heap_cell hz (j := 1) rfl; have k2 := heap_cell hz (j := 2) rfl; have k3 := heap_cell hz (j := 3) rfl; have k4 := heap_cell hz (j := 4) rfl; simp [go_sem, e2, k0, k1, k2, k3, k4]) (fun a' hI' n10' hk => ?_)
    have n10 := n10'
    replace hI := hI'
    clear hk hI' n10'
    obtain ⟨act9, rfl⟩ : ∃ x, x = a' := ⟨_, rfl⟩
    refine rest_take (k := 2) (d := 12) (v := .pointer (some ⟨w.heap.size, 4, none⟩)) hI rfl rfl (by kernel_rfl) (Nat.lt_of_le_of_lt (by decide) hsz) (by kernel_rfl) hpan (by kernel_rfl) hS (wanted_free rfl) (fun z hz => by have n2 := hI.at m2 (by kernel_rfl); have e2 := n2; have f2 := n2.eval; unfold At at e2; simp [go_sem, e2]) (fun a' hI' n12' hk => ?_)
    replace n10 := hk _ _ n10 rfl
    have n12 := n12'
    replace hI := hI'
    clear hk hI' n12'
    obtain ⟨act9, rfl⟩ : ∃ x, x = a' := ⟨_, rfl⟩
    refine rest_take (k := 3) (d := 13) (v := .slice r.na r.nn r.nc) hI rfl rfl (by kernel_rfl) (Nat.lt_of_le_of_lt (by decide) hsz) (by kernel_rfl) hpan (by kernel_rfl) hS (wanted_free rfl) (fun z hz => by have e12 := n12; have f12 := n12.eval; unfold At at e12; have k4 := heap_cell hz (j := 4) rfl; simp [go_sem, e12, k4]) (fun a' hI' n13' hk => ?_)
    replace n10 := hk _ _ n10 rfl
    replace n12 := hk _ _ n12 rfl
    have n13 := n13'
    replace hI := hI'
    clear hk hI' n13'
    obtain ⟨act9, rfl⟩ : ∃ x, x = a' := ⟨_, rfl⟩
    clear n12
    refine rest_take (k := 4) (d := 14) (v := .int .i64 r.nn) hI rfl rfl (by kernel_rfl) (Nat.lt_of_le_of_lt (by decide) hsz) (by kernel_rfl) hpan (by kernel_rfl) hS (wanted_free rfl) (fun z hz => by have e13 := n13; have f13 := n13.eval; unfold At at e13; simp [go_sem, e13]) (fun a' hI' n14' hk => ?_)
    replace n10 := hk _ _ n10 rfl
    replace n13 := hk _ _ n13 rfl
    have n14 := n14'
    replace hI := hI'
    clear hk hI' n14'
    obtain ⟨act9, rfl⟩ : ∃ x, x = a' := ⟨_, rfl⟩
    clear n13
    refine rest_take (k := 5) (d := 15) (v := .bool (decide ((r.nn : Int) < 24))) hI rfl rfl (by kernel_rfl) (Nat.lt_of_le_of_lt (by decide) hsz) (by kernel_rfl) hpan (by kernel_rfl) hS (wanted_free rfl) (fun z hz => by have e14 := n14; have f14 := n14.eval; unfold At at e14; simp [go_sem, e14]) (fun a' hI' n15' hk => ?_)
    replace n10 := hk _ _ n10 rfl
    replace n14 := hk _ _ n14 rfl
    have n15 := n15'
    replace hI := hI'
    clear hk hI' n15'
    obtain ⟨act9, rfl⟩ : ∃ x, x = a' := ⟨_, rfl⟩
    clear n14
    refine rest_only (k := 1) (by kernel_rfl) (op_call (k := 1) (d := 11) (R := fun v w' => v = .int .i64 (Pure.checkE r d) ∧ Below wz.heap.size wz w') hI rfl rfl (by kernel_rfl) (Nat.lt_of_le_of_lt (by decide) hsz) (wanted_free rfl) ((tCheck_any r d hN _ (HR.out.below hq)).mono fun e w' g => ⟨_, g.1, rfl, g.2⟩) (by have e10 := n10; have f10 := n10.eval; unfold At at e10; simp [go_sem, e10]) ?_)
    intro v w' a' hR' hI' n11' hk
    obtain ⟨rfl, hb⟩ := hR'
    refine ⟨heap_lft hS hb, ?_⟩
    replace n10 := hk _ _ n10 rfl
    replace n15 := hk _ _ n15 rfl
    have n11 := n11'
    replace hI := hI'
    clear hk hI' n11'
    obtain ⟨act9, rfl⟩ : ∃ x, x = a' := ⟨_, rfl⟩
    replace hS : w'.heap[w.heap.size]? = some (rollB r) := heap_lft hS hb
    replace hq := below_thn hq hb
    clear hb
    obtain ⟨u1, rfl⟩ : ∃ y, y = w' := ⟨_, rfl⟩
    clear n10
    refine rest_only (k := 6) (by kernel_rfl) (op_call (k := 6) (d := 16) (R := fun v w' => v = .int .i64 (Pure.err (decide ((r.nn : Int) < 24)) 9) ∧ u1 = w') hI rfl rfl (by kernel_rfl) (Nat.lt_of_le_of_lt (by decide) hsz) (wanted_free rfl) ((tunless_any _ _ _).mono fun e w' g => ⟨_, g.1, rfl, g.2⟩) (by have e15 := n15; have f15 := n15.eval; unfold At at e15; simp [go_sem, e15]) ?_)
    intro v w' a' hR' hI' n16' hk
    obtain ⟨rfl, rfl⟩ := hR'
    refine ⟨hS, ?_⟩
    replace n15 := hk _ _ n15 rfl
    replace n11 := hk _ _ n11 rfl
    have n16 := n16'
    replace hI := hI'
    clear hk hI' n16'
    obtain ⟨act9, rfl⟩ : ∃ x, x = a' := ⟨_, rfl⟩
    obtain ⟨u2, rfl⟩ : ∃ y, y = u1 := ⟨_, rfl⟩
    clear n15
    have hn1 := below_new u2 (.cells #[.int .i64 (Pure.checkE r d), .int .i64 (Pure.err (decide ((r.nn : Int) < 24)) 9)] 37)
    have hca := heap_top u2 (.cells #[.int .i64 (Pure.checkE r d), .int .i64 (Pure.err (decide ((r.nn : Int) < 24)) 9)] 37) rfl
    have hq1 := below_thn hq hn1
    have hs1 := heap_lft hS hn1
    obtain ⟨u3, hwe⟩ : ∃ y, u2.alloc (.cells #[.int .i64 (Pure.checkE r d), .int .i64 (Pure.err (decide ((r.nn : Int) < 24)) 9)] 37) = y := ⟨_, rfl⟩
    rw [hwe] at hn1 hca hq1 hs1
    refine rest_only (k := 7) (by kernel_rfl) (op_value (k := 7) (d := 17) (v := .slice (some ⟨u2.heap.size, 0, none⟩) 2 2) hI rfl rfl (by kernel_rfl) (Nat.lt_of_le_of_lt (by decide) hsz) (wanted_free rfl) (by have e11 := n11; have f11 := n11.eval; unfold At at e11; have e16 := n16; have f16 := n16.eval; unfold At at e16; simp [go_sem, e11, e16]; try rfl) (fun a' hI' n17' hk => ⟨by rw [hwe]; exact hs1, ?_⟩))
    replace n11 := hk _ _ n11 rfl
    replace n16 := hk _ _ n16 rfl
    have n17 := n17'
    replace hI := hI'
    clear hk hI' n17'
    obtain ⟨act9, rfl⟩ : ∃ x, x = a' := ⟨_, rfl⟩
    rw [hwe]
    replace hS := hs1
    replace hq := hq1
    clear hwe hs1 hq1 hn1
    clear n11
    clear n16
    refine rest_only (k := 8) (by kernel_rfl) (op_call (k := 8) (d := 18) (R := fun v w' => v = .int .i64 (if Pure.checkE r d = 0 then Pure.err (decide ((r.nn : Int) < 24)) 9 else Pure.checkE r d) ∧ Below u3.heap.size u3 w') hI rfl rfl (by kernel_rfl) (Nat.lt_of_le_of_lt (by decide) hsz) (wanted_free rfl) ((tfirstErr2 _ _ u2.heap.size 2 _ (heap_cell hca (j := 0) rfl) (heap_cell hca (j := 1) rfl)).mono fun e w' g => ⟨_, g.1, rfl, g.2⟩) (by have e17 := n17; have f17 := n17.eval; unfold At at e17; simp [go_sem, e17]) ?_)
    intro v w' a' hR' hI' n18' hk
    obtain ⟨rfl, hb⟩ := hR'
    refine ⟨heap_lft hS hb, ?_⟩
    replace n17 := hk _ _ n17 rfl
    have n18 := n18'
    replace hI := hI'
    clear hk hI' n18'
    obtain ⟨act9, rfl⟩ : ∃ x, x = a' := ⟨_, rfl⟩
    replace hS : w'.heap[w.heap.size]? = some (rollB r) := heap_lft hS hb
    replace hq := below_thn hq hb
    clear hb
    obtain ⟨u4, rfl⟩ : ∃ y, y = w' := ⟨_, rfl⟩
    clear n17
    refine rest_take (k := 9) (d := 6) (v := .int .i64 (if Pure.checkE r d = 0 then Pure.err (decide ((r.nn : Int) < 24)) 9 else Pure.checkE r d)) hI rfl rfl (by kernel_rfl) (Nat.lt_of_le_of_lt (by decide) hsz) (by kernel_rfl) hpan (by kernel_rfl) hS (wanted_free rfl) (fun z hz => by have e18 := n18; have f18 := n18.eval; unfold At at e18; simp [go_sem, e18]) (fun a' hI' n6' hk => ?_)
    replace n18 := hk _ _ n18 rfl
    have n6 := n6'
    replace hI := hI'
    clear hk hI' n6'
    obtain ⟨act9, rfl⟩ : ∃ x, x = a' := ⟨_, rfl⟩
    refine rest_done (by kernel_rfl) ?_
    exact hfin _ _ hI n6 hq
  case rest =>
    obtain ⟨V, rfl⟩ : ∃ x, x = wc := ⟨_, rfl⟩
    obtain ⟨rfl, hb⟩ := hcut
    have HX1 := Lib.hid (heap_lft HX.out hb)
    have HY1 := Lib.hid (heap_lft HY.out hb)
    have HZ1 := Lib.hid (heap_lft HZ.out hb)
    have HB1 := Lib.hid (below_thn HB.out hb)
    have HR1 := Lib.hid (HR.out.below hb)
    have HS1 : Hid (w.heap.size + 3 ≤ V.heap.size) := Lib.hid (by have := hb.size; have := HSZ.out; omega)
    clear hb HX HY HZ HB HR HSZ
    obtain ⟨c, hc⟩ : ∃ c, Pure.putC r d = c := ⟨_, rfl⟩
    have HC := Lib.hid hc
    rw [hc]
    clear hc
    by_cases h0 : c = 0
    · subst h0
      have HSM := Lib.hid (Pure.checkE_small (Pure.putC_zero HC.out).1)
      have HST := Lib.hid (Pure.checkE_sorted (Pure.putC_zero HC.out).1)
      have x0 := heap_cell HX1.out (j := 0) rfl
      have x1 := heap_cell HX1.out (j := 1) rfl
      have x2 := heap_cell HX1.out (j := 2) rfl
      have x3 := heap_cell HX1.out (j := 3) rfl
      have x4 := heap_cell HX1.out (j := 4) rfl
      go_wp2_with fail
      refine (without_any r d none 0 0 (fun _ => 0) HSM.out HN.out (by omega) _ HR1.out (fun j hj => absurd hj (by omega))).mono ?_
      rintro e u ⟨r1, rfl, ho, e1, e2, e3, e4, e5, hb⟩
      obtain ⟨hk1, hk2⟩ := Pure.keep_none (fun j => Pure.has 0 (fun _ => 0) (d.N j).n) d.N r.nn (fun j _ => rfl)
      rw [hk1] at e5
      have ho2 : OwnRoll u V.heap.size r1 d := ⟨ho.p, ho.g, ho.m, ho.s, ho.n.congr fun q hq => by
        rw [noteF_split, noteF_split d.N]
        have h9 : (Pure.struckD r d 0 fun _ => 0).N (q / 7) = d.N (q / 7) := hk2 (q / 7) (by omega)
        rw [h9]⟩
      have HE := Lib.hid (And.intro e1 (And.intro e2 (And.intro e3 (And.intro e4 e5))))
      obtain ⟨U, hU⟩ : ∃ U, u.alloc (rollB r1) = U := ⟨_, rfl⟩
      have HBU := Lib.hid (show Below u.heap.size u U by rw [← hU]; exact below_new _ _)
      have HUS : Hid (U.heap.size = u.heap.size + 1) := Lib.hid (by rw [← hU]; simp)
      have H7 : Hid (U.heap[u.heap.size]? = some (rollB r1)) := Lib.hid (by rw [← hU]; exact heap_top _ _ rfl)
      have HO := Lib.hid (ho2.below HBU.out)
      have HOL := Lib.hid ho2
      have HVS := Lib.hid hb.size
      have HUU0 : Hid (∀ i, i < u.heap.size → U.heap[i]? = u.heap[i]?) := Lib.hid (fun i hi => HBU.out.block i hi)
      have HY2 := Lib.hid (heap_lft (heap_lft HY1.out hb) HBU.out)
      have HZ2 := Lib.hid (heap_lft (heap_lft HZ1.out hb) HBU.out)
      have HB2 := Lib.hid (below_thn (below_thn HB1.out hb) HBU.out)
      clear ho ho2 hb e1 e2 e3 e4 e5 hk1 hk2 x0 x1 x2 x3 x4 HX1 HY1 HZ1 HB1 HR1
      go_upto_region 5 with fail
      try rw [hU]
      clear hU
      have s4 := heap_cell H7.out (j := 4) rfl
      have y0 := heap_cell HY2.out (j := 0) rfl
      go_wp2_with fail
      refine (search_any r1.na r1.nn r1.nc d.N x.n (by have := HE.out.2.2.2.2; have := HSM.out.n; omega) (fun m n hm hn => HST.out m n hm (by have := HE.out.2.2.2.2; omega)) _ HO.out.n.nums.notes).mono ?_
      rintro e U2 ⟨i, bq, rfl, hi, hlow, hhigh, hb⟩
      have HPO : Hid (Pure.posN r.nn d.N x.n = i) := Lib.hid (Pure.posN_eq (by have := HE.out.2.2.2.2; omega) hlow (fun h => hhigh i (Nat.le_refl _) (by have := HE.out.2.2.2.2; omega)))
      have HI := Lib.hid hi
      have HUU : Hid (∀ i, i < u.heap.size → U2.heap[i]? = u.heap[i]?) := Lib.hid (fun i hi => (hb.block i (by have := HUS.out; omega)).trans (HUU0.out i hi))
      have H72 := Lib.hid (heap_lft H7.out hb)
      have HO2 := Lib.hid (HO.out.below hb)
      have HY3 := Lib.hid (heap_lft HY2.out hb)
      have HZ3 := Lib.hid (heap_lft HZ2.out hb)
      have HB3 := Lib.hid (below_thn HB2.out hb)
      have HUS2 : Hid (u.heap.size + 1 ≤ U2.heap.size) := Lib.hid (by have := HUS.out; have := hb.size; omega)
      clear hi hlow hhigh hb s4 y0 HO H7 HY2 HZ2 HB2 HUS HBU
      have s4 := heap_cell H72.out (j := 4) rfl
      have y0 := heap_cell HY3.out (j := 0) rfl
      have y1 := heap_cell HY3.out (j := 1) rfl
      have y2 := heap_cell HY3.out (j := 2) rfl
      have y3 := heap_cell HY3.out (j := 3) rfl
      have y4 := heap_cell HY3.out (j := 4) rfl
      have y5 := heap_cell HY3.out (j := 5) rfl
      have y6 := heap_cell HY3.out (j := 6) rfl
      go_wp2_with fail
      have hbn := below_new U2 (tnoteB x)
      refine (insert_any r1.na r1.nn r1.nc (noteF d.N) (noteF fun _ => x) (noteF_one _) (noteF_one _) V.heap.size i U2.heap.size 1 (by have := HE.out.2.2.2.2; have := HSM.out.n; omega) HI.out _ x (heap_top _ _ rfl) (note_one (heap_top U2 (tnoteB x) rfl)).vals (fun y hy e => by have h1 := (HO2.out.n.lt y hy).2; omega) (by have := HUS2.out; have := HVS.out; simp; omega) (HO2.out.n.below hbn)).mono ?_
      rintro e U3 ⟨na, nc, rfl, hov, hbs, hal⟩
      have hkeep : ∀ y : Addr, ∀ cu tt, U2.heap[y.block]? = some (.cells cu tt) → tt ≠ 34 → U3.heap[y.block]? = U2.heap[y.block]? := fun y cu tt hy hn => by
        have hlt := (Array.getElem?_eq_some_iff.1 hy).1
        refine (hal y.block (by simp; omega) (fun z hz e => ?_)).trans (hbn.block _ hlt)
        rw [e] at hy
        exact HO2.out.n.ne hy (fun h => hn h.symm) z hz rfl
      have H73 := Lib.hid ((hkeep ⟨u.heap.size, 0, none⟩ _ _ H72.out (by decide)).trans H72.out)
      have HZ4 := Lib.hid ((hbs.block _ (by have := HS1.out; omega)).trans ((hbn.block _ (by have := HUS2.out; have := HVS.out; have := HS1.out; omega)).trans HZ3.out))
      have HB4 : Hid (Below w.heap.size w U3) := Lib.hid ((below_thn HB3.out hbn).trans (hbs.mono (by have := HS1.out; omega)))
      have HOV := Lib.hid (hov.congr (G := noteF (Pure.insN d.N i x)) fun q _ => Pure.insV_notes d.N i x q)
      have HKE := Lib.hid hkeep
      have HU3 : Hid (u.heap.size < U3.heap.size) := Lib.hid (Array.getElem?_eq_some_iff.1 H73.out).1
      clear hov hbs hal hbn hkeep s4 y0 y1 y2 y3 y4 y5 y6 HY3 HZ3 HB3
      have s4 := heap_cell H73.out (j := 4) rfl
      have fs4 := heap_frozen H73.out 4
      obtain ⟨U4, hU4⟩ : ∃ U4, U3.setCell ⟨u.heap.size, 4, none⟩ (.slice na (r1.nn + 1) nc) = U4 := ⟨_, rfl⟩
      have H74 : Hid (U4.heap[u.heap.size]? = some (rollB ⟨r1.pa, r1.pn, r1.pc, r1.wa, r1.wn, r1.wc, r1.ma, r1.mn, r1.mc, r1.sa, r1.sn, r1.sc, na, r1.nn + 1, nc⟩)) := Lib.hid (by rw [← hU4]; exact heap_set H73.out 4 _)
      have HO4 : Hid (OwnRoll U4 V.heap.size ⟨r1.pa, r1.pn, r1.pc, r1.wa, r1.wn, r1.wc, r1.ma, r1.mn, r1.mc, r1.sa, r1.sn, r1.sc, na, r1.nn + 1, nc⟩ { d with N := Pure.insN d.N i x }) := Lib.hid (by
        have h4 : OwnRoll u V.heap.size r1 d := HOL.out
        refine OwnRoll.moved (b7 := u.heap.size) h4 (fun y cu tt hy hn hlt => ?_) (Nat.le_refl _) _ _ _ _ ?_
        · have e1 : U2.heap[y.block]? = u.heap[y.block]? := HUU.out _ hlt
          rw [← hU4]
          refine (setCell_other (by dsimp only; omega)).trans ((HKE.out y cu tt (by rw [e1]; exact hy) hn).trans e1)
        · rw [← hU4]
          exact HOV.out.kept fun y hy => setCell_other (by dsimp only; exact HOV.out.ne H73.out (by decide) y hy))
      have HZ5 : Hid (U4.heap[w.heap.size + 1 + 1]? = some ZB) := Lib.hid (by rw [← hU4]; exact (setCell_other (by have := HVS.out; have := HS1.out; dsimp only; omega)).trans HZ4.out)
      have HB5 : Hid (Below w.heap.size w U4) := Lib.hid (by rw [← hU4]; exact HB4.out.setCell (by have := HVS.out; have := HS1.out; dsimp only; omega) _)
      clear H73 HZ4 HB4 HOV HKE HO2 H72 HOL
      go_upto_region 7 with fail
      try rw [hU4]
      clear hU4 s4 fs4
      have s0 := heap_cell H74.out (j := 0) rfl
      have s1 := heap_cell H74.out (j := 1) rfl
      have s2 := heap_cell H74.out (j := 2) rfl
      have s3 := heap_cell H74.out (j := 3) rfl
      have s4 := heap_cell H74.out (j := 4) rfl
      go_wp2_with fail
      refine (tCheck_any _ _ ⟨by have := HE.out.1; have := hN.p; dsimp only; omega, by have := HE.out.2.1; have := hN.w; dsimp only; omega, by have := HE.out.2.2.1; have := hN.m; dsimp only; omega, by have := HE.out.2.2.2.1; have := hN.s; dsimp only; omega, by have := HE.out.2.2.2.2; have := HSM.out.n; dsimp only; omega⟩ _ HO4.out.at).mono ?_
      rintro e U5 ⟨rfl, hb⟩
      have hce : Pure.checkE ⟨r1.pa, r1.pn, r1.pc, r1.wa, r1.wn, r1.wc, r1.ma, r1.mn, r1.mc, r1.sa, r1.sn, r1.sc, na, r1.nn + 1, nc⟩ { d with N := Pure.insN d.N i x } = Pure.checkE (Pure.big r) (Pure.insD r d x) := by
        have e9 : ({ d with N := Pure.insN d.N i x } : RollD) = Pure.insD r d x := by unfold Pure.insD; rw [HPO.out]
        rw [e9]
        exact Pure.checkE_sz _ HE.out.1 HE.out.2.1 HE.out.2.2.1 HE.out.2.2.2.1 (by show r1.nn + 1 = r.nn + 1; rw [HE.out.2.2.2.2])
      rw [hce]
      obtain ⟨c2, hc2⟩ : ∃ c, Pure.checkE (Pure.big r) (Pure.insD r d x) = c := ⟨_, rfl⟩
      rw [hc2]
      have HC2 := Lib.hid hc2
      have H75 := Lib.hid (heap_lft H74.out hb)
      have HO5 := Lib.hid (HO4.out.below hb)
      have HZ6 := Lib.hid (heap_lft HZ5.out hb)
      have HB6 := Lib.hid (below_thn HB5.out hb)
      clear hb hce hc2 s0 s1 s2 s3 s4 HO4 H74 HZ5 HB5
      by_cases h2 : c2 = 0
      · subst h2
        have HPE : Hid (Pure.putE r d x = 0) := Lib.hid (by unfold Pure.putE; rw [if_pos HC.out, if_pos HC2.out])
        have s0 := heap_cell H75.out (j := 0) rfl
        have s1 := heap_cell H75.out (j := 1) rfl
        have s2 := heap_cell H75.out (j := 2) rfl
        have s3 := heap_cell H75.out (j := 3) rfl
        have s4 := heap_cell H75.out (j := 4) rfl
        have z0 := heap_cell HZ6.out (j := 0) rfl
        have z1 := heap_cell HZ6.out (j := 1) rfl
        have z2 := heap_cell HZ6.out (j := 2) rfl
        have z3 := heap_cell HZ6.out (j := 3) rfl
        have z4 := heap_cell HZ6.out (j := 4) rfl
        have fz0 := heap_frozen HZ6.out 0
        have fz1 := heap_frozen HZ6.out 1
        have fz2 := heap_frozen HZ6.out 2
        have fz3 := heap_frozen HZ6.out 3
        have fz4 := heap_frozen HZ6.out 4
        go_wp2_with fail
        refine bodyPost_ret (v := .tuple #[rollV ⟨r1.pa, r1.pn, r1.pc, r1.wa, r1.wn, r1.wc, r1.ma, r1.mn, r1.mc, r1.sa, r1.sn, r1.sc, na, r1.nn + 1, nc⟩, .int .i64 0]) (by simp [results, Tryz.results6, go_sem, z0, z1, z2, z3, z4]; try rfl) rfl ⟨_, by rw [HPE.out], ?_, ?_⟩
        · rw [HPE.out]
          have e9 : ({ d with N := Pure.insN d.N i x } : RollD) = Pure.insD r d x := by unfold Pure.insD; rw [HPO.out]
          refine ⟨?_, HE.out.1, HE.out.2.1, HE.out.2.2.1, HE.out.2.2.2.1, by show r1.nn + 1 = r.nn + 1; rw [HE.out.2.2.2.2]⟩
          have h2 := HS1.out
          rw [← e9]
          refine OwnRoll.base (base := V.heap.size) ?_ (by omega)
          repeat (first | with_reducible exact HO5.out | with_reducible refine OwnRoll.set ?_ (by dsimp only; omega) _)
        · repeat (first | with_reducible exact HB6.out | with_reducible refine Below.setCell ?_ (by dsimp only; omega) _)
      · have e1 : (c2 != 0) = true := by simpa using h2
        have HPE : Hid (Pure.putE r d x = 91) := Lib.hid (by unfold Pure.putE; rw [if_pos HC.out, if_neg (by rw [HC2.out]; exact h2)])
        clear h2
        have z0 := heap_cell HZ6.out (j := 0) rfl
        have z1 := heap_cell HZ6.out (j := 1) rfl
        have z2 := heap_cell HZ6.out (j := 2) rfl
        have z3 := heap_cell HZ6.out (j := 3) rfl
        have z4 := heap_cell HZ6.out (j := 4) rfl
        have fz0 := heap_frozen HZ6.out 0
        have fz1 := heap_frozen HZ6.out 1
        have fz2 := heap_frozen HZ6.out 2
        have fz3 := heap_frozen HZ6.out 3
        have fz4 := heap_frozen HZ6.out 4
        go_wp2_with fail
        refine bodyPost_ret (v := .tuple #[rollV nilRoll, .int .i64 (91)]) (by simp [results, Tryz.results6, go_sem, z0, z1, z2, z3, z4, nilRoll]; try rfl) rfl ⟨nilRoll, by rw [HPE.out], by rw [HPE.out]; exact nil_out _ _ _ _ _ _ _ _, ?_⟩
        repeat (first | with_reducible exact HB6.out | with_reducible refine Below.setCell ?_ (by dsimp only; omega) _)
    · have e1 : (c != 0) = true := by simpa using h0
      have HPE : Hid (Pure.putE r d x = c) := Lib.hid (by unfold Pure.putE; rw [if_neg (by rw [HC.out]; exact h0)]; exact HC.out)
      have HC0 := Lib.hid h0
      clear h0
      have z0 := heap_cell HZ1.out (j := 0) rfl
      have z1 := heap_cell HZ1.out (j := 1) rfl
      have z2 := heap_cell HZ1.out (j := 2) rfl
      have z3 := heap_cell HZ1.out (j := 3) rfl
      have z4 := heap_cell HZ1.out (j := 4) rfl
      have fz0 := heap_frozen HZ1.out 0
      have fz1 := heap_frozen HZ1.out 1
      have fz2 := heap_frozen HZ1.out 2
      have fz3 := heap_frozen HZ1.out 3
      have fz4 := heap_frozen HZ1.out 4
      go_wp2_with fail
      refine bodyPost_ret (v := .tuple #[rollV nilRoll, .int .i64 (c)]) (by simp [results, Tryz.results6, go_sem, z0, z1, z2, z3, z4, nilRoll]; try rfl) rfl ⟨nilRoll, by rw [HPE.out], by rw [HPE.out, decide_eq_false HC0.out]; exact nil_out _ _ _ _ _ _ _ _, ?_⟩
      repeat (first | with_reducible exact HB1.out | with_reducible refine Below.setCell ?_ (by dsimp only; omega) _)

end Go.Proofs.YtijfdfplebbaaaaGreat
