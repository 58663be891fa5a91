/-
  WheelChanges returns true for every input: a setting that is turned, and a shaft with one stamper more, or the errors, are the specification's, the shaft and the setting stay, and what is returned shares no memory with them; each argument reads afterwards as it read before. There is no condition.
-/
import Derived.Test.YtijfdfplebbaaabRows
import Derived.Test.YtijfdfplebbaaabVLaw
import Derived.ProofKit
import Derived.OpenShut
import Derived.Lib.SmallJoins
import Derived.Carry
import Derived.Deep.Slices
namespace Go.Proofs.Ytijfdfplebbaaab
open Go.ChangeShapes Go.WideShapes Go.ChangeAt Go.RowKit Go.Joins Go.Deep

theorem laidOut : laidOutB Try.prog = true := by kernel_rfl
theorem cellsShaft : Try.prog.cellsOf 24 = 2 := by kernel_rfl
theorem cellsStamp : Try.prog.cellsOf 27 = 3 := by kernel_rfl
theorem cellsInt : Try.prog.cellsOf 3 = 1 := by kernel_rfl
theorem cellsStamps : Try.prog.cellsOf 22 = 1 := by kernel_rfl
theorem ownKnob_none : ownKnob Try.prog.godebug = none := by kernel_rfl
theorem array3 {a : Array Value} (h : a.size = 3) : ∃ x0 x1 x2, a = #[x0, x1, x2] := by
  obtain ⟨l⟩ := a
  have h' : l.length = 3 := h
  match l, h' with
  | [x0, x1, x2], _ => exact ⟨_, _, _, rfl⟩
section
variable {H : Type} {enc : TypeId × Value → H} {w : World} {base : Nat} {sp : Nat → Bool} {held : Bool}
theorem read_int {n : Nat} {c : Value} {y : DataW H × List MemPlace} (h : DataW.trod enc Try.prog w base sp held n 3 [c] = some y) : ∃ a : Int, c = .int .i64 a ∧ y = (.lit (.int .i64 a), []) ∧ (Lit.int .i64 a).wf = true := by
  obtain ⟨a, e0, hy, wa⟩ := DataW.trod_int Try.underlying3 h
  refine ⟨a, ?_, hy, wa⟩
  simpa using e0
theorem read_num {n : Nat} {cs : List Value} {y : DataW H × List MemPlace} (h : DataW.trod enc Try.prog w base sp held n 3 cs = some y) (hl : cs.length = 1) : ∃ x : Int, cs = [.int .i64 x] ∧ (Lit.int .i64 x).wf = true := by
  match cs, hl with
  | [c0], _ =>
    obtain ⟨x, rfl, _, w0⟩ := read_int h
    exact ⟨x, rfl, w0⟩
set_option maxRecDepth 100000 in
theorem open_nums {n : Nat} {c : Value} {y : DataW H × List MemPlace} (h : DataW.trod enc Try.prog w base sp held n 25 [c] = some y) :
    ∃ (l : Option Addr) (len cap : Nat) (F : Nat → Int), c = .slice l len cap ∧ (l = none → len = 0) ∧ len ≤ cap ∧ NumsAt w l (len * 1) F ∧ ∀ j, j < len * 1 → (Lit.int .i64 (F j)).wf = true := by
  rcases open_slice Try.underlying25 h with ⟨h0, _⟩ | ⟨a, len, cap, m, n', D, Pl, h0, _, hl, hm, hmm, _, hi⟩
  · simp at h0
    subst h0
    exact ⟨none, 0, 0, fun _ => 0, rfl, fun _ => rfl, by omega, fun j hj => by omega, fun j hj => by omega⟩
  · simp at h0
    subst h0
    have hlm : len ≤ m := by rw [hmm]; split <;> omega
    have key : ∀ j, j < len → ∃ x : Int, w.cell? (a.add (j * 1)) = some (.int .i64 x) ∧ (Lit.int .i64 x).wf = true := fun j hj => by
      obtain ⟨cs', hcs, ht⟩ := hi j (by omega)
      rw [cellsInt] at hcs
      obtain ⟨_, hcl, hat⟩ := World.cells?_some hcs
      obtain ⟨x, rfl, b0⟩ := read_num ht hcl
      have k0 := hat 0 (by simp)
      exact ⟨x, by simpa [Go.Deep.add_add] using k0, b0⟩
    by_cases hz : len = 0
    · subst hz
      exact ⟨some a, 0, cap, fun _ => 0, rfl, fun _ => rfl, by omega, fun j hj => by omega, fun j hj => by omega⟩
    · obtain ⟨b, off, spot⟩ := a
      have hspot : spot = none := by
        obtain ⟨x, hx, _⟩ := key 0 (by omega)
        simpa [Addr.add] using World.cell?_spot hx
      subst hspot
      have key2 : ∀ q, q < len * 1 → ∃ x : Int, w.cell? ⟨b, off + q, none⟩ = some (.int .i64 x) ∧ (Lit.int .i64 x).wf = true := fun q hq => by
        obtain ⟨x, h0, b0⟩ := key (q / 1) (by omega)
        rw [Go.WideShapes.add_plain] at h0
        have e : q = q / 1 * 1 := by omega
        exact ⟨x, by rw [e]; exact h0, b0⟩
      refine ⟨some ⟨b, off, none⟩, len, cap, fun j => if hj : j < len * 1 then (key2 j hj).choose else 0, rfl, (fun h => by cases h), hl, fun j hj => ⟨b, off, rfl, ?_⟩, fun j hj => ?_⟩
      · dsimp only
        rw [dif_pos hj]
        exact (key2 j hj).choose_spec.1
      · dsimp only
        rw [dif_pos hj]
        exact (key2 j hj).choose_spec.2
set_option maxRecDepth 100000 in
theorem read_stamp {n : Nat} {cs : List Value} {y : DataW H × List MemPlace} (h : DataW.trod enc Try.prog w base sp held n 27 cs = some y) (hl : cs.length = 3) : ∃ x y z : Int, cs = [.int .i64 x, .int .i64 y, .int .i64 z] ∧ (Lit.int .i64 x).wf = true ∧ (Lit.int .i64 y).wf = true ∧ (Lit.int .i64 z).wf = true := by
  match cs, hl with
  | [c0, c1, c2], _ =>
    obtain ⟨xs, n', _, hx, _, hlen, hg⟩ := DataW.trod_struct Try.underlying27 h
    match xs, hlen with
    | [y0, y1, y2], _ =>
      have g0 := hg 0 _ rfl
      have g1 := hg 1 _ rfl
      have g2 := hg 2 _ rfl
      simp [cellsInt] at g0 g1 g2
      obtain ⟨x, rfl, _, w0⟩ := read_int g0
      obtain ⟨y, rfl, _, w1⟩ := read_int g1
      obtain ⟨z, rfl, _, w2⟩ := read_int g2
      exact ⟨x, y, z, rfl, w0, w1, w2⟩
set_option maxRecDepth 100000 in
theorem open_stamps {n : Nat} {c : Value} {y : DataW H × List MemPlace} (h : DataW.trod enc Try.prog w base sp held n 22 [c] = some y) :
    ∃ (l : Option Addr) (len cap : Nat) (F : Nat → Int), c = .slice l len cap ∧ (l = none → len = 0) ∧ len ≤ cap ∧ NumsAt w l (len * 3) F ∧ ∀ j, j < len * 3 → (Lit.int .i64 (F j)).wf = true := by
  rcases open_slice Try.underlying22 h with ⟨h0, _⟩ | ⟨a, len, cap, m, n', D, Pl, h0, _, hl, hm, hmm, _, hi⟩
  · simp at h0
    subst h0
    exact ⟨none, 0, 0, fun _ => 0, rfl, fun _ => rfl, by omega, fun j hj => by omega, fun j hj => by omega⟩
  · simp at h0
    subst h0
    have hlm : len ≤ m := by rw [hmm]; split <;> omega
    have key : ∀ j, j < len → ∃ x y z : Int, w.cell? (a.add (j * 3)) = some (.int .i64 x) ∧ w.cell? (a.add (j * 3 + 1)) = some (.int .i64 y) ∧ w.cell? (a.add (j * 3 + 2)) = some (.int .i64 z) ∧ (Lit.int .i64 x).wf = true ∧ (Lit.int .i64 y).wf = true ∧ (Lit.int .i64 z).wf = true := fun j hj => by
      obtain ⟨cs', hcs, ht⟩ := hi j (by omega)
      rw [cellsStamp] at hcs
      obtain ⟨_, hcl, hat⟩ := World.cells?_some hcs
      obtain ⟨x, y, z, rfl, b0, b1, b2⟩ := read_stamp ht hcl
      have k0 := hat 0 (by simp)
      have k1 := hat 1 (by simp)
      have k2 := hat 2 (by simp)
      exact ⟨x, y, z, by simpa [Go.Deep.add_add] using k0, by simpa [Go.Deep.add_add] using k1, by simpa [Go.Deep.add_add] using k2, b0, b1, b2⟩
    by_cases hz : len = 0
    · subst hz
      exact ⟨some a, 0, cap, fun _ => 0, rfl, fun _ => rfl, by omega, fun j hj => by omega, fun j hj => by omega⟩
    · obtain ⟨b, off, spot⟩ := a
      have hspot : spot = none := by
        obtain ⟨x, _, _, hx, _⟩ := key 0 (by omega)
        simpa [Addr.add] using World.cell?_spot hx
      subst hspot
      have key2 : ∀ q, q < len * 3 → ∃ x : Int, w.cell? ⟨b, off + q, none⟩ = some (.int .i64 x) ∧ (Lit.int .i64 x).wf = true := fun q hq => by
        obtain ⟨x, y, z, h0, h1, h2, b0, b1, b2⟩ := key (q / 3) (by omega)
        rw [Go.WideShapes.add_plain] at h0 h1 h2
        have hq3 : q = q / 3 * 3 ∨ q = q / 3 * 3 + 1 ∨ q = q / 3 * 3 + 2 := by omega
        rcases hq3 with e | e | e
        · exact ⟨x, by rw [e]; exact h0, b0⟩
        · exact ⟨y, by rw [e]; exact h1, b1⟩
        · exact ⟨z, by rw [e]; exact h2, b2⟩
      refine ⟨some ⟨b, off, none⟩, len, cap, fun j => if hj : j < len * 3 then (key2 j hj).choose else 0, rfl, (fun h => by cases h), hl, fun j hj => ⟨b, off, rfl, ?_⟩, fun j hj => ?_⟩
      · dsimp only
        rw [dif_pos hj]
        exact (key2 j hj).choose_spec.1
      · dsimp only
        rw [dif_pos hj]
        exact (key2 j hj).choose_spec.2
set_option maxRecDepth 100000 in
/-- A stamper that came in. -/
theorem open_stamp {r : Reach} {b0 : Nat} {v : Value} {d : DataW H} {p : List MemPlace} (hv : Value.okWide Try.prog w r b0 27 v) (h : DataW.Trod enc Try.prog w base sp held 27 v d p) :
    ∃ x y z : Int, v = stampV x y z := by
  obtain ⟨cs, rfl, hsz⟩ := okWide_struct Try.underlying27 hv
  obtain ⟨c0, c1, c2, rfl⟩ := array3 (hsz.trans cellsStamp)
  obtain ⟨fuel, hf⟩ := h
  obtain ⟨x, y, z, hc, _⟩ := read_stamp hf rfl
  simp [Value.cells] at hc
  obtain ⟨rfl, rfl, rfl⟩ := hc
  exact ⟨x, y, z, rfl⟩
set_option maxRecDepth 100000 in
/-- A list of numbers that came in. -/
theorem open_list {r : Reach} {b0 : Nat} {v : Value} {d : DataW H} {p : List MemPlace} (hv : Value.okWide Try.prog w r b0 25 v) (h : DataW.Trod enc Try.prog w base sp held 25 v d p) :
    ∃ (l : Option Addr) (len cap : Nat) (F : Nat → Int), v = .slice l len cap ∧ (l = none → len = 0) ∧ NumsAt w l len F := by
  obtain ⟨a0, len0, cap0, rfl⟩ := okWide_slice Try.underlying25 hv
  obtain ⟨fuel, hf⟩ := h
  simp only [Value.cells] at hf
  obtain ⟨l, len, cap, F, e, h1, _, h3, _⟩ := open_nums hf
  exact ⟨l, len, cap, F, e, h1, by simpa using h3⟩
set_option maxRecDepth 100000 in
/-- A shaft that came in. -/
theorem open_shaft {r : Reach} {b0 : Nat} {v : Value} {d : DataW H} {p : List MemPlace} (hv : Value.okWide Try.prog w r b0 24 v) (h : DataW.Trod enc Try.prog w base sp held 24 v d p) :
    ∃ (m : Int) (a : Option Addr) (n c : Nat) (F : Nat → Int), v = shaftV m a n c ∧ (a = none → n = 0) ∧ NumsAt w a (n * 3) F := by
  obtain ⟨c0, c1, y0, y1, k, rfl, rfl, rfl, hy0, hy1⟩ := open_agg2 Try.underlying24 (by kernel_rfl) cellsShaft hv h
  obtain ⟨m, rfl, _, _⟩ := read_int hy0
  obtain ⟨a, n, c, F, rfl, h1, _, h3, _⟩ := open_stamps hy1
  exact ⟨m, a, n, c, F, rfl, h1, h3⟩
end

set_option maxRecDepth 100000 in
theorem changes_lifted (os : Os) (started : os.Started) (H : Type) (enc : TypeId × Value → H) :
    ReturnsInHanded {} Try.checked os 3 .any (Rows.wheelChangesSpec.pre6 enc Try.prog Try.f3 Rows.wheelChangesRow.domain false) (Rows.wheelChangesSpec.post enc Try.prog Try.f3 false true false false) := by
  refine returnsInHanded_of_change (C := Try.checked) ownKnob_none started (by kernel_rfl) Try.func3
    (ChangeSpec.witness6 (enc := enc) (C := Try.checked) false ⟨#[], #[.agg #[.int .i64 0, .slice none 0 0], .slice none 0 0, .int .i64 0, .agg #[.int .i64 0, .int .i64 0, .int .i64 0]], []⟩ 8 (by kernel_rfl) (by kernel_rfl) (by kernel_rfl) (by kernel_rfl)) ?_
  intro W base args ds gs before hval0 hW _ _
  have hval : ∀ (j : Nat) t v, Try.f3.params[j]? = some t → args[j]? = some v → Value.okWide Try.prog W .any base t v := hval0
  have hW' := hW
  obtain ⟨pp, qq, hA0, hV, rfl, hfz, hnd⟩ := hW
  have hA : DataW.TrodAll enc Try.prog W 0 (fun _ => true) true Try.f3.params.toList args.toList ds pp := hA0
  rw [Try.params3] at hA hval
  obtain ⟨v0, vs0, d0, ds0, p0, q0, hargs, rfl, rfl, h0, r0⟩ := trodAll_cons hA
  obtain ⟨v1, vs1, d1, ds1, p1, q1, rfl, rfl, rfl, h1, r1⟩ := trodAll_cons r0
  obtain ⟨v2, vs2, d2, ds2, p2, q2, rfl, rfl, rfl, h2, r2⟩ := trodAll_cons r1
  obtain ⟨v3, vs3, d3, ds3, p3, q3, rfl, rfl, rfl, h3, r3⟩ := trodAll_cons r2
  obtain ⟨rfl, rfl, rfl⟩ := trodAll_nil r3
  obtain rfl : args = #[v0, v1, v2, v3] := by cases args; simp_all
  obtain ⟨rfl, rfl⟩ := trodVars_none hV
  obtain ⟨k, rfl, rfl, rfl, wk⟩ := open_int Try.underlying3 (hval 2 3 v2 rfl rfl) h2
  have h0k := h0
  have h1k := h1
  have h3k := h3
  obtain ⟨m, a, n, c, F, rfl, hn, hF⟩ := open_shaft (hval 0 24 v0 rfl rfl) h0
  obtain ⟨la, len, cap, L, rfl, hnl, hL⟩ := open_list (hval 1 25 v1 rfl rfl) h1
  obtain ⟨x, y, z, rfl⟩ := open_stamp (hval 3 27 v3 rfl rfl) h3
  clear hA0 hval0
  simp only [List.append_nil, List.nil_append] at hW'
  have hlt : ∀ x ∈ p0 ++ (p1 ++ p3), x.block < W.heap.size := fun x hx => by simpa using hW'.lt x hx
  refine (changes_walk m a n c F la len cap L k x y z hn hnl W hF hL).mono fun e W' ⟨he, hb⟩ => ?_
  subst he
  refine ⟨_, rfl, _, _, _, [], p0 ++ (p1 ++ p3), [], hW', ?_, ?_, rfl, hb.frame _, fun h => by cases h⟩
  · exact trodAll_mk1 (shut_bool Try.underlying4 true)
  · have hs : DataW.Trod enc Try.prog W' 0 (fun b => decide (b < W.heap.size)) true 24 (shaftV m a n c) d0 p0 := Below.trod laidOut (by kernel_rfl) (of_decide_eq_true (by kernel_rfl)) h0k hb (fun x hx => hlt x (List.mem_append_left _ hx))
    have hs1 : DataW.Trod enc Try.prog W' 0 (fun b => decide (b < W.heap.size)) true 25 (.slice la len cap) d1 p1 := Below.trod laidOut (by kernel_rfl) (of_decide_eq_true (by kernel_rfl)) h1k hb (fun x hx => hlt x (List.mem_append_right _ (List.mem_append_left _ hx)))
    have hs3 : DataW.Trod enc Try.prog W' 0 (fun b => decide (b < W.heap.size)) true 27 (stampV x y z) d3 p3 := Below.trod laidOut (by kernel_rfl) (of_decide_eq_true (by kernel_rfl)) h3k hb (fun x hx => hlt x (List.mem_append_right _ (List.mem_append_right _ hx)))
    have := trodAll_cons_mk hs (trodAll_cons_mk hs1 (trodAll_cons_mk (shut_int Try.underlying3 wk) (trodAll_cons_mk hs3 trodAll_mk0)))
    simp only [List.nil_append, List.append_nil] at this
    exact this

/-- WheelChanges returns true for every input. -/
theorem changes_holds : Rows.WheelChangesSaid :=
  OpenClaim.holds_of_wide 3 Try.f3 rfl rfl rfl rfl rfl rfl rfl ⟨rfl, rfl, rfl, rfl, rfl⟩ rfl rfl rfl rfl rfl (by kernel_rfl) Try.func3 (by kernel_rfl)
    (of_decide_eq_true (by kernel_rfl)) (by unfold Func.isWrapper; first | (rw [if_pos (by decide +kernel)]; kernel_rfl) | (rw [if_neg (by decide +kernel)]; exact ⟨rfl, rfl⟩))
    (fun os started H enc _ => changes_lifted os started H enc)

end Go.Proofs.Ytijfdfplebbaaab
