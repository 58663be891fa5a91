/-
  RoundPlays returns true for every input: when which ricks become hot on some days, the watch after these, and whether they repeat, or the errors, are the specification's, the watch and the days stay, and what is returned shares no memory with them; each argument reads afterwards as it read before. There is no condition.
-/
import Derived.Test.YteoakchcomodgaaRows
import Derived.Test.YteoakchcomodgaaWPlays
import Derived.ProofKit
import Derived.OpenShut
import Derived.Lib.SmallJoins
import Derived.Carry
import Derived.Deep.Slices
namespace Go.Proofs.Yteoakchcomodgaa
open Go.ChangeShapes Go.WideShapes Go.ChangeAt Go.RowKit Go.Joins Go.Deep

theorem laidOut : laidOutB Try.prog = true := by kernel_rfl
theorem cellsWatch : Try.prog.cellsOf 24 = 2 := by kernel_rfl
theorem cellsRick : Try.prog.cellsOf 47 = 3 := by kernel_rfl
theorem cellsInt : Try.prog.cellsOf 3 = 1 := by kernel_rfl
theorem cellsInts : Try.prog.cellsOf 50 = 1 := by kernel_rfl
theorem cellsRicks : Try.prog.cellsOf 22 = 1 := by kernel_rfl
theorem ownKnob_none : ownKnob Try.prog.godebug = none := by kernel_rfl
section
variable {H : Type} {enc : TypeId × Value → H} {w : World} {base : Nat} {sp : Nat → Bool} {held : Bool}
theorem read_int {n : Nat} {c : Value} {y : DataW H × List MemPlace} (h : DataW.trod enc Try.prog w base sp held n 3 [c] = some y) : ∃ a : Int, c = .int .i64 a ∧ y = (.lit (.int .i64 a), []) ∧ (Lit.int .i64 a).wf = true := by
  obtain ⟨a, e0, hy, wa⟩ := DataW.trod_int Try.underlying3 h
  refine ⟨a, ?_, hy, wa⟩
  simpa using e0
set_option maxRecDepth 100000 in
/-- The cells of a rick. -/
theorem read_rick {n : Nat} {cs : List Value} {y : DataW H × List MemPlace} (h : DataW.trod enc Try.prog w base sp held n 47 cs = some y) (hl : cs.length = 3) : ∃ i e d : Int, cs = [.int .i64 i, .int .i64 e, .int .i64 d] := by
  match cs, hl with
  | [c0, c1, c2], _ =>
    obtain ⟨xs, n', _, hx, _, hlen, hg⟩ := DataW.trod_struct Try.underlying47 h
    match xs, hlen with
    | [y0, y1, y2], _ =>
      have g0 := hg 0 _ rfl
      have g1 := hg 1 _ rfl
      have g2 := hg 2 _ rfl
      simp [cellsInt] at g0 g1 g2
      obtain ⟨i, rfl, _, _⟩ := read_int g0
      obtain ⟨e, rfl, _, _⟩ := read_int g1
      obtain ⟨d, rfl, _, _⟩ := read_int g2
      exact ⟨i, e, d, rfl⟩
set_option maxRecDepth 100000 in
/-- Ricks that came in. -/
theorem open_ricks {n : Nat} {c : Value} {y : DataW H × List MemPlace} (h : DataW.trod enc Try.prog w base sp held n 22 [c] = some y) :
    ∃ (l : Option Addr) (len cap : Nat) (F : Nat → Int), c = .slice l len cap ∧ (l = none → len = 0) ∧ len ≤ cap ∧ NumsAt w l (len * 3) F := by
  rcases open_slice Try.underlying22 h with ⟨h0, _⟩ | ⟨a, len, cap, m, n', D, Pl, h0, _, hl, hm, hmm, _, hi⟩
  · simp at h0
    subst h0
    exact ⟨none, 0, 0, fun _ => 0, rfl, fun _ => rfl, by omega, fun j hj => by omega⟩
  · simp at h0
    subst h0
    have hlm : len ≤ m := by rw [hmm]; split <;> omega
    have key : ∀ j, j < len → ∃ x y z : Int, w.cell? (a.add (j * 3)) = some (.int .i64 x) ∧ w.cell? (a.add (j * 3 + 1)) = some (.int .i64 y) ∧ w.cell? (a.add (j * 3 + 2)) = some (.int .i64 z) := fun j hj => by
      obtain ⟨cs', hcs, ht⟩ := hi j (by omega)
      rw [cellsRick] at hcs
      obtain ⟨_, hcl, hat⟩ := World.cells?_some hcs
      obtain ⟨x, y, z, rfl⟩ := read_rick ht hcl
      have k0 := hat 0 (by simp)
      have k1 := hat 1 (by simp)
      have k2 := hat 2 (by simp)
      exact ⟨x, y, z, by simpa [Go.Deep.add_add] using k0, by simpa [Go.Deep.add_add] using k1, by simpa [Go.Deep.add_add] using k2⟩
    by_cases hz : len = 0
    · subst hz
      exact ⟨some a, 0, cap, fun _ => 0, rfl, fun _ => rfl, by omega, fun j hj => by omega⟩
    · obtain ⟨b, off, spot⟩ := a
      have hspot : spot = none := by
        obtain ⟨x, _, _, hx, _⟩ := key 0 (by omega)
        simpa [Addr.add] using World.cell?_spot hx
      subst hspot
      have key2 : ∀ q, q < len * 3 → ∃ x : Int, w.cell? ⟨b, off + q, none⟩ = some (.int .i64 x) := fun q hq => by
        obtain ⟨x, y, z, h1, h2, h3⟩ := key (q / 3) (by omega)
        rw [Go.WideShapes.add_plain] at h1 h2 h3
        have hq3 : q = q / 3 * 3 ∨ q = q / 3 * 3 + 1 ∨ q = q / 3 * 3 + 2 := by omega
        rcases hq3 with e | e | e
        · exact ⟨x, by rw [e]; exact h1⟩
        · exact ⟨y, by rw [e]; exact h2⟩
        · exact ⟨z, by rw [e]; exact h3⟩
      refine ⟨some ⟨b, off, none⟩, len, cap, fun j => if hj : j < len * 3 then (key2 j hj).choose else 0, rfl, (fun h => by cases h), hl, fun j hj => ⟨b, off, rfl, ?_⟩⟩
      dsimp only
      rw [dif_pos hj]
      exact (key2 j hj).choose_spec
set_option maxRecDepth 100000 in
/-- A watch that came in. -/
theorem open_watch {r : Reach} {b0 : Nat} {v : Value} {d : DataW H} {p : List MemPlace} (hv : Value.okWide Try.prog w r b0 24 v) (h : DataW.Trod enc Try.prog w base sp held 24 v d p) :
    ∃ (g : Int) (l : Option Addr) (len cap : Nat) (F : Nat → Int), v = watchV g l len cap ∧ (l = none → len = 0) ∧ len ≤ cap ∧ NumsAt w l (len * 3) F := by
  obtain ⟨c0, c1, y0, y1, m, rfl, rfl, rfl, hy0, hy1⟩ := open_agg2 Try.underlying24 (by kernel_rfl) cellsWatch hv h
  obtain ⟨g, rfl, rfl, _⟩ := read_int hy0
  obtain ⟨l, len, cap, F, rfl, h1, h2, h3⟩ := open_ricks hy1
  exact ⟨g, l, len, cap, F, rfl, h1, h2, h3⟩
set_option maxRecDepth 100000 in
/-- Numbers that came in. -/
theorem open_nums {n : Nat} {c : Value} {y : DataW H × List MemPlace} (h : DataW.trod enc Try.prog w base sp held n 50 [c] = some y) :
    ∃ (l : Option Addr) (len cap : Nat) (F : Nat → Int), c = .slice l len cap ∧ NumsAt w l len F := by
  rcases open_slice Try.underlying50 h with ⟨h0, _⟩ | ⟨a, len, cap, m, n', D, Pl, h0, _, hl, hm, hmm, _, hi⟩
  · simp at h0
    subst h0
    exact ⟨none, 0, 0, fun _ => 0, rfl, fun j hj => by omega⟩
  · simp at h0
    subst h0
    have hlm : len ≤ m := by rw [hmm]; split <;> omega
    have key : ∀ j, j < len → ∃ x : Int, w.cell? (a.add (j * 1)) = some (.int .i64 x) := fun j hj => by
      obtain ⟨cs', hcs, ht⟩ := hi j (by omega)
      rw [cellsInt] at hcs
      obtain ⟨_, hcl, hat⟩ := World.cells?_some hcs
      match cs', hcl with
      | [c0], _ =>
        obtain ⟨x, rfl, _, _⟩ := read_int ht
        have k0 := hat 0 (by simp)
        exact ⟨x, by simpa [Go.Deep.add_add] using k0⟩
    by_cases hz : len = 0
    · subst hz
      exact ⟨some a, 0, cap, fun _ => 0, rfl, fun j hj => by omega⟩
    · obtain ⟨b, off, spot⟩ := a
      have hspot : spot = none := by
        obtain ⟨x, hx⟩ := key 0 (by omega)
        simpa [Addr.add] using World.cell?_spot hx
      subst hspot
      have key2 : ∀ q, q < len → ∃ x : Int, w.cell? ⟨b, off + q, none⟩ = some (.int .i64 x) := fun q hq => by
        obtain ⟨x, h0⟩ := key q hq
        rw [Go.WideShapes.add_plain, Nat.mul_one] at h0
        exact ⟨x, h0⟩
      refine ⟨some ⟨b, off, none⟩, len, cap, fun j => if hj : j < len then (key2 j hj).choose else 0, rfl, fun j hj => ⟨b, off, rfl, ?_⟩⟩
      dsimp only
      rw [dif_pos hj]
      exact (key2 j hj).choose_spec
set_option maxRecDepth 100000 in
/-- Days that came in. -/
theorem open_days {r : Reach} {b0 : Nat} {v : Value} {d : DataW H} {p : List MemPlace} (hv : Value.okWide Try.prog w r b0 25 v) (h : DataW.Trod enc Try.prog w base sp held 25 v d p) :
    ∃ (l : Option Addr) (len cap : Nat) (L : Nat → Nat) (G : Nat → Nat → Int), v = .slice l len cap ∧ DaysAt w l len L G := by
  obtain ⟨a0, len0, cap0, rfl⟩ := okWide_slice Try.underlying25 hv
  obtain ⟨fuel, hf⟩ := h
  simp only [Value.cells] at hf
  rcases open_slice Try.underlying25 hf with ⟨h0, _⟩ | ⟨a, len, cap, m, n', D, Pl, h0, _, hl, hm, hmm, _, hi⟩
  · simp at h0
    obtain ⟨rfl, rfl, rfl⟩ := h0
    exact ⟨none, 0, 0, fun _ => 0, fun _ _ => 0, rfl, fun j hj => by omega⟩
  · simp at h0
    obtain ⟨rfl, rfl, rfl⟩ : some a = a0 ∧ len = len0 ∧ cap = cap0 := ⟨h0.1.symm, h0.2.1.symm, h0.2.2.symm⟩
    clear h0
    have hlm : len ≤ m := by rw [hmm]; split <;> omega
    have key : ∀ j, j < len → ∃ (t : Option Addr) (tl tc : Nat) (T : Nat → Int), w.cell? (a.add (j * 1)) = some (.slice t tl tc) ∧ NumsAt w t tl T := fun j hj => by
      obtain ⟨cs', hcs, ht⟩ := hi j (by omega)
      rw [cellsInts] at hcs
      obtain ⟨_, hcl, hat⟩ := World.cells?_some hcs
      match cs', hcl with
      | [c0], _ =>
        obtain ⟨t, tl, tc, T, rfl, hT⟩ := open_nums ht
        have k0 := hat 0 (by simp)
        exact ⟨t, tl, tc, T, by simpa [Go.Deep.add_add] using k0, hT⟩
    by_cases hz : len = 0
    · subst hz
      exact ⟨some a, 0, cap, fun _ => 0, fun _ _ => 0, rfl, fun j hj => by omega⟩
    · obtain ⟨b, off, spot⟩ := a
      have hspot : spot = none := by
        obtain ⟨_, _, _, _, hx, _⟩ := key 0 (by omega)
        simpa [Addr.add] using World.cell?_spot hx
      subst hspot
      have key2 : ∀ q, q < len → ∃ (x : Nat × (Nat → Int)), ∃ (t : Option Addr) (tc : Nat), w.cell? ⟨b, off + q, none⟩ = some (.slice t x.1 tc) ∧ NumsAt w t x.1 x.2 := fun q hq => by
        obtain ⟨t, tl, tc, T, h0, h1⟩ := key q hq
        rw [Go.WideShapes.add_plain, Nat.mul_one] at h0
        exact ⟨(tl, T), t, tc, h0, h1⟩
      refine ⟨some ⟨b, off, none⟩, len, cap, fun j => if hj : j < len then (key2 j hj).choose.1 else 0, fun j => if hj : j < len then (key2 j hj).choose.2 else fun _ => 0, rfl, fun j hj => ?_⟩
      obtain ⟨t, tc, h0, h1⟩ := (key2 j hj).choose_spec
      refine ⟨b, off, t, tc, rfl, ?_, ?_⟩
      · dsimp only
        rw [dif_pos hj]
        exact h0
      · dsimp only
        rw [dif_pos hj, dif_pos hj]
        exact h1
end

set_option maxRecDepth 100000 in
theorem plays_lifted (os : Os) (started : os.Started) (H : Type) (enc : TypeId × Value → H) :
    ReturnsInHanded {} Try.checked os 3 .any (Rows.roundPlaysSpec.pre6 enc Try.prog Try.f3 Rows.roundPlaysRow.domain false) (Rows.roundPlaysSpec.post enc Try.prog Try.f3 false true false false) := by
  refine returnsInHanded_of_change (C := Try.checked) ownKnob_none started (by kernel_rfl) Try.func3
    (ChangeSpec.witness6 (enc := enc) (C := Try.checked) false ⟨#[], #[.agg #[.int .i64 0, .slice none 0 0], .slice none 0 0], []⟩ 8 (by kernel_rfl) (by kernel_rfl) (by kernel_rfl) (by kernel_rfl)) ?_
  intro W base args ds gs before hval0 hW _ _
  have hval : ∀ (j : Nat) t v, Try.f3.params[j]? = some t → args[j]? = some v → Value.okWide Try.prog W .any base t v := hval0
  have hW' := hW
  obtain ⟨pp, qq, hA0, hV, rfl, hfz, hnd⟩ := hW
  have hA : DataW.TrodAll enc Try.prog W 0 (fun _ => true) true Try.f3.params.toList args.toList ds pp := hA0
  rw [Try.params3] at hA hval
  obtain ⟨v0, vs0, d0, ds0, p0, q0, hargs, rfl, rfl, h0, r0⟩ := trodAll_cons hA
  obtain ⟨v1, vs1, d1, ds1, p1, q1, rfl, rfl, rfl, h1, r1⟩ := trodAll_cons r0
  obtain ⟨rfl, rfl, rfl⟩ := trodAll_nil r1
  obtain rfl : args = #[v0, v1] := by cases args; simp_all
  obtain ⟨rfl, rfl⟩ := trodVars_none hV
  have h0k := h0
  have h1k := h1
  obtain ⟨g, l, len, cap, F, rfl, hnil, hlc, hnums⟩ := open_watch (hval 0 24 v0 rfl rfl) h0
  obtain ⟨sd, sl, sc, L, G, rfl, hdays⟩ := open_days (hval 1 25 v1 rfl rfl) h1
  clear hA0 hval0
  simp only [List.append_nil] at hW'
  have hlt : ∀ x ∈ p0 ++ p1, x.block < W.heap.size := fun x hx => by simpa using hW'.lt x hx
  refine (plays_walk g l len cap F sd sl sc L G hnil W hnums hdays).mono fun e W' ⟨he, hb⟩ => ?_
  subst he
  refine ⟨_, rfl, _, _, _, [], p0 ++ p1, [], hW', ?_, ?_, rfl, hb.frame _, fun h => by cases h⟩
  · exact trodAll_mk1 (shut_bool Try.underlying4 true)
  · have hs : DataW.Trod enc Try.prog W' 0 (fun b => decide (b < W.heap.size)) true 24 (watchV g l len cap) d0 p0 := Below.trod laidOut (by kernel_rfl) (of_decide_eq_true (by kernel_rfl)) h0k hb (fun x hx => hlt x (List.mem_append_left _ hx))
    have hs1 : DataW.Trod enc Try.prog W' 0 (fun b => decide (b < W.heap.size)) true 25 (.slice sd sl sc) d1 p1 := Below.trod laidOut (by kernel_rfl) (of_decide_eq_true (by kernel_rfl)) h1k hb (fun x hx => hlt x (List.mem_append_right _ hx))
    have := trodAll_cons_mk hs (trodAll_cons_mk hs1 trodAll_mk0)
    simp only [List.append_nil] at this
    exact this

/-- RoundPlays returns true for every input. -/
theorem plays_holds : Rows.RoundPlaysSaid :=
  OpenClaim.holds_of_wide 3 Try.f3 rfl rfl rfl rfl rfl rfl rfl ⟨rfl, rfl, rfl, rfl, rfl⟩ rfl rfl rfl rfl rfl (by kernel_rfl) Try.func3 (by kernel_rfl)
    (of_decide_eq_true (by kernel_rfl)) (by unfold Func.isWrapper; first | (rw [if_pos (by decide +kernel)]; kernel_rfl) | (rw [if_neg (by decide +kernel)]; exact ⟨rfl, rfl⟩))
    (fun os started H enc _ => plays_lifted os started H enc)

end Go.Proofs.Yteoakchcomodgaa
