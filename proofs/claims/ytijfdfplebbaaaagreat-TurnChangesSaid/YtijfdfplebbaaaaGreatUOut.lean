/-
  TurnChanges: the answers of both sides, told alike; what may be written of them.
-/
import Derived.Test.YtijfdfplebbaaaaGreatURPut
import Derived.Test.YtijfdfplebbaaaaGreatURStr
import Derived.Test.YtijfdfplebbaaaaGreatUTwin
namespace Go.Proofs.YtijfdfplebbaaaaGreat
open Go.RowKit

theorem OwnNums.nil {w : World} {base : Nat} {t : TypeId} {k : Nat} {a : Option Addr} {len cap : Nat} {F : Nat → Int} (h : OwnNums w base t k a len cap F) (e : a = none) : len = 0 ∧ cap = 0 := by
  rcases h.own_block with ⟨_, h1, h2⟩ | ⟨g, h1, _⟩
  · exact ⟨h1, h2⟩
  · rw [e] at h1; cases h1
theorem OwnVals.nil {w : World} {base : Nat} {t : TypeId} {k : Nat} {a : Option Addr} {len cap : Nat} {F : Nat → Value} (h : OwnVals w base t k a len cap F) (e : a = none) : len = 0 ∧ cap = 0 := by
  rcases h.own_block with ⟨_, h1, h2⟩ | ⟨g, h1, _⟩
  · exact ⟨h1, h2⟩
  · rw [e] at h1; cases h1
theorem OwnRoll.nil {w : World} {base : Nat} {r : RollX} {d : RollD} (h : OwnRoll w base r d) : RollNil r := ⟨h.p.nil, h.g.nil, h.m.nil, h.s.nil, h.n.nil⟩
theorem OwnVals.row {w : World} {base : Nat} {t : TypeId} {k : Nat} {a : Option Addr} {len cap : Nat} {F : Nat → Value} (h : OwnVals w base t k a len cap F) : RowOk w base w.heap.size k a len := by
  obtain ⟨h0, h1 | ⟨g, cap', cur, he, hbase, hg, h2, _, h4, _⟩⟩ := h
  · exact .inl h1.2
  · simp only [Value.slice.injEq] at he
    obtain ⟨rfl, _, rfl⟩ := he
    exact .inr ⟨g, cur, t, rfl, hbase, (Array.getElem?_eq_some_iff.1 hg).1, hg, by rw [h4]; exact Nat.mul_le_mul_right _ h2⟩
theorem infoInt : ∃ i, Tryz.prog.info? 3 = some i ∧ i.zero = some (.int .i64 0) ∧ i.size = 1 ∧ i.bytes = 8 := by
  have h : (Tryz.prog.info? 3).map (fun i => (i.zero, i.size, i.bytes)) = some (some (.int .i64 0), 1, 8) := by kernel_rfl
  obtain ⟨i, hi, h2⟩ := Option.map_eq_some_iff.1 h
  simp only [Prod.mk.injEq] at h2
  exact ⟨i, hi, h2.1, h2.2.1, h2.2.2⟩
/-- Two rolls with lists as long. -/
structure RollE (r r' : RollX) : Prop where
  p : r'.pn = r.pn
  w : r'.wn = r.wn
  m : r'.mn = r.mn
  s : r'.sn = r.sn
  n : r'.nn = r.nn
namespace Pure
theorem putE_sz {r r' : RollX} {d : RollD} {x : NoteX} (h : RollE r r') : putE r' d x = putE r d x := by
  obtain ⟨_, _, _, _, _, _, _, _, _, _, _, _, _, _, _⟩ := r
  obtain ⟨_, _, _, _, _, _, _, _, _, _, _, _, _, _, _⟩ := r'
  obtain ⟨h1, h2, h3, h4, h5⟩ := h
  simp only at h1 h2 h3 h4 h5
  subst h1 h2 h3 h4 h5
  rfl
theorem strC_sz {r r' : RollX} {d : RollD} {ln : Nat} {L : Nat → Int} (h : RollE r r') : strC r' d ln L = strC r d ln L := by
  obtain ⟨_, _, _, _, _, _, _, _, _, _, _, _, _, _, _⟩ := r
  obtain ⟨_, _, _, _, _, _, _, _, _, _, _, _, _, _, _⟩ := r'
  obtain ⟨h1, h2, h3, h4, h5⟩ := h
  simp only at h1 h2 h3 h4 h5
  subst h1 h2 h3 h4 h5
  rfl
theorem insD_sz {r r' : RollX} {d : RollD} {x : NoteX} (h : RollE r r') : insD r' d x = insD r d x := by
  unfold insD
  rw [h.n]
theorem struckD_sz {r r' : RollX} {d : RollD} {ln : Nat} {L : Nat → Int} (h : RollE r r') : struckD r' d ln L = struckD r d ln L := by
  unfold struckD
  rw [h.n]
end Pure
/-- What a change answers. -/
def Ans (r : RollX) (nn : Nat) (D : RollD) (c : Int) (w : World) (e : Ending) (w' : World) : Prop :=
  ∃ r', e = .returned (.tuple #[rollV r', .int .i64 c]) ∧ RollOut w' w.heap.size (decide (c = 0)) r.pn r.wn r.mn r.sn nn D r' ∧ Below w.heap.size w w'
theorem RollE.n60 {r r' : RollX} (h : RollE r r') (hN : RollN r) : RollN r' := ⟨by rw [h.p]; exact hN.p, by rw [h.w]; exact hN.w, by rw [h.m]; exact hN.m, by rw [h.s]; exact hN.s, by rw [h.n]; exact hN.n⟩
theorem put_own (r r1 : RollX) (d : RollD) (x : NoteX) (c : Int) (hc : Pure.putE r d x = c) (hN : RollN r) (he : RollE r r1) (w : World) (base : Nat) (hR : OwnRoll w base r1 d) :
    Calls Tryz.prog 6 #[rollV r1, tnoteV x] w (Ans r (r.nn + 1) (Pure.insD r d x) c w) := by
  refine (put_any r1 d x (he.n60 hN) hR.nil w hR.at).mono ?_
  rintro e u ⟨r', h1, h2, h3⟩
  rw [Pure.putE_sz he, hc] at h1 h2
  rw [Pure.insD_sz he, he.p, he.w, he.m, he.s, he.n] at h2
  exact ⟨r', h1, h2, h3⟩
theorem put_ref (r : RollX) (d : RollD) (x : NoteX) (c : Int) (hc : Pure.putE r d x = c) (hN : RollN r) (hnil : RollNone r) (hcap : r.nn ≤ r.nc) (w : World) (hR : RollAt w r d) :
    Calls Tryz.prog 7 #[rollV r, tnoteV x] w (Ans r (r.nn + 1) (Pure.insD r d x) c w) := by
  refine (rPut_any r d x hN hnil hcap w hR).mono ?_
  rintro e u ⟨r', h1, h2, h3⟩
  rw [hc] at h1 h2
  exact ⟨r', h1, h2, h3⟩
theorem strike_own (r r1 : RollX) (d : RollD) (la : Option Addr) (ln lc : Nat) (L : Nat → Int) (c : Int) (hc : Pure.strC r d ln L = c) (hN : RollN r) (he : RollE r r1) (hl : ln ≤ 60) (w : World) (base : Nat) (hR : OwnRoll w base r1 d) (hL : NumsAt w la ln L) :
    Calls Tryz.prog 8 #[rollV r1, .slice la ln lc] w (Ans r (Pure.keepN (fun j => Pure.has ln L (d.N j).n) r.nn) (Pure.struckD r d ln L) c w) := by
  refine (strike_any r1 d la ln lc L (he.n60 hN) hR.nil hl w hR.at hL).mono ?_
  rintro e u ⟨r', h1, h2, h3⟩
  rw [Pure.strC_sz he, hc] at h1 h2
  rw [Pure.struckD_sz he, he.p, he.w, he.m, he.s, he.n] at h2
  exact ⟨r', h1, h2, h3⟩
theorem strike_ref (r : RollX) (d : RollD) (la : Option Addr) (ln lc : Nat) (L : Nat → Int) (c : Int) (hc : Pure.strC r d ln L = c) (hN : RollN r) (hnil : RollNone r) (hl : ln ≤ 60) (w : World) (hR : RollAt w r d) (hL : NumsAt w la ln L) :
    Calls Tryz.prog 9 #[rollV r, .slice la ln lc] w (Ans r (Pure.keepN (fun j => Pure.has ln L (d.N j).n) r.nn) (Pure.struckD r d ln L) c w) := by
  refine (rStrike_any r d la ln lc L hN hnil hl w hR hL).mono ?_
  rintro e u ⟨r', h1, h2, h3⟩
  rw [hc] at h1 h2
  exact ⟨r', h1, h2, h3⟩
theorem RollOut.n60 {w : World} {base : Nat} {ok : Bool} {r : RollX} {nn : Nat} {d : RollD} {r' : RollX} (h : RollOut w base ok r.pn r.wn r.mn r.sn nn d r') (hN : RollN r) (hn : nn ≤ 60) : RollN r' := by
  have h1 := hN.p
  have h2 := hN.w
  have h3 := hN.m
  have h4 := hN.s
  refine ⟨?_, ?_, ?_, ?_, ?_⟩
  · rw [h.p]; split <;> omega
  · rw [h.w]; split <;> omega
  · rw [h.m]; split <;> omega
  · rw [h.s]; split <;> omega
  · rw [h.n]; split <;> omega
theorem RollOut.alike {w w' : World} {base base' : Nat} {ok : Bool} {pn wn mn sn nn : Nat} {d : RollD} {a b : RollX} (h : RollOut w base ok pn wn mn sn nn d a) (g : RollOut w' base' ok pn wn mn sn nn d b) : RollE a b :=
  ⟨by rw [h.p, g.p], by rw [h.w, g.w], by rw [h.m, g.m], by rw [h.s, g.s], by rw [h.n, g.n]⟩
/-- A roll whose lists may be written. -/
structure RollW (w : World) (base top : Nat) (r : RollX) : Prop where
  p : RowOk w base top 4 r.pa r.pn
  g : RowOk w base top 5 r.wa r.wn
  m : RowOk w base top 1 r.ma r.mn
  s : RowOk w base top 2 r.sa r.sn
  n : RowOk w base top 7 r.na r.nn
theorem OwnRoll.row {w : World} {base : Nat} {r : RollX} {d : RollD} (h : OwnRoll w base r d) : RollW w base w.heap.size r := ⟨h.p.row, h.g.row, h.m.row, h.s.row, h.n.row⟩
theorem RollW.below {w w' : World} {base top : Nat} {r : RollX} (h : RollW w base top r) (hb : Below w.heap.size w w') : RollW w' base top r := ⟨h.p.below hb, h.g.below hb, h.m.below hb, h.s.below hb, h.n.below hb⟩
theorem RollW.set {w : World} {base top : Nat} {r : RollX} (h : RollW w base top r) (g' i : Nat) (u : Value) : RollW (w.setCell ⟨g', i, none⟩ u) base top r := ⟨h.p.set g' i u, h.g.set g' i u, h.m.set g' i u, h.s.set g' i u, h.n.set g' i u⟩
theorem RowOk.top {w : World} {base top top' k : Nat} {a : Option Addr} {len : Nat} (h : RowOk w base top k a len) (ht : top ≤ top') : RowOk w base top' k a len := by
  rcases h with h | ⟨g, cur, t, h1, h2, h3, h4, h5⟩
  · exact .inl h
  · exact .inr ⟨g, cur, t, h1, h2, by omega, h4, h5⟩
theorem RollW.top {w : World} {base top top' : Nat} {r : RollX} (h : RollW w base top r) (ht : top ≤ top') : RollW w base top' r := ⟨h.p.top ht, h.g.top ht, h.m.top ht, h.s.top ht, h.n.top ht⟩

end Go.Proofs.YtijfdfplebbaaaaGreat
