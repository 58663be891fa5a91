/-
  Rolls as values; the small functions of package turn; IndexFunc, ContainsFunc and inOrder at its types.
-/
import Derived.Test.YtijfdfplebbaaaaGreatQCopy
namespace Go.Proofs.YtijfdfplebbaaaaGreat
open Go.RowKit

/-- A note. -/
structure NoteX where
  n : Int
  m1 : Int
  p1 : Int
  b1 : Bool
  m2 : Int
  p2 : Int
  b2 : Bool
abbrev tnoteV (x : NoteX) : Value := .agg #[.int .i64 x.n, .int .i64 x.m1, .int .i64 x.p1, .bool x.b1, .int .i64 x.m2, .int .i64 x.p2, .bool x.b2]
abbrev tnoteB (x : NoteX) : Obj := .cells #[.int .i64 x.n, .int .i64 x.m1, .int .i64 x.p1, .bool x.b1, .int .i64 x.m2, .int .i64 x.p2, .bool x.b2] 34
abbrev thingV (m p : Int) (b : Bool) : Value := .agg #[.int .i64 m, .int .i64 p, .bool b]
abbrev thingB (m p : Int) (b : Bool) : Obj := .cells #[.int .i64 m, .int .i64 p, .bool b] 32
abbrev shiftV (p e : Int) : Value := .agg #[.int .i64 p, .int .i64 e]
abbrev shiftB (p e : Int) : Obj := .cells #[.int .i64 p, .int .i64 e] 47
/-- The cells of a note. -/
structure NoteC (w : World) (b o : Nat) (x : NoteX) : Prop where
  c0 : w.cell? ⟨b, o, none⟩ = some (.int .i64 x.n)
  c1 : w.cell? ⟨b, o + 1, none⟩ = some (.int .i64 x.m1)
  c2 : w.cell? ⟨b, o + 2, none⟩ = some (.int .i64 x.p1)
  c3 : w.cell? ⟨b, o + 3, none⟩ = some (.bool x.b1)
  c4 : w.cell? ⟨b, o + 4, none⟩ = some (.int .i64 x.m2)
  c5 : w.cell? ⟨b, o + 5, none⟩ = some (.int .i64 x.p2)
  c6 : w.cell? ⟨b, o + 6, none⟩ = some (.bool x.b2)
theorem NoteC.below {w w' : World} {b o : Nat} {x : NoteX} (h : NoteC w b o x) (hb : Below w.heap.size w w') : NoteC w' b o x :=
  ⟨below_cell hb h.c0, below_cell hb h.c1, below_cell hb h.c2, below_cell hb h.c3, below_cell hb h.c4, below_cell hb h.c5, below_cell hb h.c6⟩
/-- A slice that reads as notes. -/
def NotesAt (w : World) (a : Option Addr) (len : Nat) (N : Nat → NoteX) : Prop := ∀ j, j < len → ∃ b off, a = some ⟨b, off, none⟩ ∧ NoteC w b (off + j * 7) (N j)
theorem NotesAt.below {w w' : World} {a : Option Addr} {len : Nat} {N : Nat → NoteX} (h : NotesAt w a len N) (hb : Below w.heap.size w w') : NotesAt w' a len N := fun j hj => by
  obtain ⟨b, off, h0, h1⟩ := h j hj
  exact ⟨b, off, h0, h1.below hb⟩
theorem NotesAt.at {w : World} {b off len : Nat} {N : Nat → NoteX} (h : NotesAt w (some ⟨b, off, none⟩) len N) {j : Nat} (hj : j < len) : NoteC w b (off + j * 7) (N j) := by
  obtain ⟨b', off', h0, h1⟩ := h j hj
  cases h0
  exact h1
/-- A slice that reads as things. -/
def ThingsAt (w : World) (a : Option Addr) (len : Nat) (A B : Nat → Int) (T : Nat → Bool) : Prop := ∀ j, j < len → ∃ b off, a = some ⟨b, off, none⟩ ∧ w.cell? ⟨b, off + j * 3, none⟩ = some (.int .i64 (A j)) ∧ w.cell? ⟨b, off + j * 3 + 1, none⟩ = some (.int .i64 (B j)) ∧ w.cell? ⟨b, off + j * 3 + 2, none⟩ = some (.bool (T j))
theorem ThingsAt.below {w w' : World} {a : Option Addr} {len : Nat} {A B : Nat → Int} {T : Nat → Bool} (h : ThingsAt w a len A B T) (hb : Below w.heap.size w w') : ThingsAt w' a len A B T := fun j hj => by
  obtain ⟨b, off, h0, h1, h2, h3⟩ := h j hj
  exact ⟨b, off, h0, below_cell hb h1, below_cell hb h2, below_cell hb h3⟩
theorem ThingsAt.at {w : World} {b off len : Nat} {A B : Nat → Int} {T : Nat → Bool} (h : ThingsAt w (some ⟨b, off, none⟩) len A B T) {j : Nat} (hj : j < len) : w.cell? ⟨b, off + j * 3, none⟩ = some (.int .i64 (A j)) ∧ w.cell? ⟨b, off + j * 3 + 1, none⟩ = some (.int .i64 (B j)) ∧ w.cell? ⟨b, off + j * 3 + 2, none⟩ = some (.bool (T j)) := by
  obtain ⟨b', off', h0, h1⟩ := h j hj
  cases h0
  exact h1
/-- Where the lists of a roll lie. -/
structure RollX where
  pa : Option Addr
  pn : Nat
  pc : Nat
  wa : Option Addr
  wn : Nat
  wc : Nat
  ma : Option Addr
  mn : Nat
  mc : Nat
  sa : Option Addr
  sn : Nat
  sc : Nat
  na : Option Addr
  nn : Nat
  nc : Nat
abbrev rollV (r : RollX) : Value := .agg #[.slice r.pa r.pn r.pc, .slice r.wa r.wn r.wc, .slice r.ma r.mn r.mc, .slice r.sa r.sn r.sc, .slice r.na r.nn r.nc]
abbrev rollB (r : RollX) : Obj := .cells #[.slice r.pa r.pn r.pc, .slice r.wa r.wn r.wc, .slice r.ma r.mn r.mc, .slice r.sa r.sn r.sc, .slice r.na r.nn r.nc] 30
/-- What stands in a roll. -/
structure RollD where
  P : Nat → Int
  W : Nat → Int
  M : Nat → Int
  S : Nat → Int
  N : Nat → NoteX
structure RollAt (w : World) (r : RollX) (d : RollD) : Prop where
  p : NumsAt w r.pa (r.pn * 4) d.P
  g : NumsAt w r.wa (r.wn * 5) d.W
  m : NumsAt w r.ma r.mn d.M
  s : NumsAt w r.sa (r.sn * 2) d.S
  n : NotesAt w r.na r.nn d.N
theorem RollAt.below {w w' : World} {r : RollX} {d : RollD} (h : RollAt w r d) (hb : Below w.heap.size w w') : RollAt w' r d := ⟨h.p.below hb, h.g.below hb, h.m.below hb, h.s.below hb, h.n.below hb⟩
/-- No list is greater than the statements consider. -/
structure RollN (r : RollX) : Prop where
  p : r.pn ≤ 60
  w : r.wn ≤ 60
  m : r.mn ≤ 60
  s : r.sn ≤ 60
  n : r.nn ≤ 60

set_option maxHeartbeats 1000000 in
set_option maxRecDepth 100000 in
theorem twithin_nums (lo hi : Int) (a : Option Addr) (len cap : Nat) (F : Nat → Int) (hl : len ≤ 9223372036854775807) (w : World) (h : NumsAt w a len F) :
    Calls Tryz.prog 80 #[spanV lo hi, .slice a len cap] w fun e w' => e = .returned (.bool (Pure.inSpan lo hi len F)) ∧ w' = w.alloc (spanB lo hi) := by
  have HN : Hid (NumsAt (w.alloc (spanB lo hi)) a len F) := Lib.hid (h.alloc _)
  clear h
  go_enter Tryz.func80, Tryz.ntmps80
  go_wp2_with fail
  go_loop [6, 9] (fun _ i => ∃ k : Nat, k ≤ len ∧ i = .int .i64 k ∧ ∀ j, j < k → lo ≤ F j ∧ F j ≤ hi) (fun _ i => len - (intOf i).toNat)
  case atStart => exact ⟨0, Nat.zero_le _, rfl, fun j hj => by omega⟩
  case round =>
    obtain ⟨k, hk, rfl, hW⟩ := hrel
    have HW := Lib.hid hW
    clear hW
    by_cases hk1 : k < len
    · obtain ⟨b, off, rfl, hc1⟩ := HN.out k hk1
      by_cases h1 : F k < lo
      · go_wp2_with fail
        go_ret
        exact ⟨ret_bool (Pure.inSpan_no hk1 (by omega)).symm, rfl⟩
      · by_cases h2 : hi < F k
        · go_wp2_with fail
          go_ret
          exact ⟨ret_bool (Pure.inSpan_no hk1 (by omega)).symm, rfl⟩
        · go_wp2_with fail
          go_round
          case rel => exact ⟨k + 1, by omega, by go_num, fun j hj => by
            by_cases e : j = k
            · subst e; omega
            · exact HW.out j (by omega)⟩
          case measure => simp [intOf]; omega
    · obtain rfl : k = len := by omega
      go_wp2_with fail
      go_ret
      exact ⟨ret_bool (Pure.inSpan_yes HW.out).symm, rfl⟩

theorem twithin1 (lo hi a : Int) (b cap : Nat) (w : World) (h0 : w.cell? ⟨b, 0, none⟩ = some (.int .i64 a)) (r : Bool) (hr : decide (lo ≤ a ∧ a ≤ hi) = r) :
    Calls Tryz.prog 80 #[spanV lo hi, .slice (some ⟨b, 0, none⟩) 1 cap] w fun e w' => e = .returned (.bool r) ∧ w' = w.alloc (spanB lo hi) :=
  (twithin_nums lo hi _ 1 cap _ (by omega) w (nums_one h0)).mono fun _ _ g => ⟨g.1.trans (ret_bool (Pure.inSpan_one.trans hr)), g.2⟩
theorem tunless_any (so : Bool) (n : Int) (w : World) : Calls Tryz.prog 16 #[.bool so, .int .i64 n] w fun e w' => e = .returned (.int .i64 (Pure.err so n)) ∧ w = w' := by
  cases so
  · go_enter Tryz.func16, Tryz.ntmps16
    go_wp2_with fail
    go_ret
    exact ⟨rfl, rfl⟩
  · go_enter Tryz.func16, Tryz.ntmps16
    go_wp2_with fail
    go_ret
    exact ⟨rfl, rfl⟩

theorem tids_any (w : World) : Calls Tryz.prog 81 #[] w fun e w' => e = .returned (spanV 1 9999) ∧ Below w.heap.size w w' := by
  go_enter Tryz.func81, Tryz.ntmps81
  go_wp2_with fail
  refine bodyPost_ret (v := spanV 1 9999) (by simp [results, Tryz.results81, go_sem]) rfl ⟨rfl, ?_⟩
  repeat (first | exact Below.refl _ _ | refine Below.setCell ?_ (by simp) _ | refine Below.alloc ?_ (by simp; try omega) _)

set_option maxHeartbeats 1000000 in
set_option maxRecDepth 100000 in
theorem indexShiftBad_any (B : Nat) (a : Option Addr) (len cap : Nat) (F : Nat → Int) (q : Nat → Bool) (hl : len ≤ 60) (w : World) (h : NumsAt w a (len * 2) F) (hp : ∀ u j, j < len → Below w.heap.size w u → Calls Tryz.prog 83 #[.agg #[.int .i64 (F (j * 2)), .int .i64 (F (j * 2 + 1))], .pointer (some ⟨B, 0, none⟩)] u fun e u' => e = .returned (.bool (q j)) ∧ Below u.heap.size u u') :
    Calls Tryz.prog 101 #[.slice a len cap, .func (.func 83) #[] #[.pointer (some ⟨B, 0, none⟩)]] w fun e w' => e = .returned (.int .i64 (Pure.firstAt q len)) ∧ Below w.heap.size w w' := by
  have HN := Lib.hid h
  have HP := Lib.hid hp
  clear h hp
  go_enter Tryz.func101, Tryz.ntmps101
  go_wp2_with fail
  go_loopw [5, 8] (fun _ i wr => ∃ k : Nat, k ≤ len ∧ i = .int .i64 k ∧ (∀ j, j < k → q j = false) ∧ Below w.heap.size w wr) (fun _ i _ => len - (intOf i).toNat)
  case atStart => exact ⟨0, Nat.zero_le _, rfl, fun j hj => by omega, Below.refl _ _⟩
  case round =>
    obtain ⟨k, hk, rfl, hq, hb⟩ := hrel
    have HQ := Lib.hid hq
    have HB := Lib.hid hb
    clear hq hb
    by_cases hk1 : k < len
    · obtain ⟨b, off, rfl, _⟩ := HN.out (k * 2) (by omega)
      have c0 := (HN.out.below HB.out).at (show k * 2 < len * 2 by omega)
      have c1 := nums_row (HN.out.below HB.out) (show k * 2 + 1 < len * 2 by omega)
      have hcl := HP.out wr k hk1 HB.out
      have HC := Lib.hid hcl
      clear hcl
      cases hqk : q k with
      | true =>
        rw [hqk] at HC
        go_wp2_with (go_at_call 83; refine HC.out.mono ?_; rintro e u ⟨rfl, hb2⟩)
        go_ret
        exact ⟨ret_int (Pure.firstAt_hit hk1 HQ.out hqk).symm, below_thn HB.out hb2⟩
      | false =>
        rw [hqk] at HC
        go_wp2_with (go_at_call 83; refine HC.out.mono ?_; rintro e u ⟨rfl, hb2⟩)
        go_roundw
        case rel => exact ⟨k + 1, by omega, by go_num, fun j hj => by
          by_cases e : j = k
          · subst e; exact hqk
          · exact HQ.out j (by omega), below_thn HB.out hb2⟩
        case measure => simp [intOf]; omega
    · obtain rfl : k = len := by omega
      go_wp2_with fail
      go_ret
      exact ⟨ret_int (Pure.firstAt_none HQ.out).symm, HB.out⟩

set_option maxHeartbeats 1000000 in
set_option maxRecDepth 100000 in
theorem containsShiftBad_any (B : Nat) (a : Option Addr) (len cap : Nat) (F : Nat → Int) (q : Nat → Bool) (hl : len ≤ 60) (w : World) (h : NumsAt w a (len * 2) F) (hp : ∀ u j, j < len → Below w.heap.size w u → Calls Tryz.prog 83 #[.agg #[.int .i64 (F (j * 2)), .int .i64 (F (j * 2 + 1))], .pointer (some ⟨B, 0, none⟩)] u fun e u' => e = .returned (.bool (q j)) ∧ Below u.heap.size u u') :
    Calls Tryz.prog 85 #[.slice a len cap, .func (.func 83) #[] #[.pointer (some ⟨B, 0, none⟩)]] w fun e w' => e = .returned (.bool ((List.range len).any q)) ∧ Below w.heap.size w w' := by
  go_enter Tryz.func85, Tryz.ntmps85
  go_wp2_with fail
  refine (indexShiftBad_any B a len cap F q hl w h hp).mono ?_
  rintro e u ⟨rfl, hb⟩
  have HF := Lib.hid (Pure.firstAt_some (q := q) (len := len))
  obtain ⟨x, hx⟩ : ∃ x, Pure.firstAt q len = x := ⟨_, rfl⟩
  rw [hx] at HF ⊢
  clear hx
  go_wp2_with fail
  go_ret
  exact ⟨ret_bool HF.out, hb⟩

set_option maxHeartbeats 1000000 in
set_option maxRecDepth 100000 in
theorem indexShiftOf_any (B : Nat) (a : Option Addr) (len cap : Nat) (F : Nat → Int) (q : Nat → Bool) (hl : len ≤ 60) (w : World) (h : NumsAt w a (len * 2) F) (hp : ∀ u j, j < len → Below w.heap.size w u → Calls Tryz.prog 107 #[.agg #[.int .i64 (F (j * 2)), .int .i64 (F (j * 2 + 1))], .pointer (some ⟨B, 0, none⟩)] u fun e u' => e = .returned (.bool (q j)) ∧ Below u.heap.size u u') :
    Calls Tryz.prog 101 #[.slice a len cap, .func (.func 107) #[] #[.pointer (some ⟨B, 0, none⟩)]] w fun e w' => e = .returned (.int .i64 (Pure.firstAt q len)) ∧ Below w.heap.size w w' := by
  have HN := Lib.hid h
  have HP := Lib.hid hp
  clear h hp
  go_enter Tryz.func101, Tryz.ntmps101
  go_wp2_with fail
  go_loopw [5, 8] (fun _ i wr => ∃ k : Nat, k ≤ len ∧ i = .int .i64 k ∧ (∀ j, j < k → q j = false) ∧ Below w.heap.size w wr) (fun _ i _ => len - (intOf i).toNat)
  case atStart => exact ⟨0, Nat.zero_le _, rfl, fun j hj => by omega, Below.refl _ _⟩
  case round =>
    obtain ⟨k, hk, rfl, hq, hb⟩ := hrel
    have HQ := Lib.hid hq
    have HB := Lib.hid hb
    clear hq hb
    by_cases hk1 : k < len
    · obtain ⟨b, off, rfl, _⟩ := HN.out (k * 2) (by omega)
      have c0 := (HN.out.below HB.out).at (show k * 2 < len * 2 by omega)
      have c1 := nums_row (HN.out.below HB.out) (show k * 2 + 1 < len * 2 by omega)
      have hcl := HP.out wr k hk1 HB.out
      have HC := Lib.hid hcl
      clear hcl
      cases hqk : q k with
      | true =>
        rw [hqk] at HC
        go_wp2_with (go_at_call 107; refine HC.out.mono ?_; rintro e u ⟨rfl, hb2⟩)
        go_ret
        exact ⟨ret_int (Pure.firstAt_hit hk1 HQ.out hqk).symm, below_thn HB.out hb2⟩
      | false =>
        rw [hqk] at HC
        go_wp2_with (go_at_call 107; refine HC.out.mono ?_; rintro e u ⟨rfl, hb2⟩)
        go_roundw
        case rel => exact ⟨k + 1, by omega, by go_num, fun j hj => by
          by_cases e : j = k
          · subst e; exact hqk
          · exact HQ.out j (by omega), below_thn HB.out hb2⟩
        case measure => simp [intOf]; omega
    · obtain rfl : k = len := by omega
      go_wp2_with fail
      go_ret
      exact ⟨ret_int (Pure.firstAt_none HQ.out).symm, HB.out⟩

set_option maxHeartbeats 1000000 in
set_option maxRecDepth 100000 in
theorem indexPressed_any (B : Nat) (a : Option Addr) (len cap : Nat) (F : Nat → Int) (q : Nat → Bool) (hl : len ≤ 60) (w : World) (h : NumsAt w a (len * 4) F) (hp : ∀ u j, j < len → Below w.heap.size w u → Calls Tryz.prog 100 #[.agg #[.int .i64 (F (j * 4)), .int .i64 (F (j * 4 + 1)), .int .i64 (F (j * 4 + 2)), .int .i64 (F (j * 4 + 3))], .pointer (some ⟨B, 0, none⟩)] u fun e u' => e = .returned (.bool (q j)) ∧ Below u.heap.size u u') :
    Calls Tryz.prog 94 #[.slice a len cap, .func (.func 100) #[] #[.pointer (some ⟨B, 0, none⟩)]] w fun e w' => e = .returned (.int .i64 (Pure.firstAt q len)) ∧ Below w.heap.size w w' := by
  have HN := Lib.hid h
  have HP := Lib.hid hp
  clear h hp
  go_enter Tryz.func94, Tryz.ntmps94
  go_wp2_with fail
  go_loopw [5, 8] (fun _ i wr => ∃ k : Nat, k ≤ len ∧ i = .int .i64 k ∧ (∀ j, j < k → q j = false) ∧ Below w.heap.size w wr) (fun _ i _ => len - (intOf i).toNat)
  case atStart => exact ⟨0, Nat.zero_le _, rfl, fun j hj => by omega, Below.refl _ _⟩
  case round =>
    obtain ⟨k, hk, rfl, hq, hb⟩ := hrel
    have HQ := Lib.hid hq
    have HB := Lib.hid hb
    clear hq hb
    by_cases hk1 : k < len
    · obtain ⟨b, off, rfl, _⟩ := HN.out (k * 4) (by omega)
      have c0 := (HN.out.below HB.out).at (show k * 4 < len * 4 by omega)
      have c1 := nums_row (HN.out.below HB.out) (show k * 4 + 1 < len * 4 by omega)
      have c2 := nums_row (HN.out.below HB.out) (show k * 4 + 2 < len * 4 by omega)
      have c3 := nums_row (HN.out.below HB.out) (show k * 4 + 3 < len * 4 by omega)
      have hcl := HP.out wr k hk1 HB.out
      have HC := Lib.hid hcl
      clear hcl
      cases hqk : q k with
      | true =>
        rw [hqk] at HC
        go_wp2_with (go_at_call 100; refine HC.out.mono ?_; rintro e u ⟨rfl, hb2⟩)
        go_ret
        exact ⟨ret_int (Pure.firstAt_hit hk1 HQ.out hqk).symm, below_thn HB.out hb2⟩
      | false =>
        rw [hqk] at HC
        go_wp2_with (go_at_call 100; refine HC.out.mono ?_; rintro e u ⟨rfl, hb2⟩)
        go_roundw
        case rel => exact ⟨k + 1, by omega, by go_num, fun j hj => by
          by_cases e : j = k
          · subst e; exact hqk
          · exact HQ.out j (by omega), below_thn HB.out hb2⟩
        case measure => simp [intOf]; omega
    · obtain rfl : k = len := by omega
      go_wp2_with fail
      go_ret
      exact ⟨ret_int (Pure.firstAt_none HQ.out).symm, HB.out⟩

set_option maxHeartbeats 1000000 in
set_option maxRecDepth 100000 in
theorem containsPressed_any (B : Nat) (a : Option Addr) (len cap : Nat) (F : Nat → Int) (q : Nat → Bool) (hl : len ≤ 60) (w : World) (h : NumsAt w a (len * 4) F) (hp : ∀ u j, j < len → Below w.heap.size w u → Calls Tryz.prog 100 #[.agg #[.int .i64 (F (j * 4)), .int .i64 (F (j * 4 + 1)), .int .i64 (F (j * 4 + 2)), .int .i64 (F (j * 4 + 3))], .pointer (some ⟨B, 0, none⟩)] u fun e u' => e = .returned (.bool (q j)) ∧ Below u.heap.size u u') :
    Calls Tryz.prog 67 #[.slice a len cap, .func (.func 100) #[] #[.pointer (some ⟨B, 0, none⟩)]] w fun e w' => e = .returned (.bool ((List.range len).any q)) ∧ Below w.heap.size w w' := by
  go_enter Tryz.func67, Tryz.ntmps67
  go_wp2_with fail
  refine (indexPressed_any B a len cap F q hl w h hp).mono ?_
  rintro e u ⟨rfl, hb⟩
  have HF := Lib.hid (Pure.firstAt_some (q := q) (len := len))
  obtain ⟨x, hx⟩ : ∃ x, Pure.firstAt q len = x := ⟨_, rfl⟩
  rw [hx] at HF ⊢
  clear hx
  go_wp2_with fail
  go_ret
  exact ⟨ret_bool HF.out, hb⟩

set_option maxHeartbeats 1000000 in
set_option maxRecDepth 100000 in
theorem indexNoteBad_any (B : Nat) (a : Option Addr) (len cap : Nat) (N : Nat → NoteX) (q : Nat → Bool) (hl : len ≤ 60) (w : World) (h : NotesAt w a len N) (hp : ∀ u j, j < len → Below w.heap.size w u → Calls Tryz.prog 88 #[tnoteV (N j), .pointer (some ⟨B, 0, none⟩)] u fun e u' => e = .returned (.bool (q j)) ∧ Below u.heap.size u u') :
    Calls Tryz.prog 59 #[.slice a len cap, .func (.func 88) #[] #[.pointer (some ⟨B, 0, none⟩)]] w fun e w' => e = .returned (.int .i64 (Pure.firstAt q len)) ∧ Below w.heap.size w w' := by
  have HN := Lib.hid h
  have HP := Lib.hid hp
  clear h hp
  go_enter Tryz.func59, Tryz.ntmps59
  go_wp2_with fail
  go_loopw [5, 8] (fun _ i wr => ∃ k : Nat, k ≤ len ∧ i = .int .i64 k ∧ (∀ j, j < k → q j = false) ∧ Below w.heap.size w wr) (fun _ i _ => len - (intOf i).toNat)
  case atStart => exact ⟨0, Nat.zero_le _, rfl, fun j hj => by omega, Below.refl _ _⟩
  case round =>
    obtain ⟨k, hk, rfl, hq, hb⟩ := hrel
    have HQ := Lib.hid hq
    have HB := Lib.hid hb
    clear hq hb
    by_cases hk1 : k < len
    · obtain ⟨b, off, rfl, _⟩ := HN.out k hk1
      have hnc := (HN.out.below HB.out).at hk1
      have c0 := hnc.c0
      have c1 := hnc.c1
      have c2 := hnc.c2
      have c3 := hnc.c3
      have c4 := hnc.c4
      have c5 := hnc.c5
      have c6 := hnc.c6
      clear hnc
      have hcl := HP.out wr k hk1 HB.out
      have HC := Lib.hid hcl
      clear hcl
      cases hqk : q k with
      | true =>
        rw [hqk] at HC
        go_wp2_with (go_at_call 88; refine HC.out.mono ?_; rintro e u ⟨rfl, hb2⟩)
        go_ret
        exact ⟨ret_int (Pure.firstAt_hit hk1 HQ.out hqk).symm, below_thn HB.out hb2⟩
      | false =>
        rw [hqk] at HC
        go_wp2_with (go_at_call 88; refine HC.out.mono ?_; rintro e u ⟨rfl, hb2⟩)
        go_roundw
        case rel => exact ⟨k + 1, by omega, by go_num, fun j hj => by
          by_cases e : j = k
          · subst e; exact hqk
          · exact HQ.out j (by omega), below_thn HB.out hb2⟩
        case measure => simp [intOf]; omega
    · obtain rfl : k = len := by omega
      go_wp2_with fail
      go_ret
      exact ⟨ret_int (Pure.firstAt_none HQ.out).symm, HB.out⟩

set_option maxHeartbeats 1000000 in
set_option maxRecDepth 100000 in
theorem containsNoteBad_any (B : Nat) (a : Option Addr) (len cap : Nat) (N : Nat → NoteX) (q : Nat → Bool) (hl : len ≤ 60) (w : World) (h : NotesAt w a len N) (hp : ∀ u j, j < len → Below w.heap.size w u → Calls Tryz.prog 88 #[tnoteV (N j), .pointer (some ⟨B, 0, none⟩)] u fun e u' => e = .returned (.bool (q j)) ∧ Below u.heap.size u u') :
    Calls Tryz.prog 48 #[.slice a len cap, .func (.func 88) #[] #[.pointer (some ⟨B, 0, none⟩)]] w fun e w' => e = .returned (.bool ((List.range len).any q)) ∧ Below w.heap.size w w' := by
  go_enter Tryz.func48, Tryz.ntmps48
  go_wp2_with fail
  refine (indexNoteBad_any B a len cap N q hl w h hp).mono ?_
  rintro e u ⟨rfl, hb⟩
  have HF := Lib.hid (Pure.firstAt_some (q := q) (len := len))
  obtain ⟨x, hx⟩ : ∃ x, Pure.firstAt q len = x := ⟨_, rfl⟩
  rw [hx] at HF ⊢
  clear hx
  go_wp2_with fail
  go_ret
  exact ⟨ret_bool HF.out, hb⟩

set_option maxHeartbeats 1000000 in
set_option maxRecDepth 100000 in
theorem indexNoteNo_any (B : Nat) (a : Option Addr) (len cap : Nat) (N : Nat → NoteX) (q : Nat → Bool) (hl : len ≤ 60) (w : World) (h : NotesAt w a len N) (hp : ∀ u j, j < len → Below w.heap.size w u → Calls Tryz.prog 49 #[tnoteV (N j), .pointer (some ⟨B, 0, none⟩)] u fun e u' => e = .returned (.bool (q j)) ∧ Below u.heap.size u u') :
    Calls Tryz.prog 59 #[.slice a len cap, .func (.func 49) #[] #[.pointer (some ⟨B, 0, none⟩)]] w fun e w' => e = .returned (.int .i64 (Pure.firstAt q len)) ∧ Below w.heap.size w w' := by
  have HN := Lib.hid h
  have HP := Lib.hid hp
  clear h hp
  go_enter Tryz.func59, Tryz.ntmps59
  go_wp2_with fail
  go_loopw [5, 8] (fun _ i wr => ∃ k : Nat, k ≤ len ∧ i = .int .i64 k ∧ (∀ j, j < k → q j = false) ∧ Below w.heap.size w wr) (fun _ i _ => len - (intOf i).toNat)
  case atStart => exact ⟨0, Nat.zero_le _, rfl, fun j hj => by omega, Below.refl _ _⟩
  case round =>
    obtain ⟨k, hk, rfl, hq, hb⟩ := hrel
    have HQ := Lib.hid hq
    have HB := Lib.hid hb
    clear hq hb
    by_cases hk1 : k < len
    · obtain ⟨b, off, rfl, _⟩ := HN.out k hk1
      have hnc := (HN.out.below HB.out).at hk1
      have c0 := hnc.c0
      have c1 := hnc.c1
      have c2 := hnc.c2
      have c3 := hnc.c3
      have c4 := hnc.c4
      have c5 := hnc.c5
      have c6 := hnc.c6
      clear hnc
      have hcl := HP.out wr k hk1 HB.out
      have HC := Lib.hid hcl
      clear hcl
      cases hqk : q k with
      | true =>
        rw [hqk] at HC
        go_wp2_with (go_at_call 49; refine HC.out.mono ?_; rintro e u ⟨rfl, hb2⟩)
        go_ret
        exact ⟨ret_int (Pure.firstAt_hit hk1 HQ.out hqk).symm, below_thn HB.out hb2⟩
      | false =>
        rw [hqk] at HC
        go_wp2_with (go_at_call 49; refine HC.out.mono ?_; rintro e u ⟨rfl, hb2⟩)
        go_roundw
        case rel => exact ⟨k + 1, by omega, by go_num, fun j hj => by
          by_cases e : j = k
          · subst e; exact hqk
          · exact HQ.out j (by omega), below_thn HB.out hb2⟩
        case measure => simp [intOf]; omega
    · obtain rfl : k = len := by omega
      go_wp2_with fail
      go_ret
      exact ⟨ret_int (Pure.firstAt_none HQ.out).symm, HB.out⟩

set_option maxHeartbeats 1000000 in
set_option maxRecDepth 100000 in
theorem containsNoteNo_any (B : Nat) (a : Option Addr) (len cap : Nat) (N : Nat → NoteX) (q : Nat → Bool) (hl : len ≤ 60) (w : World) (h : NotesAt w a len N) (hp : ∀ u j, j < len → Below w.heap.size w u → Calls Tryz.prog 49 #[tnoteV (N j), .pointer (some ⟨B, 0, none⟩)] u fun e u' => e = .returned (.bool (q j)) ∧ Below u.heap.size u u') :
    Calls Tryz.prog 48 #[.slice a len cap, .func (.func 49) #[] #[.pointer (some ⟨B, 0, none⟩)]] w fun e w' => e = .returned (.bool ((List.range len).any q)) ∧ Below w.heap.size w w' := by
  go_enter Tryz.func48, Tryz.ntmps48
  go_wp2_with fail
  refine (indexNoteNo_any B a len cap N q hl w h hp).mono ?_
  rintro e u ⟨rfl, hb⟩
  have HF := Lib.hid (Pure.firstAt_some (q := q) (len := len))
  obtain ⟨x, hx⟩ : ∃ x, Pure.firstAt q len = x := ⟨_, rfl⟩
  rw [hx] at HF ⊢
  clear hx
  go_wp2_with fail
  go_ret
  exact ⟨ret_bool HF.out, hb⟩

set_option maxHeartbeats 1000000 in
set_option maxRecDepth 100000 in
theorem indexNoteStruck_any (B : Nat) (a : Option Addr) (len cap : Nat) (N : Nat → NoteX) (q : Nat → Bool) (hl : len ≤ 60) (w : World) (h : NotesAt w a len N) (hp : ∀ u j, j < len → Below w.heap.size w u → Calls Tryz.prog 36 #[tnoteV (N j), .pointer (some ⟨B, 0, none⟩)] u fun e u' => e = .returned (.bool (q j)) ∧ Below u.heap.size u u') :
    Calls Tryz.prog 59 #[.slice a len cap, .func (.func 36) #[] #[.pointer (some ⟨B, 0, none⟩)]] w fun e w' => e = .returned (.int .i64 (Pure.firstAt q len)) ∧ Below w.heap.size w w' := by
  have HN := Lib.hid h
  have HP := Lib.hid hp
  clear h hp
  go_enter Tryz.func59, Tryz.ntmps59
  go_wp2_with fail
  go_loopw [5, 8] (fun _ i wr => ∃ k : Nat, k ≤ len ∧ i = .int .i64 k ∧ (∀ j, j < k → q j = false) ∧ Below w.heap.size w wr) (fun _ i _ => len - (intOf i).toNat)
  case atStart => exact ⟨0, Nat.zero_le _, rfl, fun j hj => by omega, Below.refl _ _⟩
  case round =>
    obtain ⟨k, hk, rfl, hq, hb⟩ := hrel
    have HQ := Lib.hid hq
    have HB := Lib.hid hb
    clear hq hb
    by_cases hk1 : k < len
    · obtain ⟨b, off, rfl, _⟩ := HN.out k hk1
      have hnc := (HN.out.below HB.out).at hk1
      have c0 := hnc.c0
      have c1 := hnc.c1
      have c2 := hnc.c2
      have c3 := hnc.c3
      have c4 := hnc.c4
      have c5 := hnc.c5
      have c6 := hnc.c6
      clear hnc
      have hcl := HP.out wr k hk1 HB.out
      have HC := Lib.hid hcl
      clear hcl
      cases hqk : q k with
      | true =>
        rw [hqk] at HC
        go_wp2_with (go_at_call 36; refine HC.out.mono ?_; rintro e u ⟨rfl, hb2⟩)
        go_ret
        exact ⟨ret_int (Pure.firstAt_hit hk1 HQ.out hqk).symm, below_thn HB.out hb2⟩
      | false =>
        rw [hqk] at HC
        go_wp2_with (go_at_call 36; refine HC.out.mono ?_; rintro e u ⟨rfl, hb2⟩)
        go_roundw
        case rel => exact ⟨k + 1, by omega, by go_num, fun j hj => by
          by_cases e : j = k
          · subst e; exact hqk
          · exact HQ.out j (by omega), below_thn HB.out hb2⟩
        case measure => simp [intOf]; omega
    · obtain rfl : k = len := by omega
      go_wp2_with fail
      go_ret
      exact ⟨ret_int (Pure.firstAt_none HQ.out).symm, HB.out⟩

set_option maxHeartbeats 1000000 in
set_option maxRecDepth 100000 in
theorem indexThingBad_any (B : Nat) (a : Option Addr) (len cap : Nat) (A D : Nat → Int) (T : Nat → Bool) (q : Nat → Bool) (hl : len ≤ 60) (w : World) (h : ThingsAt w a len A D T) (hp : ∀ u j, j < len → Below w.heap.size w u → Calls Tryz.prog 102 #[thingV (A j) (D j) (T j), .pointer (some ⟨B, 0, none⟩)] u fun e u' => e = .returned (.bool (q j)) ∧ Below u.heap.size u u') :
    Calls Tryz.prog 108 #[.slice a len cap, .func (.func 102) #[] #[.pointer (some ⟨B, 0, none⟩)]] w fun e w' => e = .returned (.int .i64 (Pure.firstAt q len)) ∧ Below w.heap.size w w' := by
  have HN := Lib.hid h
  have HP := Lib.hid hp
  clear h hp
  go_enter Tryz.func108, Tryz.ntmps108
  go_wp2_with fail
  go_loopw [5, 8] (fun _ i wr => ∃ k : Nat, k ≤ len ∧ i = .int .i64 k ∧ (∀ j, j < k → q j = false) ∧ Below w.heap.size w wr) (fun _ i _ => len - (intOf i).toNat)
  case atStart => exact ⟨0, Nat.zero_le _, rfl, fun j hj => by omega, Below.refl _ _⟩
  case round =>
    obtain ⟨k, hk, rfl, hq, hb⟩ := hrel
    have HQ := Lib.hid hq
    have HB := Lib.hid hb
    clear hq hb
    by_cases hk1 : k < len
    · obtain ⟨b, off, rfl, _⟩ := HN.out k hk1
      obtain ⟨c0, c1, c2⟩ := (HN.out.below HB.out).at hk1
      have hcl := HP.out wr k hk1 HB.out
      have HC := Lib.hid hcl
      clear hcl
      cases hqk : q k with
      | true =>
        rw [hqk] at HC
        go_wp2_with (go_at_call 102; refine HC.out.mono ?_; rintro e u ⟨rfl, hb2⟩)
        go_ret
        exact ⟨ret_int (Pure.firstAt_hit hk1 HQ.out hqk).symm, below_thn HB.out hb2⟩
      | false =>
        rw [hqk] at HC
        go_wp2_with (go_at_call 102; refine HC.out.mono ?_; rintro e u ⟨rfl, hb2⟩)
        go_roundw
        case rel => exact ⟨k + 1, by omega, by go_num, fun j hj => by
          by_cases e : j = k
          · subst e; exact hqk
          · exact HQ.out j (by omega), below_thn HB.out hb2⟩
        case measure => simp [intOf]; omega
    · obtain rfl : k = len := by omega
      go_wp2_with fail
      go_ret
      exact ⟨ret_int (Pure.firstAt_none HQ.out).symm, HB.out⟩

set_option maxHeartbeats 1000000 in
set_option maxRecDepth 100000 in
theorem containsThingBad_any (B : Nat) (a : Option Addr) (len cap : Nat) (A D : Nat → Int) (T : Nat → Bool) (q : Nat → Bool) (hl : len ≤ 60) (w : World) (h : ThingsAt w a len A D T) (hp : ∀ u j, j < len → Below w.heap.size w u → Calls Tryz.prog 102 #[thingV (A j) (D j) (T j), .pointer (some ⟨B, 0, none⟩)] u fun e u' => e = .returned (.bool (q j)) ∧ Below u.heap.size u u') :
    Calls Tryz.prog 104 #[.slice a len cap, .func (.func 102) #[] #[.pointer (some ⟨B, 0, none⟩)]] w fun e w' => e = .returned (.bool ((List.range len).any q)) ∧ Below w.heap.size w w' := by
  go_enter Tryz.func104, Tryz.ntmps104
  go_wp2_with fail
  refine (indexThingBad_any B a len cap A D T q hl w h hp).mono ?_
  rintro e u ⟨rfl, hb⟩
  have HF := Lib.hid (Pure.firstAt_some (q := q) (len := len))
  obtain ⟨x, hx⟩ : ∃ x, Pure.firstAt q len = x := ⟨_, rfl⟩
  rw [hx] at HF ⊢
  clear hx
  go_wp2_with fail
  go_ret
  exact ⟨ret_bool HF.out, hb⟩

set_option maxHeartbeats 1000000 in
set_option maxRecDepth 100000 in
theorem indexNoNote_any (B : Nat) (a : Option Addr) (len cap : Nat) (F : Nat → Int) (q : Nat → Bool) (hl : len ≤ 60) (w : World) (h : NumsAt w a len F) (hp : ∀ u j, j < len → Below w.heap.size w u → Calls Tryz.prog 47 #[.int .i64 (F j), .pointer (some ⟨B, 0, none⟩)] u fun e u' => e = .returned (.bool (q j)) ∧ Below u.heap.size u u') :
    Calls Tryz.prog 64 #[.slice a len cap, .func (.func 47) #[] #[.pointer (some ⟨B, 0, none⟩)]] w fun e w' => e = .returned (.int .i64 (Pure.firstAt q len)) ∧ Below w.heap.size w w' := by
  have HN := Lib.hid h
  have HP := Lib.hid hp
  clear h hp
  go_enter Tryz.func64, Tryz.ntmps64
  go_wp2_with fail
  go_loopw [5, 8] (fun _ i wr => ∃ k : Nat, k ≤ len ∧ i = .int .i64 k ∧ (∀ j, j < k → q j = false) ∧ Below w.heap.size w wr) (fun _ i _ => len - (intOf i).toNat)
  case atStart => exact ⟨0, Nat.zero_le _, rfl, fun j hj => by omega, Below.refl _ _⟩
  case round =>
    obtain ⟨k, hk, rfl, hq, hb⟩ := hrel
    have HQ := Lib.hid hq
    have HB := Lib.hid hb
    clear hq hb
    by_cases hk1 : k < len
    · obtain ⟨b, off, rfl, _⟩ := HN.out k hk1
      have c0 := (HN.out.below HB.out).at hk1
      have hcl := HP.out wr k hk1 HB.out
      have HC := Lib.hid hcl
      clear hcl
      cases hqk : q k with
      | true =>
        rw [hqk] at HC
        go_wp2_with (go_at_call 47; refine HC.out.mono ?_; rintro e u ⟨rfl, hb2⟩)
        go_ret
        exact ⟨ret_int (Pure.firstAt_hit hk1 HQ.out hqk).symm, below_thn HB.out hb2⟩
      | false =>
        rw [hqk] at HC
        go_wp2_with (go_at_call 47; refine HC.out.mono ?_; rintro e u ⟨rfl, hb2⟩)
        go_roundw
        case rel => exact ⟨k + 1, by omega, by go_num, fun j hj => by
          by_cases e : j = k
          · subst e; exact hqk
          · exact HQ.out j (by omega), below_thn HB.out hb2⟩
        case measure => simp [intOf]; omega
    · obtain rfl : k = len := by omega
      go_wp2_with fail
      go_ret
      exact ⟨ret_int (Pure.firstAt_none HQ.out).symm, HB.out⟩

set_option maxHeartbeats 1000000 in
set_option maxRecDepth 100000 in
theorem containsNoNote_any (B : Nat) (a : Option Addr) (len cap : Nat) (F : Nat → Int) (q : Nat → Bool) (hl : len ≤ 60) (w : World) (h : NumsAt w a len F) (hp : ∀ u j, j < len → Below w.heap.size w u → Calls Tryz.prog 47 #[.int .i64 (F j), .pointer (some ⟨B, 0, none⟩)] u fun e u' => e = .returned (.bool (q j)) ∧ Below u.heap.size u u') :
    Calls Tryz.prog 52 #[.slice a len cap, .func (.func 47) #[] #[.pointer (some ⟨B, 0, none⟩)]] w fun e w' => e = .returned (.bool ((List.range len).any q)) ∧ Below w.heap.size w w' := by
  go_enter Tryz.func52, Tryz.ntmps52
  go_wp2_with fail
  refine (indexNoNote_any B a len cap F q hl w h hp).mono ?_
  rintro e u ⟨rfl, hb⟩
  have HF := Lib.hid (Pure.firstAt_some (q := q) (len := len))
  obtain ⟨x, hx⟩ : ∃ x, Pure.firstAt q len = x := ⟨_, rfl⟩
  rw [hx] at HF ⊢
  clear hx
  go_wp2_with fail
  go_ret
  exact ⟨ret_bool HF.out, hb⟩

namespace Pure
/-- Whether a list has a number. -/
def has (l : Nat) (G : Nat → Int) (x : Int) : Bool := (List.range l).any fun j => G j == x
end Pure
set_option maxHeartbeats 1000000 in
set_option maxRecDepth 100000 in
theorem indexNum_any (a : Option Addr) (len cap : Nat) (F : Nat → Int) (x : Int) (hl : len ≤ 1000000) (w : World) (h : NumsAt w a len F) :
    Calls Tryz.prog 58 #[.slice a len cap, .int .i64 x] w fun e w' => e = .returned (.int .i64 (Pure.firstAt (fun j => F j == x) len)) ∧ Below w.heap.size w w' := by
  have HN := Lib.hid h
  clear h
  go_enter Tryz.func58, Tryz.ntmps58
  go_wp2_with fail
  go_loop [5, 8] (fun _ i => ∃ k : Nat, k ≤ len ∧ i = .int .i64 k ∧ ∀ j, j < k → (F j == x) = false) (fun _ i => len - (intOf i).toNat)
  case atStart => exact ⟨0, Nat.zero_le _, rfl, fun j hj => by omega⟩
  case round =>
    obtain ⟨k, hk, rfl, hq⟩ := hrel
    have HQ := Lib.hid hq
    clear hq
    by_cases hk1 : k < len
    · obtain ⟨b, off, rfl, c0⟩ := HN.out k hk1
      have HK := Lib.hid hk1
      cases hqk : (x == F k) with
      | true =>
        have h2 : (F k == x) = true := by simp at hqk ⊢; exact hqk.symm
        have H2 := Lib.hid h2
        clear h2
        go_wp2_with fail
        go_ret
        exact ⟨ret_int (Pure.firstAt_hit HK.out HQ.out H2.out).symm, Below.refl _ _⟩
      | false =>
        have h2 : (F k == x) = false := by simp at hqk ⊢; exact fun e => hqk e.symm
        have H2 := Lib.hid h2
        clear h2
        go_wp2_with fail
        go_round
        case rel => exact ⟨k + 1, by omega, by go_num, fun j hj => by
          by_cases e : j = k
          · subst e; exact H2.out
          · exact HQ.out j (by omega)⟩
        case measure => simp [intOf]; omega
    · obtain rfl : k = len := by omega
      go_wp2_with fail
      go_ret
      exact ⟨ret_int (Pure.firstAt_none HQ.out).symm, Below.refl _ _⟩

set_option maxHeartbeats 1000000 in
set_option maxRecDepth 100000 in
theorem containsNum_any (a : Option Addr) (len cap : Nat) (F : Nat → Int) (x : Int) (hl : len ≤ 1000000) (w : World) (h : NumsAt w a len F) :
    Calls Tryz.prog 37 #[.slice a len cap, .int .i64 x] w fun e w' => e = .returned (.bool (Pure.has len F x)) ∧ Below w.heap.size w w' := by
  go_enter Tryz.func37, Tryz.ntmps37
  go_wp2_with fail
  refine (indexNum_any a len cap F x hl w h).mono ?_
  rintro e u ⟨rfl, hb⟩
  have HF := Lib.hid (Pure.firstAt_some (q := fun j => F j == x) (len := len))
  obtain ⟨y, hy⟩ : ∃ y, Pure.firstAt (fun j => F j == x) len = y := ⟨_, rfl⟩
  rw [hy] at HF ⊢
  clear hy
  go_wp2_with fail
  go_ret
  exact ⟨ret_bool HF.out, hb⟩

set_option maxHeartbeats 1000000 in
set_option maxRecDepth 100000 in
theorem inOrderMen_any (a : Option Addr) (len cap : Nat) (F : Nat → Int) (q : Nat → Bool) (hl : len ≤ 1000000) (w : World) (h : NumsAt w a (len) F)
    (hp : ∀ u j, j + 1 < len → Below w.heap.size w u → Calls Tryz.prog 82 #[.int .i64 (F (j)), .int .i64 (F (j + 1))] u fun e u' => e = .returned (.bool (q j)) ∧ Below u.heap.size u u') :
    Calls Tryz.prog 50 #[.slice a len cap, .func (.func 82) #[] #[]] w fun e w' => e = .returned (.bool (Pure.inOrder q len)) ∧ Below w.heap.size w w' := by
  have HN := Lib.hid h
  have HP := Lib.hid hp
  clear h hp
  go_enter Tryz.func50, Tryz.ntmps50
  go_wp2_with fail
  go_loopw [5] (fun i wr => ∃ k : Nat, (k + 1 ≤ len ∨ k = 0) ∧ i = .int .i64 (k + 1) ∧ (∀ j, j < k → q j = true) ∧ Below w.heap.size w wr) (fun i _ => len - (intOf i).toNat)
  case atStart => exact ⟨0, .inr rfl, rfl, fun j hj => by omega, Below.refl _ _⟩
  case round =>
    obtain ⟨k, hk, rfl, hq, hb⟩ := hrel
    have HQ := Lib.hid hq
    have HB := Lib.hid hb
    clear hq hb
    by_cases hk1 : k + 1 < len
    · obtain ⟨b, off, rfl, _⟩ := HN.out k (by omega)
      have n1 : (k : Int) + 1 < len := by omega
      have HNr := Lib.hid (HN.out.below HB.out)
      have ca0 := HNr.out.at (show k < len by omega)
      have cb0 := HNr.out.at (show k + 1 < len by omega)
      have hcl := HP.out
      have q2 : IntKind.i64.wrap ((k : Int) + 1 - 1) = k := by rw [IntWalk.i64_in _ (by omega)]; omega
      have q3 : ((k : Int) + 1).toNat = k + 1 := by omega
      have xca0 := among_below ca0
      have xcb0 := among_below cb0
      have HCL : Hid (∀ xq : Among (Below wr.heap.size wr), Calls Tryz.prog 82 #[.int .i64 (F k), .int .i64 (F (k + 1))] xq.val fun e w' => e = .returned (.bool (q k)) ∧ ∃ y : Among (Below wr.heap.size wr), w' = y.val) :=
        Lib.hid (fun xq => calls_class ((HP.out xq.val k hk1 (below_thn HB.out xq.ok)).mono fun e w' h => ⟨h.1, xq.ok.trans (h.2.mono xq.ok.size)⟩))
      clear hcl
      go_upto_region 4 with fail
      have HSt : Hid (Below wr.heap.size wr wr.drew) := Lib.hid (Below.refl _ _).drew
      have hne : Nonempty (Among (Below wr.heap.size wr)) := ⟨⟨_, HSt.out⟩⟩
      refine wp_region_class (Below wr.heap.size wr) (by kernel_rfl) (by kernel_rfl) HSt.out ?_
      repeat (go_big_quiet_step ((go_at_call 82; exact HCL.out _)))
      refine wpQuiet_nil ?_
      intro w8 hx
      have HB8 := Lib.hid (below_thn HB.out (among_out hx))
      clear hx hne xca0 xcb0
      cases hqk : q k with
      | true =>
        go_wp2_with fail
        go_roundw
        case rel => exact ⟨k + 1, .inl (by omega), by go_num, fun j hj => by
          by_cases e : j = k
          · subst e; exact hqk
          · exact HQ.out j (by omega), HB8.out⟩
        case measure => simp [intOf]; omega
      | false =>
        go_wp2_with fail
        go_ret
        exact ⟨ret_bool (Pure.inOrder_no hk1 hqk).symm, HB8.out⟩
    · have n1 : ¬ (k : Int) + 1 < len := by omega
      go_wp2_with fail
      go_ret
      exact ⟨ret_bool (Pure.inOrder_yes fun j hj => HQ.out j (by omega)).symm, HB.out⟩

theorem lessMen_any (x y : Int) (w : World) : Calls Tryz.prog 82 #[.int .i64 x, .int .i64 y] w fun e w' => e = .returned (.bool (decide (x < y))) ∧ Below w.heap.size w w' := by
  go_enter Tryz.func82, Tryz.ntmps82
  go_wp2_with fail
  go_ret
  exact ⟨rfl, Below.refl _ _⟩

set_option maxHeartbeats 1000000 in
set_option maxRecDepth 100000 in
theorem inOrderNos_any (a : Option Addr) (len cap : Nat) (F : Nat → Int) (q : Nat → Bool) (hl : len ≤ 1000000) (w : World) (h : NumsAt w a (len) F)
    (hp : ∀ u j, j + 1 < len → Below w.heap.size w u → Calls Tryz.prog 51 #[.int .i64 (F (j)), .int .i64 (F (j + 1))] u fun e u' => e = .returned (.bool (q j)) ∧ Below u.heap.size u u') :
    Calls Tryz.prog 50 #[.slice a len cap, .func (.func 51) #[] #[]] w fun e w' => e = .returned (.bool (Pure.inOrder q len)) ∧ Below w.heap.size w w' := by
  have HN := Lib.hid h
  have HP := Lib.hid hp
  clear h hp
  go_enter Tryz.func50, Tryz.ntmps50
  go_wp2_with fail
  go_loopw [5] (fun i wr => ∃ k : Nat, (k + 1 ≤ len ∨ k = 0) ∧ i = .int .i64 (k + 1) ∧ (∀ j, j < k → q j = true) ∧ Below w.heap.size w wr) (fun i _ => len - (intOf i).toNat)
  case atStart => exact ⟨0, .inr rfl, rfl, fun j hj => by omega, Below.refl _ _⟩
  case round =>
    obtain ⟨k, hk, rfl, hq, hb⟩ := hrel
    have HQ := Lib.hid hq
    have HB := Lib.hid hb
    clear hq hb
    by_cases hk1 : k + 1 < len
    · obtain ⟨b, off, rfl, _⟩ := HN.out k (by omega)
      have n1 : (k : Int) + 1 < len := by omega
      have HNr := Lib.hid (HN.out.below HB.out)
      have ca0 := HNr.out.at (show k < len by omega)
      have cb0 := HNr.out.at (show k + 1 < len by omega)
      have hcl := HP.out
      have q2 : IntKind.i64.wrap ((k : Int) + 1 - 1) = k := by rw [IntWalk.i64_in _ (by omega)]; omega
      have q3 : ((k : Int) + 1).toNat = k + 1 := by omega
      have xca0 := among_below ca0
      have xcb0 := among_below cb0
      have HCL : Hid (∀ xq : Among (Below wr.heap.size wr), Calls Tryz.prog 51 #[.int .i64 (F k), .int .i64 (F (k + 1))] xq.val fun e w' => e = .returned (.bool (q k)) ∧ ∃ y : Among (Below wr.heap.size wr), w' = y.val) :=
        Lib.hid (fun xq => calls_class ((HP.out xq.val k hk1 (below_thn HB.out xq.ok)).mono fun e w' h => ⟨h.1, xq.ok.trans (h.2.mono xq.ok.size)⟩))
      clear hcl
      go_upto_region 4 with fail
      have HSt : Hid (Below wr.heap.size wr wr.drew) := Lib.hid (Below.refl _ _).drew
      have hne : Nonempty (Among (Below wr.heap.size wr)) := ⟨⟨_, HSt.out⟩⟩
      refine wp_region_class (Below wr.heap.size wr) (by kernel_rfl) (by kernel_rfl) HSt.out ?_
      repeat (go_big_quiet_step ((go_at_call 51; exact HCL.out _)))
      refine wpQuiet_nil ?_
      intro w8 hx
      have HB8 := Lib.hid (below_thn HB.out (among_out hx))
      clear hx hne xca0 xcb0
      cases hqk : q k with
      | true =>
        go_wp2_with fail
        go_roundw
        case rel => exact ⟨k + 1, .inl (by omega), by go_num, fun j hj => by
          by_cases e : j = k
          · subst e; exact hqk
          · exact HQ.out j (by omega), HB8.out⟩
        case measure => simp [intOf]; omega
      | false =>
        go_wp2_with fail
        go_ret
        exact ⟨ret_bool (Pure.inOrder_no hk1 hqk).symm, HB8.out⟩
    · have n1 : ¬ (k : Int) + 1 < len := by omega
      go_wp2_with fail
      go_ret
      exact ⟨ret_bool (Pure.inOrder_yes fun j hj => HQ.out j (by omega)).symm, HB.out⟩

theorem lessNos_any (x y : Int) (w : World) : Calls Tryz.prog 51 #[.int .i64 x, .int .i64 y] w fun e w' => e = .returned (.bool (decide (x < y))) ∧ Below w.heap.size w w' := by
  go_enter Tryz.func51, Tryz.ntmps51
  go_wp2_with fail
  go_ret
  exact ⟨rfl, Below.refl _ _⟩

set_option maxHeartbeats 1000000 in
set_option maxRecDepth 100000 in
theorem inOrderShift_any (a : Option Addr) (len cap : Nat) (F : Nat → Int) (q : Nat → Bool) (hl : len ≤ 60) (w : World) (h : NumsAt w a (len * 2) F)
    (hp : ∀ u j, j + 1 < len → Below w.heap.size w u → Calls Tryz.prog 87 #[.agg #[.int .i64 (F (j * 2)), .int .i64 (F (j * 2 + 1))], .agg #[.int .i64 (F ((j + 1) * 2)), .int .i64 (F ((j + 1) * 2 + 1))]] u fun e u' => e = .returned (.bool (q j)) ∧ Below u.heap.size u u') :
    Calls Tryz.prog 86 #[.slice a len cap, .func (.func 87) #[] #[]] w fun e w' => e = .returned (.bool (Pure.inOrder q len)) ∧ Below w.heap.size w w' := by
  have HN := Lib.hid h
  have HP := Lib.hid hp
  clear h hp
  go_enter Tryz.func86, Tryz.ntmps86
  go_wp2_with fail
  go_loopw [5] (fun i wr => ∃ k : Nat, (k + 1 ≤ len ∨ k = 0) ∧ i = .int .i64 (k + 1) ∧ (∀ j, j < k → q j = true) ∧ Below w.heap.size w wr) (fun i _ => len - (intOf i).toNat)
  case atStart => exact ⟨0, .inr rfl, rfl, fun j hj => by omega, Below.refl _ _⟩
  case round =>
    obtain ⟨k, hk, rfl, hq, hb⟩ := hrel
    have HQ := Lib.hid hq
    have HB := Lib.hid hb
    clear hq hb
    by_cases hk1 : k + 1 < len
    · obtain ⟨b, off, rfl, _⟩ := HN.out (k * 2) (by omega)
      have n1 : (k : Int) + 1 < len := by omega
      have HNr := Lib.hid (HN.out.below HB.out)
      have ca0 := HNr.out.at (show k * 2 < len * 2 by omega)
      have ca1 := nums_row HNr.out (show k * 2 + 1 < len * 2 by omega)
      have cb0 := HNr.out.at (show (k + 1) * 2 < len * 2 by omega)
      have cb1 := nums_row HNr.out (show (k + 1) * 2 + 1 < len * 2 by omega)
      have hcl := HP.out
      have q2 : IntKind.i64.wrap ((k : Int) + 1 - 1) = k := by rw [IntWalk.i64_in _ (by omega)]; omega
      have q3 : ((k : Int) + 1).toNat = k + 1 := by omega
      have xca0 := among_below ca0
      have xca1 := among_below ca1
      have xcb0 := among_below cb0
      have xcb1 := among_below cb1
      have HCL : Hid (∀ xq : Among (Below wr.heap.size wr), Calls Tryz.prog 87 #[.agg #[.int .i64 (F (k * 2)), .int .i64 (F (k * 2 + 1))], .agg #[.int .i64 (F ((k + 1) * 2)), .int .i64 (F ((k + 1) * 2 + 1))]] xq.val fun e w' => e = .returned (.bool (q k)) ∧ ∃ y : Among (Below wr.heap.size wr), w' = y.val) :=
        Lib.hid (fun xq => calls_class ((HP.out xq.val k hk1 (below_thn HB.out xq.ok)).mono fun e w' h => ⟨h.1, xq.ok.trans (h.2.mono xq.ok.size)⟩))
      clear hcl
      go_upto_region 4 with fail
      have HSt : Hid (Below wr.heap.size wr wr.drew) := Lib.hid (Below.refl _ _).drew
      have hne : Nonempty (Among (Below wr.heap.size wr)) := ⟨⟨_, HSt.out⟩⟩
      refine wp_region_class (Below wr.heap.size wr) (by kernel_rfl) (by kernel_rfl) HSt.out ?_
      repeat (go_big_quiet_step ((go_at_call 87; exact HCL.out _)))
      refine wpQuiet_nil ?_
      intro w8 hx
      have HB8 := Lib.hid (below_thn HB.out (among_out hx))
      clear hx hne xca0 xca1 xcb0 xcb1
      cases hqk : q k with
      | true =>
        go_wp2_with fail
        go_roundw
        case rel => exact ⟨k + 1, .inl (by omega), by go_num, fun j hj => by
          by_cases e : j = k
          · subst e; exact hqk
          · exact HQ.out j (by omega), HB8.out⟩
        case measure => simp [intOf]; omega
      | false =>
        go_wp2_with fail
        go_ret
        exact ⟨ret_bool (Pure.inOrder_no hk1 hqk).symm, HB8.out⟩
    · have n1 : ¬ (k : Int) + 1 < len := by omega
      go_wp2_with fail
      go_ret
      exact ⟨ret_bool (Pure.inOrder_yes fun j hj => HQ.out j (by omega)).symm, HB.out⟩

set_option maxHeartbeats 1000000 in
set_option maxRecDepth 100000 in
theorem inOrderTNote_any (a : Option Addr) (len cap : Nat) (N : Nat → NoteX) (q : Nat → Bool) (hl : len ≤ 60) (w : World) (h : NotesAt w a len N)
    (hp : ∀ u j, j + 1 < len → Below w.heap.size w u → Calls Tryz.prog 91 #[tnoteV (N j), tnoteV (N (j + 1))] u fun e u' => e = .returned (.bool (q j)) ∧ Below u.heap.size u u') :
    Calls Tryz.prog 90 #[.slice a len cap, .func (.func 91) #[] #[]] w fun e w' => e = .returned (.bool (Pure.inOrder q len)) ∧ Below w.heap.size w w' := by
  have HN := Lib.hid h
  have HP := Lib.hid hp
  clear h hp
  go_enter Tryz.func90, Tryz.ntmps90
  go_wp2_with fail
  go_loopw [5] (fun i wr => ∃ k : Nat, (k + 1 ≤ len ∨ k = 0) ∧ i = .int .i64 (k + 1) ∧ (∀ j, j < k → q j = true) ∧ Below w.heap.size w wr) (fun i _ => len - (intOf i).toNat)
  case atStart => exact ⟨0, .inr rfl, rfl, fun j hj => by omega, Below.refl _ _⟩
  case round =>
    obtain ⟨k, hk, rfl, hq, hb⟩ := hrel
    have HQ := Lib.hid hq
    have HB := Lib.hid hb
    clear hq hb
    by_cases hk1 : k + 1 < len
    · obtain ⟨b, off, rfl, _⟩ := HN.out k (by omega)
      have n1 : (k : Int) + 1 < len := by omega
      have HNr := Lib.hid (HN.out.below HB.out)
      have ca0 := (HNr.out.at (show k < len by omega)).c0
      have ca1 := (HNr.out.at (show k < len by omega)).c1
      have ca2 := (HNr.out.at (show k < len by omega)).c2
      have ca3 := (HNr.out.at (show k < len by omega)).c3
      have ca4 := (HNr.out.at (show k < len by omega)).c4
      have ca5 := (HNr.out.at (show k < len by omega)).c5
      have ca6 := (HNr.out.at (show k < len by omega)).c6
      have cb0 := (HNr.out.at hk1).c0
      have cb1 := (HNr.out.at hk1).c1
      have cb2 := (HNr.out.at hk1).c2
      have cb3 := (HNr.out.at hk1).c3
      have cb4 := (HNr.out.at hk1).c4
      have cb5 := (HNr.out.at hk1).c5
      have cb6 := (HNr.out.at hk1).c6
      have hcl := HP.out
      have q2 : IntKind.i64.wrap ((k : Int) + 1 - 1) = k := by rw [IntWalk.i64_in _ (by omega)]; omega
      have q3 : ((k : Int) + 1).toNat = k + 1 := by omega
      have xca0 := among_below ca0
      have xca1 := among_below ca1
      have xca2 := among_below ca2
      have xca3 := among_below ca3
      have xca4 := among_below ca4
      have xca5 := among_below ca5
      have xca6 := among_below ca6
      have xcb0 := among_below cb0
      have xcb1 := among_below cb1
      have xcb2 := among_below cb2
      have xcb3 := among_below cb3
      have xcb4 := among_below cb4
      have xcb5 := among_below cb5
      have xcb6 := among_below cb6
      have HCL : Hid (∀ xq : Among (Below wr.heap.size wr), Calls Tryz.prog 91 #[tnoteV (N k), tnoteV (N (k + 1))] xq.val fun e w' => e = .returned (.bool (q k)) ∧ ∃ y : Among (Below wr.heap.size wr), w' = y.val) :=
        Lib.hid (fun xq => calls_class ((HP.out xq.val k hk1 (below_thn HB.out xq.ok)).mono fun e w' h => ⟨h.1, xq.ok.trans (h.2.mono xq.ok.size)⟩))
      clear hcl
      go_upto_region 4 with fail
      have HSt : Hid (Below wr.heap.size wr wr.drew) := Lib.hid (Below.refl _ _).drew
      have hne : Nonempty (Among (Below wr.heap.size wr)) := ⟨⟨_, HSt.out⟩⟩
      refine wp_region_class (Below wr.heap.size wr) (by kernel_rfl) (by kernel_rfl) HSt.out ?_
      repeat (go_big_quiet_step ((go_at_call 91; exact HCL.out _)))
      refine wpQuiet_nil ?_
      intro w8 hx
      have HB8 := Lib.hid (below_thn HB.out (among_out hx))
      clear hx hne xca0 xca1 xca2 xca3 xca4 xca5 xca6 xcb0 xcb1 xcb2 xcb3 xcb4 xcb5 xcb6
      cases hqk : q k with
      | true =>
        go_wp2_with fail
        go_roundw
        case rel => exact ⟨k + 1, .inl (by omega), by go_num, fun j hj => by
          by_cases e : j = k
          · subst e; exact hqk
          · exact HQ.out j (by omega), HB8.out⟩
        case measure => simp [intOf]; omega
      | false =>
        go_wp2_with fail
        go_ret
        exact ⟨ret_bool (Pure.inOrder_no hk1 hqk).symm, HB8.out⟩
    · have n1 : ¬ (k : Int) + 1 < len := by omega
      go_wp2_with fail
      go_ret
      exact ⟨ret_bool (Pure.inOrder_yes fun j hj => HQ.out j (by omega)).symm, HB.out⟩

theorem ShiftLess_any (p e p' e' : Int) (w : World) : Calls Tryz.prog 87 #[shiftV p e, shiftV p' e'] w fun x w' => x = .returned (.bool (decide (p < p'))) ∧ Below w.heap.size w w' := by
  go_enter Tryz.func87, Tryz.ntmps87
  go_wp2_with fail
  go_ret
  exact ⟨rfl, by repeat (first | exact Below.refl _ _ | refine Below.alloc ?_ (by simp; try omega) _)⟩
theorem NoteLess_any (x y : NoteX) (w : World) : Calls Tryz.prog 91 #[tnoteV x, tnoteV y] w fun e w' => e = .returned (.bool (decide (x.n < y.n))) ∧ Below w.heap.size w w' := by
  go_enter Tryz.func91, Tryz.ntmps91
  go_wp2_with fail
  go_ret
  exact ⟨rfl, by repeat (first | exact Below.refl _ _ | refine Below.alloc ?_ (by simp; try omega) _)⟩

end Go.Proofs.YtijfdfplebbaaaaGreat
