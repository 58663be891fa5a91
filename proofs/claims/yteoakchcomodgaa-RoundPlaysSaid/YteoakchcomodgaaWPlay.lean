/-
  What days lead to, and the contract of play.
-/
import Derived.Test.YteoakchcomodgaaWChoose
import Derived.Test.YteoakchcomodgaaWTail
import Derived.Lib.AppendZeros
namespace Go.Proofs.Yteoakchcomodgaa
open Go.RowKit

namespace Pure
/-- What ricks have waited after so many days. -/
def st (n : Nat) (F : Nat → Int) (L : Nat → Nat) (G : Nat → Nat → Int) (S : Nat → Int) : Nat → Nat → Int
  | 0 => S
  | k + 1 => turnedS n (turnT n F (L k) (G k)) (st n F L G S k)
/-- Which of the first ricks are hot at the end of a day. -/
def hotI (F : Nat → Int) (d : Nat) (S : Nat → Int) : Nat → List (Int × Int)
  | 0 => []
  | i + 1 => hotI F d S i ++ (if S i == F (i * 3 + 1) then [((d : Int) + 1, F (i * 3))] else [])
/-- When which ricks become hot. -/
def hots (n : Nat) (F : Nat → Int) (L : Nat → Nat) (G : Nat → Nat → Int) (S : Nat → Int) : Nat → List (Int × Int)
  | 0 => []
  | k + 1 => hots n F L G S k ++ hotI F k (st n F L G S (k + 1)) n
theorem hotI_len (F : Nat → Int) (d : Nat) (S : Nat → Int) : ∀ i, (hotI F d S i).length ≤ i
  | 0 => by simp [hotI]
  | i + 1 => by
    have := hotI_len F d S i
    unfold hotI
    split <;> simp <;> omega
theorem hots_len (n : Nat) (F : Nat → Int) (L : Nat → Nat) (G : Nat → Nat → Int) (S : Nat → Int) : ∀ k, (hots n F L G S k).length ≤ k * n
  | 0 => by simp [hots]
  | k + 1 => by
    have h1 := hots_len n F L G S k
    have h2 := hotI_len F k (st n F L G S (k + 1)) n
    unfold hots
    rw [List.length_append, Nat.add_mul]
    omega
theorem st_span (n : Nat) (F : Nat → Int) (L : Nat → Nat) (G : Nat → Nat → Int) (S : Nat → Int) (h : ∀ q, q < n → 0 ≤ S q ∧ S q ≤ 900000) : ∀ k q, q < n → 0 ≤ st n F L G S k q ∧ st n F L G S k q ≤ 900000 + k
  | 0, q, hq => by have := h q hq; unfold st; omega
  | k + 1, q, hq => by
    have := st_span n F L G S h k q hq
    unfold st turnedS
    rw [if_pos hq]
    split <;> omega
end Pure
/-- The cells of some pairs. -/
def cellsP : List (Int × Int) → List Value
  | [] => []
  | p :: r => .int .i64 p.1 :: .int .i64 p.2 :: cellsP r
theorem cellsP_append : ∀ l m, cellsP (l ++ m) = cellsP l ++ cellsP m
  | [], _ => rfl
  | p :: r, m => by simp [cellsP, cellsP_append r m]
theorem cellsP_fst : ∀ (l : List (Int × Int)) (j : Nat) (h : j < l.length), (cellsP l)[j * 2]? = some (.int .i64 l[j].1) ∧ (cellsP l)[j * 2 + 1]? = some (.int .i64 l[j].2)
  | [], _, h => by simp at h
  | p :: r, 0, _ => by simp [cellsP]
  | p :: r, j + 1, h => by
    have := cellsP_fst r j (by simpa using h)
    rw [show (j + 1) * 2 = j * 2 + 1 + 1 by omega]
    simpa [cellsP] using this
/-- A slice of the call's own memory with these heats. -/
def OwnHeats (w : World) (base : Nat) (a : Option Addr) (cap : Nat) (l : List (Int × Int)) : Prop := w.ownsRow base 65 2 (.slice a l.length cap) l.length (cellsP l)
/-- A slice that reads as these heats. -/
def HeatsAt (w : World) (a : Option Addr) (l : List (Int × Int)) : Prop := ∀ j (h : j < l.length), ∃ b off, a = some ⟨b, off, none⟩ ∧ w.cell? ⟨b, off + j * 2, none⟩ = some (.int .i64 l[j].1) ∧ w.cell? ⟨b, off + j * 2 + 1, none⟩ = some (.int .i64 l[j].2)
theorem HeatsAt.below {w w' : World} {a : Option Addr} {l : List (Int × Int)} (h : HeatsAt w a l) (hb : Below w.heap.size w w') : HeatsAt w' a l := fun j hj => by
  obtain ⟨b, off, h0, h1, h2⟩ := h j hj
  exact ⟨b, off, h0, below_cell hb h1, below_cell hb h2⟩
theorem cells_at {w : World} {base : Nat} {t : TypeId} {k : Nat} {a : Option Addr} {len cap : Nat} {cs : List Value} (h : w.ownsRow base t k (.slice a len cap) len cs) (hl : cs.length = len * k) {j : Nat} {v : Value} (hj : cs[j]? = some v) : ∃ g, a = some ⟨g, 0, none⟩ ∧ w.cell? ⟨g, j, none⟩ = some v := by
  have hlt := (List.getElem?_eq_some_iff.1 hj).1
  obtain ⟨_, ⟨_, hn⟩ | ⟨g, cap', cur, he, _, hg, _, _, _, ht⟩⟩ := h
  · subst hn
    omega
  · simp only [Value.slice.injEq] at he
    obtain ⟨rfl, _, rfl⟩ := he
    refine ⟨g, rfl, ?_⟩
    rw [← ht, List.getElem?_take_of_lt (by omega)] at hj
    unfold World.cell?
    simp only [hg]
    simpa using hj
theorem cellsP_len : ∀ l, (cellsP l).length = l.length * 2
  | [] => rfl
  | p :: r => by simp [cellsP, cellsP_len r]; omega
theorem OwnHeats.at {w : World} {base : Nat} {a : Option Addr} {cap : Nat} {l : List (Int × Int)} (h : OwnHeats w base a cap l) : HeatsAt w a l := fun j hj => by
  obtain ⟨h1, h2⟩ := cellsP_fst l j hj
  obtain ⟨g, rfl, h3⟩ := cells_at h (cellsP_len l) h1
  obtain ⟨g', e, h4⟩ := cells_at h (cellsP_len l) h2
  cases e
  exact ⟨g, 0, rfl, by simpa using h3, by simpa using h4⟩
theorem OwnHeats.below {w w' : World} {base : Nat} {a : Option Addr} {cap : Nat} {l : List (Int × Int)} (h : OwnHeats w base a cap l) (hb : Below w.heap.size w w') : OwnHeats w' base a cap l := cells_below h hb
theorem OwnHeats.set {w : World} {base : Nat} {a : Option Addr} {cap : Nat} {l : List (Int × Int)} (h : OwnHeats w base a cap l) {p : Addr} (hp : p.block < base) (u : Value) : OwnHeats (w.setCell p u) base a cap l := cells_kept h fun x hx => setCell_other (by
  obtain ⟨e, _⟩ | ⟨g, e, h8, _⟩ := cells_block h
  · rw [e] at hx; cases hx
  · rw [e] at hx
    cases hx
    dsimp only
    omega)
theorem OwnHeats.base {w : World} {base base' : Nat} {a : Option Addr} {cap : Nat} {l : List (Int × Int)} (h : OwnHeats w base a cap l) (hb : base' ≤ base) : OwnHeats w base' a cap l := by
  obtain ⟨h0, h1 | ⟨g, cap', cur, he, hbase, h2⟩⟩ := h
  · exact ⟨h0, .inl h1⟩
  · exact ⟨h0, .inr ⟨g, cap', cur, he, by omega, h2⟩⟩
theorem infoHeat : ∃ i, Try.prog.info? 65 = some i ∧ i.zero = some (.agg #[.int .i64 0, .int .i64 0]) ∧ i.size = 2 ∧ i.bytes = 16 := by
  have h : (Try.prog.info? 65).map (fun i => (i.zero, i.size, i.bytes)) = some (some (.agg #[.int .i64 0, .int .i64 0]), 2, 16) := by kernel_rfl
  obtain ⟨i, hi, h2⟩ := Option.map_eq_some_iff.1 h
  simp only [Prod.mk.injEq] at h2
  exact ⟨i, hi, h2.1, h2.2.1, h2.2.2⟩
abbrev heatB (d r : Int) : Obj := .cells #[.int .i64 d, .int .i64 r] 65
/-- One heat more. -/
theorem app_heat (w : World) (base : Nat) {a : Option Addr} {cap : Nat} {l : List (Int × Int)} (h : OwnHeats w base a cap l) (v : Nat) (d r : Int) (hv : w.heap[v]? = some (heatB d r)) (hl : l.length ≤ 400) (hbase : base ≤ w.heap.size) (ty : TypeId) :
    ∃ a' cap' w', (Builtin.append_ #[30, 30] ty #[.slice a l.length cap, .slice (some ⟨v, 0, none⟩) 1 1]).run Try.prog w = .ok (.slice a' (l.length + 1) cap') w' ∧ OwnHeats w' base a' cap' (l ++ [(d, r)]) ∧ Alone a w w' ∧ Below base w w' := by
  obtain ⟨i0, hi0, hz0, hz1, hz2⟩ := infoHeat
  obtain ⟨a4, c4, Z, hr, ho4, hal, hbe, _⟩ := app_cells w base 65 30 ty 2 16 i0 _ Try.underlying30 hi0 hz0 hz1 hz2 rfl (by decide) (by decide) h ⟨v, 0, none⟩ 1 1 [.int .i64 d, .int .i64 r] rfl (fun j u hj => by
    have h4 : j = 0 ∨ j = 1 := by
      have := (List.getElem?_eq_some_iff.1 hj).1
      simp at this
      omega
    rw [Go.WideShapes.add_plain]
    rcases h4 with rfl | rfl <;> (simp at hj; subst hj; exact heap_cell hv rfl)) (by simp [Value.oneCell']) hl (by omega) hbase
  refine ⟨a4, c4, Z, hr, ?_, hal, hbe⟩
  unfold OwnHeats
  rw [cellsP_append, List.length_append]
  exact ho4

/-- What play gives. -/
def PlayOut (n : Nat) (F : Nat → Int) (L : Nat → Nat) (G : Nat → Nat → Int) (S : Nat → Int) (m : Nat) (w : World) (e : Ending) (w' : World) : Prop :=
  ∃ a cap, e = .returned (.tuple #[waitV (Pure.st n F L G S m), .slice a (Pure.hots n F L G S m).length cap]) ∧ OwnHeats w' w.heap.size a cap (Pure.hots n F L G S m) ∧ Below w.heap.size w w'

set_option maxHeartbeats 8000000 in
set_option maxRecDepth 100000 in
theorem play_any (B : Nat) (h : Int) (a : Option Addr) (n c : Nat) (l : Option Addr) (ln lc : Nat) (F : Nat → Int) (S : Nat → Int) (s : Option Addr) (m mc : Nat) (L : Nat → Nat) (G : Nat → Nat → Int) (hn : n ≤ 4) (hm : m ≤ 60) (hL : ∀ j, j < m → L j ≤ 1000000) (hS : ∀ q, q < n → 0 ≤ S q ∧ S q ≤ 900000) (w : World) (hX : w.heap[B]? = some (dayB h a n c l ln lc)) (hF : NumsAt w a (n * 3) F) (hG : DaysAt w s m L G) :
    Calls Try.prog 27 #[.pointer (some ⟨B, 0, none⟩), waitV S, .slice s m mc] w (PlayOut n F L G S m w) := by
  obtain ⟨W, hW⟩ : ∃ W, (w.alloc (waitB S)).alloc (waitB (fun _ => 0)) = W := ⟨_, rfl⟩
  have HB : Hid (Below w.heap.size w W) := Lib.hid (by rw [← hW]; exact (below_new _ _).alloc (by simp) _)
  have HS : Hid (W.heap[w.heap.size]? = some (waitB S)) := Lib.hid (by rw [← hW]; exact heap_up (heap_top _ _ rfl) _)
  have HR : Hid (W.heap[w.heap.size + 1]? = some (waitB (fun _ => 0))) := Lib.hid (by rw [← hW]; exact heap_top _ _ (by simp))
  have HSZ : Hid (W.heap.size = w.heap.size + 2) := Lib.hid (by rw [← hW]; simp)
  have HX := Lib.hid hX
  have HF := Lib.hid hF
  have HG := Lib.hid hG
  have HL := Lib.hid hL
  have HSS := Lib.hid hS
  clear hX hF hG hL hS
  go_enter Try.func27, Try.ntmps27
  go_upto_region 1 with fail
  try rw [hW]
  clear hW
  go_wp2_with fail
  go_loopw [8, 9, 10, 11, 12, 15] (fun hv _ _ _ _ ix wr => ∃ k : Nat, k ≤ m ∧ ix = .int .i64 k ∧ (∃ ha hc, hv = .slice ha (Pure.hots n F L G S k).length hc ∧ OwnHeats wr W.heap.size ha hc (Pure.hots n F L G S k)) ∧ wr.heap[w.heap.size]? = some (waitB (Pure.st n F L G S k)) ∧ wr.heap[w.heap.size + 1]? = some (waitB (fun _ => 0)) ∧ Below w.heap.size w wr ∧ W.heap.size ≤ wr.heap.size) (fun _ _ _ _ _ ix _ => m - (intOf ix).toNat)
  case atStart => exact ⟨0, Nat.zero_le _, rfl, ⟨none, 0, rfl, cells_nil _ _ _ _⟩, HS.out, HR.out, HB.out, Nat.le_refl _⟩
  case round =>
    obtain ⟨k, hk, rfl, ⟨ha, hc, rfl, ho⟩, hs, hr, hb, hsz⟩ := hrel
    have HO := Lib.hid ho
    have HSr := Lib.hid hs
    have HRr := Lib.hid hr
    have HBr := Lib.hid hb
    have HZr := Lib.hid hsz
    clear ho hs hr hb hsz
    by_cases hk1 : k < m
    · have HK := Lib.hid hk1
      obtain ⟨gs, os, _, _, rfl, _⟩ := HG.out k hk1
      obtain ⟨ds, dc, d0, hds⟩ := (HG.out.below HBr.out).at hk1
      have HDS := Lib.hid hds
      have n1 : (k : Int) < m := by omega
      clear hds hk1
      go_upto_region 5 with fail
      clear d0
      have s0 := heap_cell HSr.out (j := 0) rfl
      have s1 := heap_cell HSr.out (j := 1) rfl
      have s2 := heap_cell HSr.out (j := 2) rfl
      have s3 := heap_cell HSr.out (j := 3) rfl
      have xs0 := among_below s0
      have xs1 := among_below s1
      have xs2 := among_below s2
      have xs3 := among_below s3
      have HC1 : Hid (∀ xq : Among (Below wr.heap.size wr), Calls Try.prog 40 #[.pointer (some ⟨B, 0, none⟩), .slice ds (L k) dc] xq.val fun e w' => e = .returned (turnV (Pure.turnT n F (L k) (G k))) ∧ ∃ y : Among (Below wr.heap.size wr), w' = y.val) :=
        Lib.hid (fun xq => calls_class ((turning_any B h a n c l ln lc F ds (L k) dc (G k) hn (HL.out k HK.out) xq.val (heap_lft HX.out (below_thn HBr.out xq.ok)) (HF.out.below (below_thn HBr.out xq.ok)) (HDS.out.below xq.ok)).mono fun e w' h => ⟨h.1, xq.ok.trans (h.2.mono xq.ok.size)⟩))
      have HC2 : Hid (∀ xq : Among (Below wr.heap.size wr), Calls Try.prog 39 #[.pointer (some ⟨B, 0, none⟩), waitV (Pure.st n F L G S k), turnV (Pure.turnT n F (L k) (G k))] xq.val fun e w' => e = .returned (waitV (Pure.st n F L G S (k + 1))) ∧ ∃ y : Among (Below wr.heap.size wr), w' = y.val) :=
        Lib.hid (fun xq => calls_class ((turned_any B h a n c l ln lc (Pure.st n F L G S k) (Pure.turnT n F (L k) (G k)) hn (fun q hq => by have := Pure.st_span n F L G S HSS.out k q hq; have := HK.out; omega) xq.val (heap_lft HX.out (below_thn HBr.out xq.ok))).mono fun e w' h => ⟨h.1, xq.ok.trans (h.2.mono xq.ok.size)⟩))
      have HSt : Hid (Below wr.heap.size wr wr.drew) := Lib.hid (Below.refl _ _).drew
      have hne : Nonempty (Among (Below wr.heap.size wr)) := ⟨⟨_, HSt.out⟩⟩
      refine wp_region_tail 6 (Below wr.heap.size wr) (by kernel_rfl) (by kernel_rfl) HSt.out ?_
      simp only [List.take_succ_cons, List.take_zero, List.drop_succ_cons, List.drop_zero]
      repeat (go_big_quiet_step ((first | (go_at_call 40; exact HC1.out _) | (go_at_call 39; exact HC2.out _))))
      refine wpQuiet_nil ?_
      intro w3 hx
      have hb3 := among_out hx
      have HS3 := Lib.hid (heap_lft HSr.out hb3)
      have HR3 := Lib.hid (heap_lft HRr.out hb3)
      have HB3 := Lib.hid (below_thn HBr.out hb3)
      have HO3 := Lib.hid (HO.out.below hb3)
      have HZ3 : Hid (W.heap.size ≤ w3.heap.size) := Lib.hid (by have h1 := HZr.out; have h2 := hb3.size; omega)
      clear hx hne hb3 xs0 xs1 xs2 xs3 s0 s1 s2 s3
      have s0 := heap_cell HS3.out (j := 0) rfl
      have s1 := heap_cell HS3.out (j := 1) rfl
      have s2 := heap_cell HS3.out (j := 2) rfl
      have s3 := heap_cell HS3.out (j := 3) rfl
      have fs0 := heap_frozen HS3.out 0
      have fs1 := heap_frozen HS3.out 1
      have fs2 := heap_frozen HS3.out 2
      have fs3 := heap_frozen HS3.out 3
      go_upto_region 6 with fail
      obtain ⟨Y, hY⟩ : ∃ Y, (((w3.setCell ⟨w.heap.size, 0, none⟩ (.int .i64 (Pure.st n F L G S (k + 1) 0))).setCell ⟨w.heap.size, 1, none⟩ (.int .i64 (Pure.st n F L G S (k + 1) 1))).setCell ⟨w.heap.size, 2, none⟩ (.int .i64 (Pure.st n F L G S (k + 1) 2))).setCell ⟨w.heap.size, 3, none⟩ (.int .i64 (Pure.st n F L G S (k + 1) 3)) = Y := ⟨_, rfl⟩
      have hszw := HSZ.out
      have HSY : Hid (Y.heap[w.heap.size]? = some (waitB (Pure.st n F L G S (k + 1)))) := Lib.hid (by rw [← hY]; exact heap_set (heap_set (heap_set (heap_set HS3.out 0 _) 1 _) 2 _) 3 _)
      have HRY : Hid (Y.heap[w.heap.size + 1]? = some (waitB (fun _ => 0))) := Lib.hid (by rw [← hY]; exact (setCell_other (by simp)).trans ((setCell_other (by simp)).trans ((setCell_other (by simp)).trans ((setCell_other (by simp)).trans HR3.out))))
      have HBY : Hid (Below w.heap.size w Y) := Lib.hid (by rw [← hY]; exact (((HB3.out.setCell (Nat.le_refl _) _).setCell (Nat.le_refl _) _).setCell (Nat.le_refl _) _).setCell (Nat.le_refl _) _)
      have HOY : Hid (OwnHeats Y W.heap.size ha hc (Pure.hots n F L G S k)) := Lib.hid (by rw [← hY]; exact (((HO3.out.set (by dsimp only; omega) _).set (by dsimp only; omega) _).set (by dsimp only; omega) _).set (by dsimp only; omega) _)
      have HZY : Hid (W.heap.size ≤ Y.heap.size) := Lib.hid (by rw [← hY]; simpa using HZ3.out)
      try rw [hY]
      clear hY hszw s0 s1 s2 s3 fs0 fs1 fs2 fs3 HS3 HR3 HB3 HO3 HZ3
      have x1 := heap_cell (heap_lft HX.out HBY.out) (j := 1) rfl
      go_wp2_with fail
      clear x1
      obtain ⟨wo, rfl⟩ : ∃ x, x = wr := ⟨_, rfl⟩
      go_loopw [8, 11, 12, 32] (fun hv _ _ ix wr => ∃ i : Nat, i ≤ n ∧ ix = .int .i64 i ∧ (∃ ha hc, hv = .slice ha (Pure.hots n F L G S k ++ Pure.hotI F k (Pure.st n F L G S (k + 1)) i).length hc ∧ OwnHeats wr W.heap.size ha hc (Pure.hots n F L G S k ++ Pure.hotI F k (Pure.st n F L G S (k + 1)) i)) ∧ wr.heap[w.heap.size]? = some (waitB (Pure.st n F L G S (k + 1))) ∧ wr.heap[w.heap.size + 1]? = some (waitB (fun _ => 0)) ∧ Below w.heap.size w wr ∧ W.heap.size ≤ wr.heap.size) (fun _ _ _ ix _ => n - (intOf ix).toNat)
      case atStart => exact ⟨0, Nat.zero_le _, rfl, ⟨ha, hc, by simp [Pure.hotI], by simpa [Pure.hotI] using HOY.out⟩, HSY.out, HRY.out, HBY.out, HZY.out⟩
      case round =>
        clear HO HSr HRr HBr HZr HDS HC1 HC2 HSt HOY HSY HRY HBY HZY
        obtain ⟨i, hi, rfl, ⟨ha, hc, rfl, ho⟩, hs, hr, hb, hsz⟩ := hrel
        have HO := Lib.hid ho
        have HSr := Lib.hid hs
        have HRr := Lib.hid hr
        have HBr := Lib.hid hb
        have HZr := Lib.hid hsz
        clear ho hs hr hb hsz
        by_cases hi1 : i < n
        · have HI := Lib.hid hi1
          obtain ⟨g, off, rfl, _⟩ := HF.out (i * 3) (by omega)
          have hfr := HF.out.below HBr.out
          have c0 := hfr.at (show i * 3 < n * 3 by omega)
          have c1 := nums_row hfr (show i * 3 + 1 < n * 3 by omega)
          have c2 := nums_row hfr (show i * 3 + 2 < n * 3 by omega)
          have n2 : (i : Int) < n := by omega
          clear hfr
          go_upto_region 9 with fail
          obtain ⟨Y2, hY⟩ : ∃ Y2, wr.alloc (rickB (F (i * 3)) (F (i * 3 + 1)) (F (i * 3 + 2))) = Y2 := ⟨_, rfl⟩
          have hby : Below wr.heap.size wr Y2 := by rw [← hY]; exact below_new _ _
          have HYX : Hid (Y2.heap[wr.heap.size]? = some (rickB (F (i * 3)) (F (i * 3 + 1)) (F (i * 3 + 2)))) := Lib.hid (by rw [← hY]; exact heap_top _ _ rfl)
          have HS2 := Lib.hid (heap_lft HSr.out hby)
          have HR2 := Lib.hid (heap_lft HRr.out hby)
          have HB2 := Lib.hid (below_thn HBr.out hby)
          have HO2 := Lib.hid (HO.out.below hby)
          try rw [hY]
          clear hY c0 c1 c2 hby
          have s0 := heap_cell HS2.out (j := 0) rfl
          have s1 := heap_cell HS2.out (j := 1) rfl
          have s2 := heap_cell HS2.out (j := 2) rfl
          have s3 := heap_cell HS2.out (j := 3) rfl
          go_wp2_with fail
          refine (heats_any B h (some ⟨g, off, none⟩) n c l ln lc F i (Pure.st n F L G S (k + 1)) HI.out hn _ (heap_lft HX.out HB2.out) (HF.out.below HB2.out)).mono ?_
          rintro e Z ⟨rfl, hb⟩
          have HSZ2 := Lib.hid (heap_lft HS2.out hb)
          have HRZ := Lib.hid (heap_lft HR2.out hb)
          have HBZ := Lib.hid (below_thn HB2.out hb)
          have HOZ := Lib.hid (HO2.out.below hb)
          have HYZ := Lib.hid (heap_lft HYX.out hb)
          have HZZ : Hid (W.heap.size ≤ Z.heap.size) := Lib.hid (by have h1 := HZr.out; have h2 := (below_thn HBr.out (Below.refl _ _)).size; have h3 := HBZ.out.size; have h4 := hb.size; have h5 := (Array.getElem?_eq_some_iff.1 HYX.out).1; omega)
          clear hb s0 s1 s2 s3
          obtain ⟨b, hbq⟩ : ∃ b, (Pure.st n F L G S (k + 1) i == F (i * 3 + 1)) = b := ⟨_, rfl⟩
          rw [hbq]
          have HBQ := Lib.hid hbq
          clear hbq
          cases b
          · go_wp2_with fail
            go_roundw
            case rel =>
              have e : Pure.hotI F k (Pure.st n F L G S (k + 1)) (i + 1) = Pure.hotI F k (Pure.st n F L G S (k + 1)) i := by
                rw [Pure.hotI, HBQ.out]
                simp
              exact ⟨i + 1, HI.out, by go_num, ⟨ha, hc, by rw [e]; simp, by rw [e]; exact HOZ.out⟩, HSZ2.out, HRZ.out, HBZ.out, HZZ.out⟩
            case measure => have := HI.out; simp [intOf]; omega
          · have y0 := heap_cell HYZ.out (j := 0) rfl
            have hw1 : IntKind.i64.wrap ((k : Int) + 1) = (k : Int) + 1 := IntWalk.i64_in _ (by omega)
            have hll : (Pure.hots n F L G S k ++ Pure.hotI F k (Pure.st n F L G S (k + 1)) i).length ≤ 400 := by
              have h1 := Pure.hots_len n F L G S k
              have h2 := Pure.hotI_len F k (Pure.st n F L G S (k + 1)) i
              have h3 : k * n ≤ 60 * 4 := Nat.mul_le_mul (by omega) hn
              rw [List.length_append]
              omega
            obtain ⟨lst, hlst⟩ : ∃ x, Pure.hots n F L G S k ++ Pure.hotI F k (Pure.st n F L G S (k + 1)) i = x := ⟨_, rfl⟩
            have hOZ := HOZ.out
            rw [hlst] at hll hOZ ⊢
            obtain ⟨V, hV⟩ : ∃ V, Z.alloc (heatB ((k : Int) + 1) (F (i * 3))) = V := ⟨_, rfl⟩
            have hbv : Below Z.heap.size Z V := by rw [← hV]; exact below_new _ _
            have hvx : V.heap[Z.heap.size]? = some (heatB ((k : Int) + 1) (F (i * 3))) := by rw [← hV]; exact heap_top _ _ rfl
            obtain ⟨a4, c4, X, hr4, ho4, hal, hbe⟩ := app_heat V W.heap.size (hOZ.below hbv) Z.heap.size _ _ hvx hll (by have h1 := HZZ.out; have h2 := hbv.size; omega) 30
            have hne : ∀ q, q < W.heap.size → ∀ x, ha = some x → q ≠ x.block := fun q hq x hx => by
              obtain ⟨e, _⟩ | ⟨g, e, h8, _⟩ := cells_block hOZ
              · rw [e] at hx; cases hx
              · rw [e] at hx
                cases hx
                dsimp only
                omega
            have hszw := HSZ.out
            have HSX : Hid (X.heap[w.heap.size]? = some (waitB (Pure.st n F L G S (k + 1)))) := Lib.hid ((hal _ (by have h1 := HZZ.out; have h2 := hbv.size; omega) (hne _ (by omega))).trans (heap_lft HSZ2.out hbv))
            have HRX : Hid (X.heap[w.heap.size + 1]? = some (waitB (fun _ => 0))) := Lib.hid ((hal _ (by have h1 := HZZ.out; have h2 := hbv.size; omega) (hne _ (by omega))).trans (heap_lft HRZ.out hbv))
            have HBX : Hid (Below w.heap.size w X) := Lib.hid ((below_thn HBZ.out hbv).trans (hbe.mono (by omega)))
            have HZX : Hid (W.heap.size ≤ X.heap.size) := Lib.hid (by have h1 := HZZ.out; have h2 := hbv.size; have h3 := hbe.size; omega)
            have HOX := Lib.hid ho4
            rw [← hV] at hr4
            have HAR := Lib.hid hr4
            have HLST := Lib.hid hlst
            clear hOZ hbv hvx hr4 ho4 hal hbe hne hszw hV hll hlst
            go_wp2_with (first | (at_builtin; refine Lib.wpList_append_run _ rfl _ _ _ _ rfl _ _ rfl rfl _ _ HAR.out ?_) | go_in)
            go_roundw
            case rel =>
              have e : Pure.hots n F L G S k ++ Pure.hotI F k (Pure.st n F L G S (k + 1)) (i + 1) = lst ++ [((k : Int) + 1, F (i * 3))] := by
                rw [Pure.hotI, HBQ.out, ← HLST.out]
                simp
              exact ⟨i + 1, HI.out, by go_num, ⟨a4, c4, by rw [e]; simp, by rw [e]; exact HOX.out⟩, HSX.out, HRX.out, HBX.out, HZX.out⟩
            case measure => have := HI.out; simp [intOf]; omega
        · obtain rfl : i = n := by omega
          go_wp2_with fail
          go_roundw
          case rel => exact ⟨k + 1, HK.out, by go_num, ⟨ha, hc, rfl, HO.out⟩, HSr.out, HRr.out, HBr.out, HZr.out⟩
          case measure => have := HK.out; simp [intOf]; omega
    · obtain rfl : k = m := by omega
      have s0 := heap_cell HSr.out (j := 0) rfl
      have s1 := heap_cell HSr.out (j := 1) rfl
      have s2 := heap_cell HSr.out (j := 2) rfl
      have s3 := heap_cell HSr.out (j := 3) rfl
      have r0 := heap_cell HRr.out (j := 0) rfl
      have r1 := heap_cell HRr.out (j := 1) rfl
      have r2 := heap_cell HRr.out (j := 2) rfl
      have r3 := heap_cell HRr.out (j := 3) rfl
      have fr0 := heap_frozen HRr.out 0
      have fr1 := heap_frozen HRr.out 1
      have fr2 := heap_frozen HRr.out 2
      have fr3 := heap_frozen HRr.out 3
      go_wp2_with fail
      have hszw := HSZ.out
      refine bodyPost_ret (v := .tuple #[waitV (Pure.st n F L G S k), .slice ha (Pure.hots n F L G S k).length hc]) (by simp [results, Try.results27, go_sem, r0, r1, r2, r3]; try rfl) rfl ⟨ha, hc, rfl, ?_, ?_⟩
      · refine OwnHeats.base (base := W.heap.size) ?_ (by omega)
        repeat (first | with_reducible exact HO.out | with_reducible refine OwnHeats.set ?_ (by first | (simp; done) | (dsimp only; omega)) _)
      · repeat (first | with_reducible exact HBr.out | with_reducible refine Below.setCell ?_ (by first | (simp; done) | (dsimp only; omega)) _)

end Go.Proofs.Yteoakchcomodgaa
