/-
  Draws as the keys of a map: what they read as, and which draws such a map holds.
-/
import Derived.Test.YtjegkkpdemoldaaGreatDoorUpTo
import Derived.Maps.RangeWalk
namespace Go.Proofs.YtjegkkpdemoldaaGreatDoor
open Go.RowKit Go.Maps Go.WideMaps
open Go.WideElems (Fit)

theorem rowDraw : (37 : TypeId) < Tryz.prog.types.size := of_decide_eq_true (by kernel_rfl)
theorem cellsDraw : Tryz.prog.cellsOf 37 = 2 := by kernel_rfl
theorem typeDraw : Tryz.prog.keyType 37 = true := by kernel_rfl
theorem wideDraw : (match Tryz.prog.underlying 37 with | some (.array _ _) | some (.struct _) => true | _ => false) = true := by rw [Tryz.underlying37]
set_option maxRecDepth 100000 in
theorem keyedDraw : Keyed Tryz.prog 37 := Keyed.of_law (deep_law_laid laidOut (m := 2) (by decide) rowDraw (by kernel_rfl) wideDraw)
theorem zeroBool (w : World) : (zeroValue 4).run Tryz.prog w = .ok (.bool false) w := by kernel_rfl

abbrev drawV (o f : Int) : Value := .agg #[.int .i64 o, .int .i64 f]

theorem keyDraw {o f : Int} (ho : (Lit.int .i64 o).wf = true) (hf : (Lit.int .i64 f).wf = true) : keyOf Tryz.prog 37 (drawV o f) = some (.string (keyBytes [.int .i64 o, .int .i64 f])) := by
  obtain ⟨m, hm⟩ := typesSucc
  have h1 : Tryz.prog.cellsOf 3 = 1 := by kernel_rfl
  unfold keyOf
  simp only [Tryz.underlying37]
  rw [if_pos (by simp [typeDraw, Value.formed, Tryz.underlying37, cellsDraw]), hm]
  unfold Program.keyLits
  simp only [Tryz.underlying37, Value.cells]
  rw [if_pos (by constructor <;> simp [cellsDraw])]
  simp [Program.keyLits, Tryz.underlying3, ho, hf, h1]

/-- The key of the draw of o bags of which k are dirty. -/
def drawKey (o : Int) (k : Nat) : Lit := .string (keyBytes [.int .i64 o, .int .i64 k])
theorem drawKey_of {o : Int} {k : Nat} (h0 : 0 ≤ o) (h1 : o ≤ 36) (hk : k ≤ 36) : keyOf Tryz.prog 37 (drawV o k) = some (drawKey o k) := keyDraw (wf64 (by omega) (by omega)) (wf64 (by omega) (by omega))
theorem drawV_inj {a b c d : Int} (h : drawV a b = drawV c d) : a = c ∧ b = d := by
  unfold drawV at h
  simpa using h
theorem drawKey_inj {o : Int} {j k : Nat} (h0 : 0 ≤ o) (h1 : o ≤ 36) (hj : j ≤ 36) (hk : k ≤ 36) (h : drawKey o j = drawKey o k) : j = k := by
  have e := keyedDraw.inj (drawKey_of h0 h1 hj) (h ▸ drawKey_of h0 h1 hk)
  have := (drawV_inj e).2
  omega
theorem drawKey_key (o : Int) (k : Nat) : WideAt.IsKeyLit (drawKey o k) := trivial
theorem drawKey_same (o : Int) (k : Nat) : (drawKey o k).sameKey (drawKey o k) = true := by simp [drawKey, Lit.sameKey]
theorem drawKey_other {o : Int} {j k : Nat} (h0 : 0 ≤ o) (h1 : o ≤ 36) (hj : j ≤ 36) (hk : k ≤ 36) (h : j ≠ k) : drawKey o j ≠ drawKey o k := fun e => h (drawKey_inj h0 h1 hj hk e)

/-- A map as read holds just the draws of o bags with k dirty ones for which S k. -/
structure Holds (o : Int) (D : DataW Unit) (S : Nat → Bool) : Prop where
  isMap : IsMap D
  has : ∀ k : Nat, (k : Int) ≤ o → Maps.has D (drawKey o k) = S k
  val : ∀ k : Nat, (k : Int) ≤ o → Maps.has D (drawKey o k) = true → ∀ z, D.atKey (drawKey o k) z = .lit (.bool true)
  only : ∀ l, Maps.has D l = true → ∃ k : Nat, (k : Int) ≤ o ∧ l = drawKey o k

theorem holds_none (o : Int) : Holds o (.map [] : DataW Unit) (fun _ => false) := ⟨isMap_empty, fun _ _ => rfl, fun _ _ h _ => (by cases h), fun l h => (by cases h)⟩

theorem Holds.put {o : Int} {D : DataW Unit} {S : Nat → Bool} (h : Holds o D S) (h0 : 0 ≤ o) (h1 : o ≤ 36) {n : Nat} (hn : (n : Int) ≤ o) : Holds o (D.put (drawKey o n) (.lit (.bool true))) (fun k => S k || k == n) where
  isMap := h.isMap.put _ _
  has k hk := by
    by_cases e : k = n
    · subst e
      rw [has_put_same h.isMap (drawKey_key _ _)]
      simp
    · rw [has_put_other (drawKey_other h0 h1 (by omega) (by omega) e), h.has k hk]
      simp [e]
  val k hk hh z := by
    by_cases e : k = n
    · subst e
      exact atKey_put_same h.isMap (drawKey_key _ _) _ _
    · have hne := drawKey_other h0 h1 (by omega) (by omega) e
      rw [has_put_other hne] at hh
      rw [atKey_put_other hne]
      exact h.val k hk hh z
  only l hl := by
    by_cases e : l = drawKey o n
    · exact ⟨n, hn, e⟩
    · rw [has_put_other e] at hl
      exact h.only l hl

theorem Holds.del {o : Int} {D : DataW Unit} {S : Nat → Bool} (h : Holds o D S) (h0 : 0 ≤ o) (h1 : o ≤ 36) {n : Nat} (hn : (n : Int) ≤ o) : Holds o (D.del (drawKey o n)) (fun k => S k && !(k == n)) where
  isMap := h.isMap.del _
  has k hk := by
    by_cases e : k = n
    · subst e
      rw [has_del_same]
      simp
    · rw [has_del_other (drawKey_other h0 h1 (by omega) (by omega) e), h.has k hk]
      simp [e]
  val k hk hh z := by
    by_cases e : k = n
    · subst e
      rw [has_del_same] at hh
      cases hh
    · have hne := drawKey_other h0 h1 (by omega) (by omega) e
      rw [has_del_other hne] at hh
      rw [atKey_del_other hne]
      exact h.val k hk hh z
  only l hl := by
    by_cases e : l = drawKey o n
    · exact ⟨n, hn, e⟩
    · rw [has_del_other e] at hl
      exact h.only l hl

/-- A look-up of a draw in such a map. -/
theorem Holds.look {o : Int} {D : DataW Unit} {S : Nat → Bool} (h : Holds o D S) (h0 : 0 ≤ o) (h1 : o ≤ 36) {w : World} {b n : Nat} (hown : w.ownsMap Tryz.prog 37 (plainElem (H := Unit) Tryz.prog 4) b n D) {k : Nat} (hk : (k : Int) ≤ o) :
    (Instr.lookup 131 (.map (some b)) (drawV o k) false).run Tryz.prog w = .ok (.bool (S k)) w := by
  obtain ⟨v, ps, hrun, hv⟩ := hown.lookup keyedDraw Tryz.underlying131 (zeroBool w) (plainElem_bool (H := Unit) Tryz.underlying4 false) (drawKey_of h0 h1 (k := k) (by omega))
  have hval : (plainElem (H := Unit) Tryz.prog 4) v = some (.lit (.bool (S k)), ps) := by
    rw [hv]
    cases hs : S k
    · rw [atKey_of_not_has (by rw [h.has k hk]; exact hs)]
    · rw [h.val k hk (by rw [h.has k hk]; exact hs)]
  have : v = .bool (S k) := by
    unfold plainElem at hval
    cases v <;> simp [Tryz.underlying4] at hval
    rw [hval.1]
  rw [hrun, this]

/-- The step of a range over such a map: nothing is left, or some draw comes that was left. -/
theorem wpList_next_draw (w : World) {ops : Array Oper} {rest : List Oper} {o : Oper} {a : Act} {Q : Exit → Act → World → Prop} (hg : o.guard = none) (it : Operand) (hop : o.op = Op.next it false)
    {p : Int} (h0 : 0 ≤ p) (h1 : p ≤ 36) (b r n : Nat) (D : DataW Unit) (left : Lit → Bool) (cnt : Nat) (hit : a.eval it = .pointer (some ⟨r, 0, none⟩)) (h : w.ranges Tryz.prog 37 (plainElem (H := Unit) Tryz.prog 4) b r n D left cnt)
    (honly : ∀ l, left l = true → ∃ k : Nat, (k : Int) ≤ p ∧ l = drawKey p k)
    (hDone : (∀ l, left l = false) → wpList Tryz.prog ops Q rest (a.put o.dst (.tuple #[.bool false])) w)
    (hMore : ∀ (k : Nat) (v : Value) (w' : World) (cnt' : Nat), (k : Int) ≤ p → left (drawKey p k) = true → w'.ranges Tryz.prog 37 (plainElem (H := Unit) Tryz.prog 4) b r n D (fun z => left z && !z.sameKey (drawKey p k)) cnt' → cnt' < cnt →
      w.grownBy w' (some r) → w'.heap.size = w.heap.size → (Instr.entry (.pointer (some ⟨r, 0, none⟩))).run Tryz.prog w' = .ok (.tuple #[drawV p k, v]) w' → wpList Tryz.prog ops Q rest (a.put o.dst (.tuple #[.bool true, drawV p k, v])) w') :
    wpList Tryz.prog ops Q (o :: rest) a w :=
  wpList_next_ranges w hg it hop 37 keyedDraw (plainElem (H := Unit) Tryz.prog 4) (fun x : Value => x) (fun x : Value => x) (fun key _ _ => ⟨key, rfl⟩) (fun v _ _ => ⟨v, rfl⟩) b r n D left cnt hit h (fun _ hl => hDone hl) (fun x c kl y w' cnt' hkey hl _ _ hr hlt hgr hsz hen => by
    obtain ⟨k, hk, rfl⟩ := honly kl hl
    obtain rfl := keyedDraw.inj hkey (drawKey_of h0 h1 (k := k) (by omega))
    exact hMore k c w' cnt' hk hl hr hlt hgr hsz hen)

end Go.Proofs.YtjegkkpdemoldaaGreatDoor
