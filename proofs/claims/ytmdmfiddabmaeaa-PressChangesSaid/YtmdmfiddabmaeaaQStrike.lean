/-
  The contract of strike.
-/
import Derived.Test.YtmdmfiddabmaeaaQSet
import Derived.Carry
import Derived.Lib.AppendZeros
import Derived.Deep.RegionLaw
import Derived.Laws.Runes
namespace Go.Proofs.Ytmdmfiddabmaeaa
open Go.RowKit

namespace Pure
def inL (n : Nat) (L : Nat → Int) (x : Int) : Bool := (List.range n).any fun j => decide (L j = x)
def keptW (len : Nat) (L : Nat → Int) (G : Nat → Int) (i : Nat) : Bool := !(inL len L (G (i * 5)) && !inL i (fun j => G (j * 5)) (G (i * 5)))
def leftN (len : Nat) (L : Nat → Int) (G : Nat → Int) : Nat → Nat
  | 0 => 0
  | i + 1 => leftN len L G i + (if keptW len L G i then 1 else 0)
def leftF (len : Nat) (L : Nat → Int) (G : Nat → Int) : Nat → Nat → Int
  | 0 => fun _ => 0
  | i + 1 => if keptW len L G i then joinF (leftF len L G i) (leftN len L G i * 5) (fun q => G (i * 5 + q)) else leftF len L G i
theorem inL_succ (n : Nat) (L : Nat → Int) (x : Int) : inL (n + 1) L x = (inL n L x || decide (x = L n)) := by
  unfold inL
  rw [List.range_succ, List.any_append]
  simp [eq_comm]
theorem leftN_le (len : Nat) (L G : Nat → Int) : ∀ i, leftN len L G i ≤ i
  | 0 => Nat.le_refl _
  | i + 1 => by
    have := leftN_le len L G i
    unfold leftN
    split <;> omega
end Pure

theorem SetAt.congr {w : World} {b n : Nat} {S T : Int → Bool} (h : SetAt w b n S) (e : ∀ x, S x = T x) : SetAt w b n T := by rwa [funext e] at h
theorem SetAt.below {w w' : World} {b n : Nat} {S : Int → Bool} (h : SetAt w b n S) (hb : Below w.heap.size w w') : SetAt w' b n S := h.heap (hb.block _ h.lt)

theorem nums_note {w : World} {v : Nat} {G : Nat → Int} {i : Nat} (h : w.heap[v]? = some (noteB (G (i * 5)) (G (i * 5 + 1)) (G (i * 5 + 2)) (G (i * 5 + 3)) (G (i * 5 + 4)))) : NumsAt w (some ⟨v, 0, none⟩) (1 * 5) (fun q => G (i * 5 + q)) := by
  intro q hq
  refine ⟨v, 0, rfl, ?_⟩
  have hq5 : q = 0 ∨ q = 1 ∨ q = 2 ∨ q = 3 ∨ q = 4 := by omega
  rcases hq5 with rfl | rfl | rfl | rfl | rfl <;> exact heap_cell h rfl
/-- What loop 2 of strike keeps. -/
def LeftAt (w : World) (base len : Nat) (L G : Nat → Int) (a : Option Addr) (c i : Nat) : Prop := OwnNums w (base + 1) 29 5 a (Pure.leftN len L G i) c (Pure.leftF len L G i)
set_option maxHeartbeats 8000000 in
set_option maxRecDepth 100000 in
theorem strike_any (b : Option Addr) (m d : Nat) (a : Option Addr) (len cap : Nat) (G L : Nat → Int) (hm : m ≤ 60) (hl : len ≤ 1000000) (wG : ∀ i, i < m → (Lit.int .i64 (G (i * 5))).wf = true) (wL : ∀ j, j < len → (Lit.int .i64 (L j)).wf = true) (w : World) (hG : NumsAt w b (m * 5) G) (hL : NumsAt w a len L) :
    Calls Try.prog 29 #[.slice b m d, .slice a len cap] w fun e w' => ∃ a' c' s, e = .returned (.tuple #[.slice a' (Pure.leftN len L G m) c', .int .i64 ((s : Nat) : Int)]) ∧ OwnNums w' w.heap.size 29 5 a' (Pure.leftN len L G m) c' (Pure.leftF len L G m) ∧ s ≤ len ∧ (s = 0 ↔ ∀ x : Int, (Lit.int .i64 x).wf = true → (Pure.inL len L x && !Pure.inL m (fun j => G (j * 5)) x) = false) ∧ Below w.heap.size w w' := by
  have HG := Lib.hid hG
  have HL := Lib.hid hL
  have HWG := Lib.hid wG
  have HWL := Lib.hid wL
  clear hG hL wG wL
  obtain ⟨W, hW⟩ : ∃ W, w.alloc (.map #[] 0) = W := ⟨_, rfl⟩
  have HB0 : Hid (Below w.heap.size w W) := Lib.hid (by rw [← hW]; exact below_new _ _)
  have HS0 : Hid (SetAt W w.heap.size 0 (fun _ => false)) := Lib.hid (by rw [← hW]; exact set_made _ rfl)
  have hmm := @run_makeMap Try.prog
  go_enter Try.func29, Try.ntmps29
  go_upto_region 2 with fail
  try rw [hW]
  clear hW hmm
  go_wp2_with fail
  go_loopw [8, 14] (fun _ i wr => ∃ k : Nat, k ≤ len ∧ i = .int .i64 k ∧ SetAt wr w.heap.size k (Pure.inL k L) ∧ Below w.heap.size w wr) (fun _ i _ => len - (intOf i).toNat)
  case atStart => exact ⟨0, Nat.zero_le _, rfl, HS0.out, HB0.out⟩
  case round =>
    obtain ⟨k, hk, rfl, hS, hb⟩ := hrel
    have HS := Lib.hid hS
    have HB := Lib.hid hb
    clear hS hb HS0 HB0
    by_cases hlt : k < len
    · obtain ⟨g, off, h9, _⟩ := HL.out k hlt
      subst h9
      have c0 := (HL.out.below HB.out).at hlt
      have hw := HWL.out k hlt
      have HW := Lib.hid hw
      clear hw
      go_wp2_with (first | (at_mapUpdate; refine wpList_set_put _ rfl _ _ _ rfl w.heap.size k _ rfl HS.out (by unfold maxLen; omega) (L k) rfl rfl HW.out ?_; intro w1 hs1 hg1) | go_in)
      go_roundw
      case rel => exact ⟨k + 1, by omega, by go_num, hs1.congr (fun x => by rw [Pure.inL_succ]), HB.out.grown hg1 HB.out.size (fun j e => by cases e; exact Nat.le_refl _)⟩
      case measure => simp [intOf]; omega
    · obtain rfl : len = k := by omega
      clear hlt hk
      go_wp2_with fail
      go_loopw [4, 10, 23] (fun l _ i wx => ∃ i' : Nat, i' ≤ m ∧ i = .int .i64 i' ∧ (∃ a' c', l = .slice a' (Pure.leftN len L G i') c' ∧ LeftAt wx w.heap.size len L G a' c' i') ∧ SetAt wx w.heap.size len (fun x => Pure.inL len L x && !Pure.inL i' (fun j => G (j * 5)) x) ∧ Below w.heap.size w wx) (fun _ _ i _ => m - (intOf i).toNat)
      case atStart => exact ⟨0, Nat.zero_le _, rfl, ⟨none, 0, rfl, own_nil _ _ _ _ _⟩, HS.out.congr (fun x => by simp [Pure.inL]), HB.out⟩
      case round =>
        obtain ⟨wx, rfl⟩ : ∃ x, x = wr := ⟨_, rfl⟩
        obtain ⟨i, hi, rfl, ⟨a', c', rfl, hla⟩, hs2, hb2⟩ := hrel
        have HLA := Lib.hid hla
        have HS2 := Lib.hid hs2
        have HB2 := Lib.hid hb2
        clear hla hs2 hb2 HS HB
        by_cases hlt : i < m
        · obtain ⟨g, off, h9, _⟩ := HG.out (i * 5) (by omega)
          subst h9
          have hg := HG.out.below HB2.out
          have c0 := hg.at (show i * 5 < m * 5 by omega)
          have c1 := nums_row hg (show i * 5 + 1 < m * 5 by omega)
          have c2 := nums_row hg (show i * 5 + 2 < m * 5 by omega)
          have c3 := nums_row hg (show i * 5 + 3 < m * 5 by omega)
          have c4 := nums_row hg (show i * 5 + 4 < m * 5 by omega)
          clear hg
          obtain ⟨U, hU⟩ : ∃ U, wx.alloc (noteB (G (i * 5)) (G (i * 5 + 1)) (G (i * 5 + 2)) (G (i * 5 + 3)) (G (i * 5 + 4))) = U := ⟨_, rfl⟩
          have hbu : Below wx.heap.size wx U := by rw [← hU]; exact below_new _ _
          have HBU : Hid (Below w.heap.size w U) := Lib.hid (below_thn HB2.out hbu)
          have HUX : Hid (U.heap[wx.heap.size]? = some (noteB (G (i * 5)) (G (i * 5 + 1)) (G (i * 5 + 2)) (G (i * 5 + 3)) (G (i * 5 + 4)))) := Lib.hid (by rw [← hU]; exact heap_top _ _ rfl)
          have HSU := Lib.hid (HS2.out.below hbu)
          have HLU : Hid (LeftAt U w.heap.size len L G a' c' i) := Lib.hid (OwnNums.below HLA.out hbu)
          have HSZ : Hid (w.heap.size < wx.heap.size) := Lib.hid HS2.out.lt
          have HW := Lib.hid (HWG.out i hlt)
          clear hbu
          have u0 := heap_cell HUX.out (j := 0) rfl
          have hlook := HSU.out.look HW.out
          obtain ⟨r, hr⟩ : ∃ r, (Pure.inL len L (G (i * 5)) && !Pure.inL i (fun j => G (j * 5)) (G (i * 5))) = r := ⟨_, rfl⟩
          rw [hr] at hlook
          have HR := Lib.hid hr
          clear hr
          go_upto_region 10 with fail
          try rw [hU]
          clear hU c0 c1 c2 c3 c4
          cases r
          · have HK : Hid (Pure.keptW len L G i = true) := Lib.hid (by unfold Pure.keptW; rw [HR.out]; rfl)
            have u1 := heap_cell HUX.out (j := 1) rfl
            have u2 := heap_cell HUX.out (j := 2) rfl
            have u3 := heap_cell HUX.out (j := 3) rfl
            have u4 := heap_cell HUX.out (j := 4) rfl
            go_upto_region 12 with fail
            obtain ⟨Y, hY⟩ : ∃ Y, U.alloc (noteB (G (i * 5)) (G (i * 5 + 1)) (G (i * 5 + 2)) (G (i * 5 + 3)) (G (i * 5 + 4))) = Y := ⟨_, rfl⟩
            have hby : Below U.heap.size U Y := by rw [← hY]; exact below_new _ _
            have hyx : Y.heap[U.heap.size]? = some (noteB (G (i * 5)) (G (i * 5 + 1)) (G (i * 5 + 2)) (G (i * 5 + 3)) (G (i * 5 + 4))) := by rw [← hY]; exact heap_top _ _ rfl
            obtain ⟨i0, hi0, hz0, hz1, hz2⟩ := infoNote
            have hoa : OwnNums Y (w.heap.size + 1) 29 5 a' (Pure.leftN len L G i) c' (Pure.leftF len L G i) := OwnNums.below HLU.out hby
            have hsy : w.heap.size + 1 ≤ Y.heap.size := by have h1 := HSZ.out; have h2 := hby.size; have h3 := (Array.getElem?_eq_some_iff.1 HUX.out).1; omega
            obtain ⟨a4, c4, Z, hr, ho4, hal, hbe, _⟩ := app_own Y (w.heap.size + 1) 29 23 23 5 40 i0 _ Try.underlying23 hi0 hz0 hz1 hz2 rfl (by decide) (by decide) hoa (some ⟨U.heap.size, 0, none⟩) 1 1 (fun q => G (i * 5 + q)) (nums_note hyx) (fun e => by cases e) (by have := Pure.leftN_le len L G i; omega) (by omega) hsy
            rw [← hY] at hr
            have HAR := Lib.hid hr
            have HOZ : Hid (LeftAt Z w.heap.size len L G a4 c4 (i + 1)) := Lib.hid (by
              have e1 : Pure.leftN len L G (i + 1) = Pure.leftN len L G i + 1 := by simp [Pure.leftN, HK.out]
              have e2 : Pure.leftF len L G (i + 1) = joinF (Pure.leftF len L G i) (Pure.leftN len L G i * 5) (fun q => G (i * 5 + q)) := by simp [Pure.leftF, HK.out]
              unfold LeftAt
              rw [e1, e2]
              exact ho4)
            have HBZ : Hid (Below w.heap.size w Z) := Lib.hid ((below_thn HBU.out hby).trans (hbe.mono (by omega)))
            have HSZ2 : Hid (SetAt Z w.heap.size len (fun x => Pure.inL len L x && !Pure.inL (i + 1) (fun j => G (j * 5)) x)) := Lib.hid (((HSU.out.below hby).heap (hal _ (HSU.out.below hby).lt (fun x hx e => by have h1 := (OwnNums.lt hoa x hx).1; omega))).congr (fun x => by
              rw [Pure.inL_succ]
              by_cases e : x = G (i * 5)
              · subst e
                rw [HR.out]
                simp
              · simp [e]))
            clear hby hyx hi0 hz0 hz1 hz2 hoa hsy hr ho4 hal hbe hY
            go_wp2_with (first | (at_builtin; refine Lib.wpList_append_run _ rfl _ _ _ _ rfl _ _ rfl rfl _ _ HAR.out ?_) | go_in)
            go_roundw
            case rel => exact ⟨i + 1, by omega, by go_num, ⟨a4, c4, by simp [Pure.leftN, HK.out], HOZ.out⟩, HSZ2.out, HBZ.out⟩
            case measure => simp [intOf]; omega
          · have HK : Hid (Pure.keptW len L G i = false) := Lib.hid (by unfold Pure.keptW; rw [HR.out]; rfl)
            go_wp2_with (first | (at_delete; refine wpList_set_del _ rfl _ _ rfl w.heap.size len _ rfl HSU.out (G (i * 5)) rfl HW.out ?_; intro w1 hs1 hg1) | go_in)
            go_roundw
            case rel => exact ⟨i + 1, by omega, by go_num, ⟨a', c', by simp [Pure.leftN, HK.out], by
              have e1 : Pure.leftN len L G (i + 1) = Pure.leftN len L G i := by simp [Pure.leftN, HK.out]
              have e2 : Pure.leftF len L G (i + 1) = Pure.leftF len L G i := by simp [Pure.leftF, HK.out]
              unfold LeftAt
              rw [e1, e2]
              exact OwnNums.kept HLU.out (fun x hx => by
                have h1 := OwnNums.lt HLU.out x hx
                exact hg1.block x.block h1.2 (fun e => by have h3 := Option.some.inj e; omega))⟩, hs1.congr (fun x => by rw [Pure.inL_succ]; cases Pure.inL len L x <;> simp [Bool.not_or]), HBU.out.grown hg1 HBU.out.size (fun j e => by cases e; exact Nat.le_refl _)⟩
            case measure => simp [intOf]; omega
        · obtain rfl : m = i := by omega
          clear hlt hi
          go_wp2_with (first | (at_len; refine wpList_set_len _ rfl _ rfl w.heap.size len _ rfl HS2.out ?_; intro s hs0 hs1) | go_in)
          refine bodyPost_ret (v := .tuple #[.slice a' (Pure.leftN len L G m) c', .int .i64 s]) (by simp [results, Try.results29, go_sem]; try rfl) rfl ⟨a', c', s, rfl, OwnNums.base HLA.out (by omega), hs0, hs1, HB2.out⟩
end Go.Proofs.Ytmdmfiddabmaeaa
