/-
  The contracts of Pour, the program's and the specification's.
-/
import Derived.Test.YtjemcmehgkhhlaaCPoured
namespace Go.Proofs.Ytjemcmehgkhhlaa
open Go.RowKit

namespace Pure
/-- What Pour gives. -/
def PourIs (n : Nat) (A : Nat → Int) (m : Nat) (B : Nat → Int) (k f t : Int) (n1 : Nat) (A1 : Nat → Int) (m1 : Nat) (B1 : Nat → Int) (k1 er : Int) : Prop :=
  (cans n A m B k = false ∧ n1 = 0 ∧ m1 = 0 ∧ k1 = 0 ∧ er = 80) ∨
  (cans n A m B k = true ∧ (¬ validP n f t ∧ er = 81 ∨ validP n f t ∧ canP A (startS k m B) f.toNat t.toNat = false ∧ er = 6) ∧ n1 = 0 ∧ m1 = 0 ∧ k1 = 0) ∨
  (cans n A m B k = true ∧ validP n f t ∧ canP A (startS k m B) f.toNat t.toNat = true ∧ n1 = n ∧ m1 = n ∧ (∀ q, q < n → A1 q = A q) ∧ (∀ q, q < n → B1 q = movedS (startS k m B) f.toNat t.toNat (amt A (startS k m B) f.toNat t.toNat) (q + 1)) ∧
    k1 = movedS (startS k m B) f.toNat t.toNat (amt A (startS k m B) f.toNat t.toNat) 0 ∧ er = 0)
theorem start_in {k : Int} {m : Nat} {B : Nat → Int} {q : Nat} (hq : q < m) : startS k m B (q + 1) = B q := by
  unfold startS
  rw [if_neg (by omega), if_pos (by omega), Nat.add_sub_cancel]
theorem start_zero (k : Int) (m : Nat) (B : Nat → Int) : startS k m B 0 = k := rfl
/-- A list of one. -/
theorem pour_of_play {n : Nat} {A : Nat → Int} {m : Nat} {B : Nat → Int} {k f t : Int} {n1 : Nat} {A1 : Nat → Int} {m1 : Nat} {B1 : Nat → Int} {k1 bk pl er : Int} (h : PlayIs n A m B k 1 (fun q => if q = 0 then f else t) n1 A1 m1 B1 k1 bk pl er) : PourIs n A m B k f t n1 A1 m1 B1 k1 er := by
  rcases h with ⟨h1, h2, h3, h4, _, _, h7⟩ | ⟨h1, ⟨j, hj, _, hno, _, her⟩, h2, h3, h4, _⟩ | ⟨h1, hall, h2, h3, h4, h5, h6, _, _, h9⟩
  · exact .inl ⟨h1, h2, h3, h4, h7⟩
  · obtain rfl : j = 0 := by omega
    refine .inr (.inl ⟨h1, ?_, h2, h3, h4⟩)
    simp only [okP, erP, stS, Nat.zero_mul, if_true, Nat.zero_add, if_neg (show ¬ (1 = 0) by omega)] at hno her
    by_cases hv : validP n f t
    · rw [if_pos hv] at her
      exact .inr ⟨hv, by simpa [hv] using hno, her⟩
    · rw [if_neg hv] at her
      exact .inl ⟨hv, her⟩
  · have h := hall 0 (by omega)
    simp only [okP, stS, Nat.zero_mul, if_true, Nat.zero_add, if_neg (show ¬ (1 = 0) by omega)] at h h5 h6
    exact .inr (.inr ⟨h1, h.1, h.2, h2, h3, h4, h5, h6, h9⟩)
end Pure

def PourOut (n : Nat) (A : Nat → Int) (m : Nat) (B : Nat → Int) (k f t : Int) (w : World) (e : Ending) (w' : World) : Prop :=
  ∃ a1 n1 c1 b1 m1 d1 k1 er A1 B1, e = .returned (.tuple #[cansV a1 n1 c1 b1 m1 d1 k1, .int .i64 er]) ∧ OwnNums w' w.heap.size 3 1 a1 n1 c1 A1 ∧ OwnNums w' w.heap.size 3 1 b1 m1 d1 B1 ∧ Apart b1 a1 ∧
    Pure.PourIs n A m B k f t n1 A1 m1 B1 k1 er ∧ Below w.heap.size w w'

set_option maxHeartbeats 4000000 in
set_option maxRecDepth 100000 in
theorem pourTop_any (a : Option Addr) (n c : Nat) (b : Option Addr) (m d : Nat) (k f t : Int) (A B : Nat → Int) (hn : n ≤ 60) (hm : m ≤ 60) (hna : a = none → n = 0 ∧ c = 0) (w : World) (hA : NumsAt w a n A) (hB : NumsAt w b m B) :
    Calls Try.prog 6 #[cansV a n c b m d k, pourV f t] w (PourOut n A m B k f t w) := by
  obtain ⟨W, hW⟩ : ∃ W, ((w.alloc (cansB a n c b m d k)).alloc (pourB f t)).alloc (cansB none 0 0 none 0 0 0) = W := ⟨_, rfl⟩
  have HB : Hid (Below w.heap.size w W) := Lib.hid (by rw [← hW]; exact ((below_new _ _).alloc (by simp) _).alloc (by simp; omega) _)
  have HX : Hid (W.heap[w.heap.size]? = some (cansB a n c b m d k)) := Lib.hid (by rw [← hW]; exact heap_up (heap_up (heap_top _ _ rfl) _) _)
  have HY : Hid (W.heap[w.heap.size + 1]? = some (pourB f t)) := Lib.hid (by rw [← hW]; exact heap_up (heap_top _ _ (by simp)) _)
  have HR : Hid (W.heap[w.heap.size + 1 + 1]? = some (cansB none 0 0 none 0 0 0)) := Lib.hid (by rw [← hW]; exact heap_top _ _ (by simp))
  have HSZ : Hid (W.heap.size = w.heap.size + 3) := Lib.hid (by rw [← hW]; simp)
  have HA := Lib.hid (hA.below HB.out)
  have HBB := Lib.hid (hB.below HB.out)
  clear hA hB
  have x0 := heap_cell HX.out (v := .slice a n c) (j := 0) rfl
  have x1 := heap_cell HX.out (v := .slice b m d) (j := 1) rfl
  have x2 := heap_cell HX.out (v := .int .i64 k) (j := 2) rfl
  have y0 := heap_cell HY.out (v := .int .i64 f) (j := 0) rfl
  have y1 := heap_cell HY.out (v := .int .i64 t) (j := 1) rfl
  go_enter Try.func6, Try.ntmps6
  go_upto_region 1 with fail
  try rw [hW]
  clear hW
  obtain ⟨U, hU⟩ : ∃ U, W.alloc (pourB f t) = U := ⟨_, rfl⟩
  have hbu : Below W.heap.size W U := by rw [← hU]; exact below_new _ _
  have hpu : U.heap[W.heap.size]? = some (pourB f t) := by rw [← hU]; exact heap_top _ _ rfl
  go_wp2_with fail
  try rw [show W.alloc (.cells #[.int .i64 f, .int .i64 t] 26) = U from hU]
  clear hU x0 x1 x2 y0 y1
  refine (playAll_any a n c b m d k (some ⟨W.heap.size, 0, none⟩) 1 1 A B (fun q => if q = 0 then f else t) hn hm (by omega) hna U (HA.out.below hbu) (HBB.out.below hbu) (nums_pour hpu)).mono ?_
  rintro e V ⟨a1, n1, c1, b1, m1, d1, k1, bk, pl, er, A1, B1, rfl, ho1, ho2, hap, hpl, hb⟩
  obtain ⟨Z, hZ⟩ : ∃ Z, V.alloc (cansB a1 n1 c1 b1 m1 d1 k1) = Z := ⟨_, rfl⟩
  have hbz : Below V.heap.size V Z := by rw [← hZ]; exact below_new _ _
  have HZ : Hid (Z.heap[V.heap.size]? = some (cansB a1 n1 c1 b1 m1 d1 k1)) := Lib.hid (by rw [← hZ]; exact heap_top _ _ rfl)
  have hbb := below_thn hbu (below_thn hb hbz)
  have hrz := heap_lft HR.out hbb
  have hsz : w.heap.size + 3 ≤ U.heap.size := by have h1 := HSZ.out; have h2 := hbu.size; omega
  have r0 := heap_cell hrz (j := 0) rfl
  have r1 := heap_cell hrz (j := 1) rfl
  have r2 := heap_cell hrz (j := 2) rfl
  have s0 := heap_frozen hrz 0
  have s1 := heap_frozen hrz 1
  have s2 := heap_frozen hrz 2
  have z0 := heap_cell HZ.out (j := 0) rfl
  have z1 := heap_cell HZ.out (j := 1) rfl
  have z2 := heap_cell HZ.out (j := 2) rfl
  obtain ⟨T, hT⟩ : ∃ zz, ((Z.setCell ⟨w.heap.size + 1 + 1, 0, none⟩ (.slice a1 n1 c1)).setCell ⟨w.heap.size + 1 + 1, 1, none⟩ (.slice b1 m1 d1)).setCell ⟨w.heap.size + 1 + 1, 2, none⟩ (.int .i64 k1) = zz := ⟨_, rfl⟩
  have hv : T.heap[w.heap.size + 1 + 1]? = some (cansB a1 n1 c1 b1 m1 d1 k1) := by rw [← hT]; exact heap_set (heap_set (heap_set hrz 0 _) 1 _) 2 _
  have v0 := heap_cell hv (j := 0) rfl
  have v1 := heap_cell hv (j := 1) rfl
  have v2 := heap_cell hv (j := 2) rfl
  have HV1 : Hid (OwnNums T U.heap.size 3 1 a1 n1 c1 A1) := Lib.hid (by rw [← hT]; exact (((ho1.below hbz).set (by dsimp only; omega) _).set (by dsimp only; omega) _).set (by dsimp only; omega) _)
  have HV2 : Hid (OwnNums T U.heap.size 3 1 b1 m1 d1 B1) := Lib.hid (by rw [← hT]; exact (((ho2.below hbz).set (by dsimp only; omega) _).set (by dsimp only; omega) _).set (by dsimp only; omega) _)
  have HVB : Hid (Below w.heap.size w T) := Lib.hid (by rw [← hT]; exact (((below_thn HB.out hbb).setCell (by dsimp only; omega) _).setCell (by dsimp only; omega) _).setCell (by dsimp only; omega) _)
  have HPL := Lib.hid (Pure.pour_of_play hpl)
  have HAP := Lib.hid hap
  have HUS := Lib.hid hsz
  clear ho1 ho2 hap hpl hb hbz hbb hrz hsz hv hbu hpu
  go_wp2_with fail
  try rw [hT]
  have hus := HUS.out
  exact bodyPost_ret (v := .tuple #[cansV a1 n1 c1 b1 m1 d1 k1, .int .i64 er]) (by simp [results, Try.results6, go_sem, v0, v1, v2]; try rfl) rfl ⟨a1, n1, c1, b1, m1, d1, k1, er, A1, B1, rfl, OwnNums.base HV1.out (by omega), OwnNums.base HV2.out (by omega), HAP.out, HPL.out, HVB.out⟩
end Go.Proofs.Ytjemcmehgkhhlaa
