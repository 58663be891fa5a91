/-
  The contracts of the specification's poured, Pour and Play; and of Pour.
-/
import Derived.Test.YtjemcmehgkhhlaaCPints
namespace Go.Proofs.Ytjemcmehgkhhlaa
open Go.RowKit

/-- What poured gives. -/
def PouredOut (n : Nat) (A S' : Nat → Int) (w : World) (e : Ending) (w' : World) : Prop :=
  ∃ a1 c1 b1 d1, e = .returned (cansV a1 n c1 b1 n d1 (S' 0)) ∧ OwnNums w' w.heap.size 3 1 a1 n c1 A ∧ OwnNums w' w.heap.size 3 1 b1 n d1 (fun q => S' (q + 1)) ∧ Apart b1 a1 ∧ Below w.heap.size w w'

set_option maxHeartbeats 8000000 in
set_option maxRecDepth 100000 in
theorem rPoured_any (a : Option Addr) (n c : Nat) (b : Option Addr) (d : Nat) (A S : Nat → Int) (f t : Nat) (p : Int) (hf : f ≤ n) (ht : t ≤ n) (hne : f ≠ t) (hn : n ≤ 3) (hG : Pure.Good n A S) (hp : 0 ≤ p ∧ p ≤ 600) (hna : a = none → n = 0) (hnb : b = none → n = 0) (w : World) (hA : NumsAt w a n A) (hB : NumsAt w b n (fun q => S (q + 1))) :
    Calls Try.prog 17 #[cansV a n c b n d (S 0), pourV f t, .int .i64 p] w (PouredOut n A (Pure.movedS S f t p) w) := by
  obtain ⟨W, hW⟩ : ∃ W, ((w.alloc (cansB a n c b n d (S 0))).alloc (pourB f t)).alloc (cansB none 0 0 none 0 0 0) = W := ⟨_, rfl⟩
  have HB : Hid (Below w.heap.size w W) := Lib.hid (by rw [← hW]; exact ((below_new _ _).alloc (by simp) _).alloc (by simp; omega) _)
  have HX : Hid (W.heap[w.heap.size]? = some (cansB a n c b n d (S 0))) := Lib.hid (by rw [← hW]; exact heap_up (heap_up (heap_top _ _ rfl) _) _)
  have HY : Hid (W.heap[w.heap.size + 1]? = some (pourB f t)) := Lib.hid (by rw [← hW]; exact heap_up (heap_top _ _ (by simp)) _)
  have HR : Hid (W.heap[w.heap.size + 1 + 1]? = some (cansB none 0 0 none 0 0 0)) := Lib.hid (by rw [← hW]; exact heap_top _ _ (by simp))
  have HSZ : Hid (W.heap.size = w.heap.size + 3) := Lib.hid (by rw [← hW]; simp)
  have HA := Lib.hid (hA.below HB.out)
  have HBB := Lib.hid (hB.below HB.out)
  have HM := Lib.hid (And.intro (hG.most hf) (hG.most ht))
  clear hA hB
  have x0 := heap_cell HX.out (v := .slice a n c) (j := 0) rfl
  have x1 := heap_cell HX.out (v := .slice b n d) (j := 1) rfl
  have x2 := heap_cell HX.out (v := .int .i64 (S 0)) (j := 2) rfl
  have hws1 : IntKind.i64.wrap (S f - p) = S f - p := IntWalk.i64_in _ (by have := HM.out; omega)
  have hws2 : IntKind.i64.wrap (S t + p) = S t + p := IntWalk.i64_in _ (by have := HM.out; omega)
  go_enter Try.func17, Try.ntmps17
  go_upto_region 1 with fail
  try rw [hW]
  clear hW
  go_wp2_with fail
  refine (twin_any a n c b n d (S 0) A (fun q => S (q + 1)) (by omega) (by omega) hna hnb W (by rw [Nat.mul_one]; exact HA.out) (by rw [Nat.mul_one]; exact HBB.out)).mono ?_
  rintro e W1 ⟨a1, c1, a2, c2, rfl, ho1, ho2, hap, hb⟩
  clear x0 x1 x2
  obtain ⟨W2, hW2⟩ : ∃ W2, W1.alloc (cansB a1 n c1 a2 n c2 (S 0)) = W2 := ⟨_, rfl⟩
  have hb2 : Below W1.heap.size W1 W2 := by rw [← hW2]; exact below_new _ _
  have HCW2 : Hid (W2.heap[W1.heap.size]? = some (cansB a1 n c1 a2 n c2 (S 0))) := Lib.hid (by rw [← hW2]; exact heap_top _ _ rfl)
  have HO1W2 := Lib.hid (ho1.below hb2)
  have HO2W2 := Lib.hid (ho2.below hb2)
  have HBW2 := Lib.hid (below_thn HB.out (below_thn hb hb2))
  have HYW2 := Lib.hid (heap_lft HY.out (below_thn hb hb2))
  have HRW2 := Lib.hid (heap_lft HR.out (below_thn hb hb2))
  have HAP := Lib.hid hap
  have HS1 : Hid (W.heap.size ≤ W1.heap.size) := Lib.hid hb.size
  have HLT : Hid (∀ x, a2 = some x → x.block < W1.heap.size) := Lib.hid (fun x hx => (ho2.lt x hx).2)
  have HLA : Hid (∀ x, a1 = some x → x.block < W1.heap.size) := Lib.hid (fun x hx => (ho1.lt x hx).2)
  clear ho1 ho2 hap hb hb2
  have hn1 : 0 < n := by omega
  obtain ⟨g2, cur, rfl, hg2, _⟩ := HO2W2.out.at hn1
  have HGL : Hid (g2 < W1.heap.size) := Lib.hid (HLT.out _ rfl)
  have HG2 : Hid (W.heap.size ≤ g2) := Lib.hid hg2
  have HL1 : Hid (∀ x, a1 = some x → x.block < W1.heap.size) := HLA
  clear hg2
  by_cases hf0 : f = 0
  · have e1 : ((f : Int) == 0) = true := by rw [hf0]; rfl
    obtain ⟨y, rfl⟩ : ∃ y, t = y + 1 := ⟨t - 1, by omega⟩
    have e2 : (((y + 1 : Nat) : Int) == 0) = false := beq_eq_false_iff_ne.2 (by omega)
    have e3 : ((y : Int) + 1 == 0) = false := beq_eq_false_iff_ne.2 (by omega)
    have hw : IntKind.i64.wrap (((y + 1 : Nat) : Int) - 1) = (y : Int) := by rw [IntWalk.i64_in _ (by omega)]; omega
    have hw' : IntKind.i64.wrap ((y : Int) + 1 - 1) = (y : Int) := by rw [IntWalk.i64_in _ (by omega)]; omega
    have nw : (y : Int) < n := by omega
    have HF0 := Lib.hid hf0
    have hws3 : IntKind.i64.wrap (S 0 - p) = S 0 - p := by rw [hf0] at hws1; exact hws1
    clear hf0
    have y0 := heap_cell HYW2.out (v := .int .i64 f) (j := 0) rfl
    have y1 := heap_cell HYW2.out (v := .int .i64 ((y + 1 : Nat) : Int)) (j := 1) rfl
    have k0 := heap_cell HCW2.out (v := .slice a1 n c1) (j := 0) rfl
    have k1 := heap_cell HCW2.out (v := .slice (some ⟨g2, 0, none⟩) n c2) (j := 1) rfl
    have k2 := heap_cell HCW2.out (v := .int .i64 (S 0)) (j := 2) rfl
    have kf := heap_frozen HCW2.out 2
    obtain ⟨Z1, hz⟩ : ∃ zz, W2.setCell ⟨W1.heap.size, 2, none⟩ (.int .i64 (S 0 - p)) = zz := ⟨_, rfl⟩
    have HCZ1 : Hid (Z1.heap[W1.heap.size]? = some (cansB a1 n c1 (some ⟨g2, 0, none⟩) n c2 (S 0 - p))) := Lib.hid (by rw [← hz]; exact heap_set HCW2.out 2 _)
    have HO1Z1 : Hid (OwnNums Z1 W.heap.size 3 1 a1 n c1 A) := Lib.hid (by rw [← hz]; exact HO1W2.out.kept (fun x hx => setCell_other (by have := HL1.out x hx; dsimp only; omega)))
    have HO2Z1 : Hid (OwnNums Z1 W.heap.size 3 1 (some ⟨g2, 0, none⟩) n c2 (fun q => S (q + 1))) := Lib.hid (by rw [← hz]; exact HO2W2.out.kept (fun x hx => setCell_other (by have := HLT.out x hx; dsimp only; omega)))
    have HYZ1 : Hid (Z1.heap[w.heap.size + 1]? = some (pourB f ((y + 1 : Nat) : Int))) := Lib.hid (by rw [← hz]; exact (setCell_other (by have := HS1.out; have := HSZ.out; dsimp only; omega)).trans HYW2.out)
    have HRZ1 : Hid (Z1.heap[w.heap.size + 1 + 1]? = some (cansB none 0 0 none 0 0 0)) := Lib.hid (by rw [← hz]; exact (setCell_other (by have := HS1.out; have := HSZ.out; dsimp only; omega)).trans HRW2.out)
    have HBZ1 : Hid (Below w.heap.size w Z1) := Lib.hid (by rw [← hz]; exact HBW2.out.setCell (by have := HS1.out; have := HSZ.out; dsimp only; omega) _)
    go_upto_region 5 with fail
    try rw [hz]
    clear hz
    clear y0 y1 k0 k1 k2 kf
    have y0 := heap_cell HYZ1.out (v := .int .i64 f) (j := 0) rfl
    have y1 := heap_cell HYZ1.out (v := .int .i64 ((y + 1 : Nat) : Int)) (j := 1) rfl
    have k0 := heap_cell HCZ1.out (v := .slice a1 n c1) (j := 0) rfl
    have k1 := heap_cell HCZ1.out (v := .slice (some ⟨g2, 0, none⟩) n c2) (j := 1) rfl
    have k2 := heap_cell HCZ1.out (v := .int .i64 (S 0 - p)) (j := 2) rfl
    have kf := heap_frozen HCZ1.out 2
    have q0 : Z1.cell? ⟨g2, y, none⟩ = some (.int .i64 (S (y + 1))) := by
      have h := HO2Z1.out.nums.at (show y < n * 1 by omega)
      simpa using h
    obtain ⟨_, cur', hcc, _, hcur⟩ := HO2Z1.out.at (by omega)
    cases hcc
    have q1 := heap_frozen hcur y
    obtain ⟨Z2, hz⟩ : ∃ zz, Z1.setCell ⟨g2, y, none⟩ (.int .i64 (S (y + 1) + p)) = zz := ⟨_, rfl⟩
    have HCZ2 : Hid (Z2.heap[W1.heap.size]? = some (cansB a1 n c1 (some ⟨g2, 0, none⟩) n c2 (S 0 - p))) := Lib.hid (by rw [← hz]; exact (setCell_other (by have := HGL.out; dsimp only; omega)).trans HCZ1.out)
    have HO1Z2 : Hid (OwnNums Z2 W.heap.size 3 1 a1 n c1 A) := Lib.hid (by rw [← hz]; exact HO1Z1.out.kept (fun x hx => setCell_other (by have := HAP.out _ x rfl hx; dsimp only at *; omega)))
    have HO2Z2 : Hid (OwnNums Z2 W.heap.size 3 1 (some ⟨g2, 0, none⟩) n c2 (fun q => if q = y then S (y + 1) + p else S (q + 1))) := Lib.hid (by rw [← hz]; exact HO2Z1.out.put (by omega) rfl)
    have HYZ2 : Hid (Z2.heap[w.heap.size + 1]? = some (pourB f ((y + 1 : Nat) : Int))) := Lib.hid (by rw [← hz]; exact (setCell_other (by have := HG2.out; have := HSZ.out; dsimp only; omega)).trans HYZ1.out)
    have HRZ2 : Hid (Z2.heap[w.heap.size + 1 + 1]? = some (cansB none 0 0 none 0 0 0)) := Lib.hid (by rw [← hz]; exact (setCell_other (by have := HG2.out; have := HSZ.out; dsimp only; omega)).trans HRZ1.out)
    have HBZ2 : Hid (Below w.heap.size w Z2) := Lib.hid (by rw [← hz]; exact HBZ1.out.setCell (by have := HG2.out; have := HSZ.out; dsimp only; omega) _)
    go_upto_region 8 with fail
    try rw [hz]
    clear hz q0 q1 hcur
    clear y0 y1 k0 k1 k2 kf
    have y0 := heap_cell HYZ2.out (v := .int .i64 f) (j := 0) rfl
    have y1 := heap_cell HYZ2.out (v := .int .i64 ((y + 1 : Nat) : Int)) (j := 1) rfl
    have k0 := heap_cell HCZ2.out (v := .slice a1 n c1) (j := 0) rfl
    have k1 := heap_cell HCZ2.out (v := .slice (some ⟨g2, 0, none⟩) n c2) (j := 1) rfl
    have k2 := heap_cell HCZ2.out (v := .int .i64 (S 0 - p)) (j := 2) rfl
    have kf := heap_frozen HCZ2.out 2
    have r0 := heap_cell HRZ2.out (j := 0) rfl
    have r1 := heap_cell HRZ2.out (j := 1) rfl
    have r2 := heap_cell HRZ2.out (j := 2) rfl
    have s0 := heap_frozen HRZ2.out 0
    have s1 := heap_frozen HRZ2.out 1
    have s2 := heap_frozen HRZ2.out 2
    obtain ⟨V, hV⟩ : ∃ zz, ((Z2.setCell ⟨w.heap.size + 1 + 1, 0, none⟩ (.slice a1 n c1)).setCell ⟨w.heap.size + 1 + 1, 1, none⟩ (.slice (some ⟨g2, 0, none⟩) n c2)).setCell ⟨w.heap.size + 1 + 1, 2, none⟩ (.int .i64 (S 0 - p)) = zz := ⟨_, rfl⟩
    have hv : V.heap[w.heap.size + 1 + 1]? = some (cansB a1 n c1 (some ⟨g2, 0, none⟩) n c2 (S 0 - p)) := by rw [← hV]; exact heap_set (heap_set (heap_set HRZ2.out 0 _) 1 _) 2 _
    have v0 := heap_cell hv (j := 0) rfl
    have v1 := heap_cell hv (j := 1) rfl
    have v2 := heap_cell hv (j := 2) rfl
    have hv1 : OwnNums V W.heap.size 3 1 a1 n c1 A := by rw [← hV]; have h := HSZ.out; exact ((HO1Z2.out.set (by dsimp only; omega) _).set (by dsimp only; omega) _).set (by dsimp only; omega) _
    have hv2 : OwnNums V W.heap.size 3 1 (some ⟨g2, 0, none⟩) n c2 (fun q => if q = y then S (y + 1) + p else S (q + 1)) := by rw [← hV]; have h := HSZ.out; exact ((HO2Z2.out.set (by dsimp only; omega) _).set (by dsimp only; omega) _).set (by dsimp only; omega) _
    have hvb : Below w.heap.size w V := by rw [← hV]; exact ((HBZ2.out.setCell (by dsimp only; omega) _).setCell (by dsimp only; omega) _).setCell (by dsimp only; omega) _
    have HV1 := Lib.hid hv1
    have HV2 := Lib.hid hv2
    have HVB := Lib.hid hvb
    clear hv hv1 hv2 hvb
    go_wp2_with fail
    try rw [hV]
    have hsz := HSZ.out
    refine bodyPost_ret (v := cansV a1 n c1 (some ⟨g2, 0, none⟩) n c2 (S 0 - p)) (by simp [results, Try.results17, go_sem, v0, v1, v2]; try rfl) rfl ⟨a1, c1, some ⟨g2, 0, none⟩, c2, ?_, OwnNums.base HV1.out (by omega), (OwnNums.base HV2.out (by omega)).congr (fun q hq => ?_), HAP.out, HVB.out⟩
    · have h := HF0.out
      unfold Pure.movedS
      rw [if_neg (by omega), if_pos (by omega), h]
    · have h := HF0.out
      unfold Pure.movedS
      by_cases e : q = y
      · rw [if_pos e, if_pos (by omega)]
      · rw [if_neg e, if_neg (by omega), if_neg (by omega)]
  · have e1 : ((f : Int) == 0) = false := beq_eq_false_iff_ne.2 (by omega)
    obtain ⟨z, rfl⟩ : ∃ z, f = z + 1 := ⟨f - 1, by omega⟩
    have e1' : ((z : Int) + 1 == 0) = false := beq_eq_false_iff_ne.2 (by omega)
    have hv : IntKind.i64.wrap (((z + 1 : Nat) : Int) - 1) = (z : Int) := by rw [IntWalk.i64_in _ (by omega)]; omega
    have hv' : IntKind.i64.wrap ((z : Int) + 1 - 1) = (z : Int) := by rw [IntWalk.i64_in _ (by omega)]; omega
    have nv : (z : Int) < n := by omega
    have y0 := heap_cell HYW2.out (v := .int .i64 ((z + 1 : Nat) : Int)) (j := 0) rfl
    have y1 := heap_cell HYW2.out (v := .int .i64 t) (j := 1) rfl
    have k0 := heap_cell HCW2.out (v := .slice a1 n c1) (j := 0) rfl
    have k1 := heap_cell HCW2.out (v := .slice (some ⟨g2, 0, none⟩) n c2) (j := 1) rfl
    have k2 := heap_cell HCW2.out (v := .int .i64 (S 0)) (j := 2) rfl
    have kf := heap_frozen HCW2.out 2
    have q0 : W2.cell? ⟨g2, z, none⟩ = some (.int .i64 (S (z + 1))) := by
      have h := HO2W2.out.nums.at (show z < n * 1 by omega)
      simpa using h
    obtain ⟨_, cur', hcc, _, hcur⟩ := HO2W2.out.at (by omega)
    cases hcc
    have q1 := heap_frozen hcur z
    obtain ⟨Z1, hz⟩ : ∃ zz, W2.setCell ⟨g2, z, none⟩ (.int .i64 (S (z + 1) - p)) = zz := ⟨_, rfl⟩
    have HCZ1 : Hid (Z1.heap[W1.heap.size]? = some (cansB a1 n c1 (some ⟨g2, 0, none⟩) n c2 (S 0))) := Lib.hid (by rw [← hz]; exact (setCell_other (by have := HGL.out; dsimp only; omega)).trans HCW2.out)
    have HO1Z1 : Hid (OwnNums Z1 W.heap.size 3 1 a1 n c1 A) := Lib.hid (by rw [← hz]; exact HO1W2.out.kept (fun x hx => setCell_other (by have := HAP.out _ x rfl hx; dsimp only at *; omega)))
    have HO2Z1 : Hid (OwnNums Z1 W.heap.size 3 1 (some ⟨g2, 0, none⟩) n c2 (fun q => if q = z then S (z + 1) - p else S (q + 1))) := Lib.hid (by rw [← hz]; exact HO2W2.out.put (by omega) rfl)
    have HYZ1 : Hid (Z1.heap[w.heap.size + 1]? = some (pourB ((z + 1 : Nat) : Int) t)) := Lib.hid (by rw [← hz]; exact (setCell_other (by have := HG2.out; have := HSZ.out; dsimp only; omega)).trans HYW2.out)
    have HRZ1 : Hid (Z1.heap[w.heap.size + 1 + 1]? = some (cansB none 0 0 none 0 0 0)) := Lib.hid (by rw [← hz]; exact (setCell_other (by have := HG2.out; have := HSZ.out; dsimp only; omega)).trans HRW2.out)
    have HBZ1 : Hid (Below w.heap.size w Z1) := Lib.hid (by rw [← hz]; exact HBW2.out.setCell (by have := HG2.out; have := HSZ.out; dsimp only; omega) _)
    go_upto_region 5 with fail
    try rw [hz]
    clear hz q0 q1 hcur
    clear y0 y1 k0 k1 k2 kf
    by_cases ht0 : t = 0
    · have e2 : ((t : Int) == 0) = true := by rw [ht0]; rfl
      have HT0 := Lib.hid ht0
      have hws3 : IntKind.i64.wrap (S 0 + p) = S 0 + p := by rw [ht0] at hws2; exact hws2
      clear ht0
      have y0 := heap_cell HYZ1.out (v := .int .i64 ((z + 1 : Nat) : Int)) (j := 0) rfl
      have y1 := heap_cell HYZ1.out (v := .int .i64 t) (j := 1) rfl
      have k0 := heap_cell HCZ1.out (v := .slice a1 n c1) (j := 0) rfl
      have k1 := heap_cell HCZ1.out (v := .slice (some ⟨g2, 0, none⟩) n c2) (j := 1) rfl
      have k2 := heap_cell HCZ1.out (v := .int .i64 (S 0)) (j := 2) rfl
      have kf := heap_frozen HCZ1.out 2
      obtain ⟨Z2, hz⟩ : ∃ zz, Z1.setCell ⟨W1.heap.size, 2, none⟩ (.int .i64 (S 0 + p)) = zz := ⟨_, rfl⟩
      have HCZ2 : Hid (Z2.heap[W1.heap.size]? = some (cansB a1 n c1 (some ⟨g2, 0, none⟩) n c2 (S 0 + p))) := Lib.hid (by rw [← hz]; exact heap_set HCZ1.out 2 _)
      have HO1Z2 : Hid (OwnNums Z2 W.heap.size 3 1 a1 n c1 A) := Lib.hid (by rw [← hz]; exact HO1Z1.out.kept (fun x hx => setCell_other (by have := HL1.out x hx; dsimp only; omega)))
      have HO2Z2 : Hid (OwnNums Z2 W.heap.size 3 1 (some ⟨g2, 0, none⟩) n c2 (fun q => if q = z then S (z + 1) - p else S (q + 1))) := Lib.hid (by rw [← hz]; exact HO2Z1.out.kept (fun x hx => setCell_other (by have := HLT.out x hx; dsimp only; omega)))
      have HYZ2 : Hid (Z2.heap[w.heap.size + 1]? = some (pourB ((z + 1 : Nat) : Int) t)) := Lib.hid (by rw [← hz]; exact (setCell_other (by have := HS1.out; have := HSZ.out; dsimp only; omega)).trans HYZ1.out)
      have HRZ2 : Hid (Z2.heap[w.heap.size + 1 + 1]? = some (cansB none 0 0 none 0 0 0)) := Lib.hid (by rw [← hz]; exact (setCell_other (by have := HS1.out; have := HSZ.out; dsimp only; omega)).trans HRZ1.out)
      have HBZ2 : Hid (Below w.heap.size w Z2) := Lib.hid (by rw [← hz]; exact HBZ1.out.setCell (by have := HS1.out; have := HSZ.out; dsimp only; omega) _)
      go_upto_region 8 with fail
      try rw [hz]
      clear hz
      clear y0 y1 k0 k1 k2 kf
      have y0 := heap_cell HYZ2.out (v := .int .i64 ((z + 1 : Nat) : Int)) (j := 0) rfl
      have y1 := heap_cell HYZ2.out (v := .int .i64 t) (j := 1) rfl
      have k0 := heap_cell HCZ2.out (v := .slice a1 n c1) (j := 0) rfl
      have k1 := heap_cell HCZ2.out (v := .slice (some ⟨g2, 0, none⟩) n c2) (j := 1) rfl
      have k2 := heap_cell HCZ2.out (v := .int .i64 (S 0 + p)) (j := 2) rfl
      have kf := heap_frozen HCZ2.out 2
      have r0 := heap_cell HRZ2.out (j := 0) rfl
      have r1 := heap_cell HRZ2.out (j := 1) rfl
      have r2 := heap_cell HRZ2.out (j := 2) rfl
      have s0 := heap_frozen HRZ2.out 0
      have s1 := heap_frozen HRZ2.out 1
      have s2 := heap_frozen HRZ2.out 2
      obtain ⟨V, hV⟩ : ∃ zz, ((Z2.setCell ⟨w.heap.size + 1 + 1, 0, none⟩ (.slice a1 n c1)).setCell ⟨w.heap.size + 1 + 1, 1, none⟩ (.slice (some ⟨g2, 0, none⟩) n c2)).setCell ⟨w.heap.size + 1 + 1, 2, none⟩ (.int .i64 (S 0 + p)) = zz := ⟨_, rfl⟩
      have hv : V.heap[w.heap.size + 1 + 1]? = some (cansB a1 n c1 (some ⟨g2, 0, none⟩) n c2 (S 0 + p)) := by rw [← hV]; exact heap_set (heap_set (heap_set HRZ2.out 0 _) 1 _) 2 _
      have v0 := heap_cell hv (j := 0) rfl
      have v1 := heap_cell hv (j := 1) rfl
      have v2 := heap_cell hv (j := 2) rfl
      have hv1 : OwnNums V W.heap.size 3 1 a1 n c1 A := by rw [← hV]; have h := HSZ.out; exact ((HO1Z2.out.set (by dsimp only; omega) _).set (by dsimp only; omega) _).set (by dsimp only; omega) _
      have hv2 : OwnNums V W.heap.size 3 1 (some ⟨g2, 0, none⟩) n c2 (fun q => if q = z then S (z + 1) - p else S (q + 1)) := by rw [← hV]; have h := HSZ.out; exact ((HO2Z2.out.set (by dsimp only; omega) _).set (by dsimp only; omega) _).set (by dsimp only; omega) _
      have hvb : Below w.heap.size w V := by rw [← hV]; exact ((HBZ2.out.setCell (by dsimp only; omega) _).setCell (by dsimp only; omega) _).setCell (by dsimp only; omega) _
      have HV1 := Lib.hid hv1
      have HV2 := Lib.hid hv2
      have HVB := Lib.hid hvb
      clear hv hv1 hv2 hvb
      go_wp2_with fail
      try rw [hV]
      have hsz := HSZ.out
      refine bodyPost_ret (v := cansV a1 n c1 (some ⟨g2, 0, none⟩) n c2 (S 0 + p)) (by simp [results, Try.results17, go_sem, v0, v1, v2]; try rfl) rfl ⟨a1, c1, some ⟨g2, 0, none⟩, c2, ?_, OwnNums.base HV1.out (by omega), (OwnNums.base HV2.out (by omega)).congr (fun q hq => ?_), HAP.out, HVB.out⟩
      · have h := HT0.out
        unfold Pure.movedS
        rw [if_pos (by omega), h]
      · have h := HT0.out
        unfold Pure.movedS
        by_cases e : q = z
        · rw [if_pos e, if_neg (by omega), if_pos (by omega)]
        · rw [if_neg e, if_neg (by omega), if_neg (by omega)]
    · have e2 : ((t : Int) == 0) = false := beq_eq_false_iff_ne.2 (by omega)
      obtain ⟨y, rfl⟩ : ∃ y, t = y + 1 := ⟨t - 1, by omega⟩
      have e2' : ((y : Int) + 1 == 0) = false := beq_eq_false_iff_ne.2 (by omega)
      have hyz : y ≠ z := by omega
      have hw : IntKind.i64.wrap (((y + 1 : Nat) : Int) - 1) = (y : Int) := by rw [IntWalk.i64_in _ (by omega)]; omega
      have hw' : IntKind.i64.wrap ((y : Int) + 1 - 1) = (y : Int) := by rw [IntWalk.i64_in _ (by omega)]; omega
      have nw : (y : Int) < n := by omega
      have y0 := heap_cell HYZ1.out (v := .int .i64 ((z + 1 : Nat) : Int)) (j := 0) rfl
      have y1 := heap_cell HYZ1.out (v := .int .i64 ((y + 1 : Nat) : Int)) (j := 1) rfl
      have k0 := heap_cell HCZ1.out (v := .slice a1 n c1) (j := 0) rfl
      have k1 := heap_cell HCZ1.out (v := .slice (some ⟨g2, 0, none⟩) n c2) (j := 1) rfl
      have k2 := heap_cell HCZ1.out (v := .int .i64 (S 0)) (j := 2) rfl
      have kf := heap_frozen HCZ1.out 2
      have q0 : Z1.cell? ⟨g2, y, none⟩ = some (.int .i64 (S (y + 1))) := by
        have h := HO2Z1.out.nums.at (show y < n * 1 by omega)
        simpa [hyz] using h
      obtain ⟨_, cur', hcc, _, hcur⟩ := HO2Z1.out.at (by omega)
      cases hcc
      have q1 := heap_frozen hcur y
      obtain ⟨Z2, hz⟩ : ∃ zz, Z1.setCell ⟨g2, y, none⟩ (.int .i64 (S (y + 1) + p)) = zz := ⟨_, rfl⟩
      have HCZ2 : Hid (Z2.heap[W1.heap.size]? = some (cansB a1 n c1 (some ⟨g2, 0, none⟩) n c2 (S 0))) := Lib.hid (by rw [← hz]; exact (setCell_other (by have := HGL.out; dsimp only; omega)).trans HCZ1.out)
      have HO1Z2 : Hid (OwnNums Z2 W.heap.size 3 1 a1 n c1 A) := Lib.hid (by rw [← hz]; exact HO1Z1.out.kept (fun x hx => setCell_other (by have := HAP.out _ x rfl hx; dsimp only at *; omega)))
      have HO2Z2 : Hid (OwnNums Z2 W.heap.size 3 1 (some ⟨g2, 0, none⟩) n c2 (fun q => if q = y then S (y + 1) + p else if q = z then S (z + 1) - p else S (q + 1))) := Lib.hid (by rw [← hz]; exact HO2Z1.out.put (by omega) rfl)
      have HYZ2 : Hid (Z2.heap[w.heap.size + 1]? = some (pourB ((z + 1 : Nat) : Int) ((y + 1 : Nat) : Int))) := Lib.hid (by rw [← hz]; exact (setCell_other (by have := HG2.out; have := HSZ.out; dsimp only; omega)).trans HYZ1.out)
      have HRZ2 : Hid (Z2.heap[w.heap.size + 1 + 1]? = some (cansB none 0 0 none 0 0 0)) := Lib.hid (by rw [← hz]; exact (setCell_other (by have := HG2.out; have := HSZ.out; dsimp only; omega)).trans HRZ1.out)
      have HBZ2 : Hid (Below w.heap.size w Z2) := Lib.hid (by rw [← hz]; exact HBZ1.out.setCell (by have := HG2.out; have := HSZ.out; dsimp only; omega) _)
      go_upto_region 8 with fail
      try rw [hz]
      clear hz q0 q1 hcur
      clear y0 y1 k0 k1 k2 kf
      have y0 := heap_cell HYZ2.out (v := .int .i64 ((z + 1 : Nat) : Int)) (j := 0) rfl
      have y1 := heap_cell HYZ2.out (v := .int .i64 ((y + 1 : Nat) : Int)) (j := 1) rfl
      have k0 := heap_cell HCZ2.out (v := .slice a1 n c1) (j := 0) rfl
      have k1 := heap_cell HCZ2.out (v := .slice (some ⟨g2, 0, none⟩) n c2) (j := 1) rfl
      have k2 := heap_cell HCZ2.out (v := .int .i64 (S 0)) (j := 2) rfl
      have kf := heap_frozen HCZ2.out 2
      have r0 := heap_cell HRZ2.out (j := 0) rfl
      have r1 := heap_cell HRZ2.out (j := 1) rfl
      have r2 := heap_cell HRZ2.out (j := 2) rfl
      have s0 := heap_frozen HRZ2.out 0
      have s1 := heap_frozen HRZ2.out 1
      have s2 := heap_frozen HRZ2.out 2
      obtain ⟨V, hV⟩ : ∃ zz, ((Z2.setCell ⟨w.heap.size + 1 + 1, 0, none⟩ (.slice a1 n c1)).setCell ⟨w.heap.size + 1 + 1, 1, none⟩ (.slice (some ⟨g2, 0, none⟩) n c2)).setCell ⟨w.heap.size + 1 + 1, 2, none⟩ (.int .i64 (S 0)) = zz := ⟨_, rfl⟩
      have hv : V.heap[w.heap.size + 1 + 1]? = some (cansB a1 n c1 (some ⟨g2, 0, none⟩) n c2 (S 0)) := by rw [← hV]; exact heap_set (heap_set (heap_set HRZ2.out 0 _) 1 _) 2 _
      have v0 := heap_cell hv (j := 0) rfl
      have v1 := heap_cell hv (j := 1) rfl
      have v2 := heap_cell hv (j := 2) rfl
      have hv1 : OwnNums V W.heap.size 3 1 a1 n c1 A := by rw [← hV]; have h := HSZ.out; exact ((HO1Z2.out.set (by dsimp only; omega) _).set (by dsimp only; omega) _).set (by dsimp only; omega) _
      have hv2 : OwnNums V W.heap.size 3 1 (some ⟨g2, 0, none⟩) n c2 (fun q => if q = y then S (y + 1) + p else if q = z then S (z + 1) - p else S (q + 1)) := by rw [← hV]; have h := HSZ.out; exact ((HO2Z2.out.set (by dsimp only; omega) _).set (by dsimp only; omega) _).set (by dsimp only; omega) _
      have hvb : Below w.heap.size w V := by rw [← hV]; exact ((HBZ2.out.setCell (by dsimp only; omega) _).setCell (by dsimp only; omega) _).setCell (by dsimp only; omega) _
      have HV1 := Lib.hid hv1
      have HV2 := Lib.hid hv2
      have HVB := Lib.hid hvb
      clear hv hv1 hv2 hvb
      go_wp2_with fail
      try rw [hV]
      have hsz := HSZ.out
      refine bodyPost_ret (v := cansV a1 n c1 (some ⟨g2, 0, none⟩) n c2 (S 0)) (by simp [results, Try.results17, go_sem, v0, v1, v2]; try rfl) rfl ⟨a1, c1, some ⟨g2, 0, none⟩, c2, ?_, OwnNums.base HV1.out (by omega), (OwnNums.base HV2.out (by omega)).congr (fun q hq => ?_), HAP.out, HVB.out⟩
      · unfold Pure.movedS
        rw [if_neg (by omega), if_neg (by omega)]
      · unfold Pure.movedS
        grind
end Go.Proofs.Ytjemcmehgkhhlaa
