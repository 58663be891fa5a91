/-
  The contract of eighth.
-/
import Derived.Test.YtpgpebgimmaobaaTOrder
namespace Go.Proofs.Ytpgpebgimmaobaa
open Go.RowKit

set_option maxHeartbeats 2000000 in
set_option maxRecDepth 100000 in
/-- **eighth**. -/
theorem eighth_any (a : Option Addr) (len cap : Nat) (F : Nat → Int) (lk ft p : Int) (hok : Pure.OkTank len F lk ft) (p0 : 0 ≤ p) (p1 : p ≤ F (len - 1)) (w : World) (h : NumsAt w a len F) :
    Calls Try.prog 25 #[tankV a len cap lk ft, .int .i64 p] w fun x w' => x = .returned (.agg #[.int .i64 (Pure.eighthN F p (Pure.seek F p (len - 2) 0)), .int .i64 (Pure.eighthD F p (Pure.seek F p (len - 2) 0))]) ∧ Below w.heap.size w w' := by
  obtain ⟨hl2, hl21⟩ := hok.1
  obtain ⟨I, hI⟩ : ∃ I, Pure.seek F p (len - 2) 0 = I := ⟨_, rfl⟩
  rw [hI]
  have HOK := Lib.hid hok
  have HI := Lib.hid hI
  have p2 : p ≤ 600 := by have := Pure.table_ge hok (i := len - 1) (by omega); omega
  have HP := Lib.hid p1
  obtain ⟨b, off, rfl⟩ := h.some (by omega)
  have HN := Lib.hid (h.alloc (tankB (some ⟨b, off, none⟩) len cap lk ft) |>.alloc (.cells #[.int .i64 0, .int .i64 0] 30))
  clear h hI hok p1
  go_enter Try.func25, Try.ntmps25
  go_wp2_with fail
  obtain ⟨W1, hW1⟩ : ∃ W, ((w.alloc (tankB (some ⟨b, off, none⟩) len cap lk ft)).alloc (.cells #[.int .i64 0, .int .i64 0] 30)) = W := ⟨_, rfl⟩
  have HB1 : Hid (Below w.heap.size w W1) := Lib.hid (by rw [← hW1]; exact ((Below.refl _ _).alloc (Nat.le_refl _) _).alloc (by simp) _)
  have HBX : Hid (W1.heap[w.heap.size]? = some (tankB (some ⟨b, off, none⟩) len cap lk ft) ∧ W1.heap[w.heap.size + 1]? = some (.cells #[.int .i64 0, .int .i64 0] 30)) := Lib.hid (by rw [← hW1]; exact ⟨heap_up (heap_top _ _ rfl) _, heap_top _ _ (by simp)⟩)
  rw [hW1] at HN
  rw [hW1]
  clear hW1
  have t0 := heap_cell HBX.out.1 (j := 0) rfl
  go_loop [5] (fun i => ∃ k : Nat, i = .int .i64 k ∧ k + 2 ≤ len ∧ Pure.seek F p (len - 2 - k) k = I) (fun i => len - (intOf i).toNat)
  case atStart => exact ⟨0, rfl, by omega, HI.out⟩
  case round =>
    obtain ⟨k, rfl, hk, hs⟩ := hrel
    have HS := Lib.hid hs
    have k1 : (k : Int) + 1 < len := by omega
    have c1 := HN.out.at (show k + 1 < len by omega)
    clear hs
    by_cases hlt : F (k + 1) < p
    · go_wp2_with fail
      go_round
      case rel => exact ⟨k + 1, by go_num, by
        have := HP.out
        by_cases e : k + 2 = len
        · rw [← e] at this
          have : p ≤ F (k + 1) := this
          omega
        · omega, by
        have h1 := HS.out
        have h2 := HP.out
        by_cases e : k + 2 = len
        · rw [← e] at h2
          have : p ≤ F (k + 1) := h2
          omega
        · rw [show len - 2 - k = (len - 2 - (k + 1)) + 1 by omega, Pure.seek_step hlt] at h1
          exact h1⟩
      case measure => simp [intOf]; omega
    · have hIk : I = k := by rw [← HS.out, Pure.seek_stop hlt]
      subst hIk
      go_wp2_with fail
      have hsp := Pure.seek_spec (F := F) (p := p) (len - 2) 0 (by rw [show 0 + (len - 2) + 1 = len - 1 by omega]; exact HP.out) (.inl rfl)
      rw [HI.out] at hsp
      have hfi : F I ≤ p := by
        rcases hsp.2.1 with h0 | h0
        · have := HOK.out.2.1.1
          rw [h0, this]; exact p0
        · omega
      obtain ⟨n0, n1, d0, d1⟩ := Pure.num_span HOK.out (show I + 1 < len by omega) hfi HP.out
      obtain ⟨y0, y1⟩ := Pure.table_ge HOK.out (i := I) (by omega)
      obtain ⟨y2, y3⟩ := Pure.table_ge HOK.out (i := I + 1) (by omega)
      have c0 := HN.out.at (show I < len by omega)
      unfold Pure.numE at n0 n1
      unfold Pure.denE at d0 d1
      have HE : Hid (Pure.eighthN F p I = (8 * ((I : Int) * (F (I + 1) - F I) + p - F I)) / Pure.gcd (8 * ((I : Int) * (F (I + 1) - F I) + p - F I)) (F (I + 1) - F I) ∧ Pure.eighthD F p I = (F (I + 1) - F I) / Pure.gcd (8 * ((I : Int) * (F (I + 1) - F I) + p - F I)) (F (I + 1) - F I)) := Lib.hid ⟨rfl, rfl⟩
      obtain ⟨f, hf⟩ : ∃ f, F I = f := ⟨_, rfl⟩
      obtain ⟨g, hg⟩ : ∃ g, F (I + 1) = g := ⟨_, rfl⟩
      rw [hf, hg] at HE n0 n1 d0 d1
      rw [hg] at c1 hlt y2 y3
      rw [hf] at c0 y0 y1 hfi
      rw [hg]
      clear hf hg hsp
      have k3 : (I : Int) < len := by omega
      have k4 : (I : Int) ≤ 21 := by omega
      have m1 := Int.mul_le_mul (show (I : Int) ≤ 21 by omega) (show g - f ≤ 600 by omega) (by omega) (by omega)
      have m2 := Int.mul_nonneg (show 0 ≤ (I : Int) by omega) (show 0 ≤ g - f by omega)
      have q2 : IntKind.i64.wrap ((I : Int) + 1) = (I : Int) + 1 := IntWalk.i64_in _ (by omega)
      have q3 : ((I : Int) + 1).toNat = I + 1 := by omega
      have q4 : IntKind.i64.wrap (g - f) = g - f := IntWalk.i64_in _ (by omega)
      have HM := Lib.hid m1
      have x0 := among_below c0
      have x1 := among_below c1
      have x2 := among_below t0
      have HSt : Hid (Below W1.heap.size W1 W1.drew) := Lib.hid (Below.refl _ _).drew
      have hne : Nonempty (Among (Below W1.heap.size W1)) := ⟨⟨_, HSt.out⟩⟩
      clear c0 c1 t0 m1
      refine wp_region_class (Below W1.heap.size W1) (by kernel_rfl) (by kernel_rfl) HSt.out ?_
      repeat (go_big_quiet_step (fail))
      refine wpQuiet_nil ?_
      intro w3 hx
      have hb3 := among_out hx
      have HB3 := Lib.hid hb3
      clear hx hne x0 x1 x2 q2 q3 q4 hb3
      have m3 : (I : Int) * (g - f) ≤ 12600 := by have := HM.out; omega
      obtain ⟨num, hnum⟩ : ∃ num, 8 * ((I : Int) * (g - f) + p - f) = num := ⟨_, rfl⟩
      have HNUM := Lib.hid hnum
      rw [hnum] at n0 n1 HE
      clear hnum
      go_wp2_with fail
      rw [HNUM.out]
      refine (part_any num (g - f) n0 (by omega) d0 (by omega) _).mono ?_
      rintro e w4 ⟨rfl, hb4⟩
      have hb := below_thn HB3.out hb4
      have hr2 := heap_lft HBX.out.2 hb
      have r0 := heap_cell hr2 (j := 0) rfl
      have r1 := heap_cell hr2 (j := 1) rfl
      have f0 := heap_frozen hr2 0
      have f1 := heap_frozen hr2 1
      have HB4 := Lib.hid (below_thn HB1.out hb)
      clear hb hb4 hr2
      go_wp2_with fail
      refine bodyPost_ret (v := .agg #[.int .i64 (Pure.eighthN F p I), .int .i64 (Pure.eighthD F p I)]) (by simp [results, Try.results25, go_sem, r0, r1, HE.out.1, HE.out.2]) rfl ⟨rfl, ?_⟩
      exact (HB4.out.setCell (p := ⟨w.heap.size + 1, 0, none⟩) (by simp) _).setCell (p := ⟨w.heap.size + 1, 1, none⟩) (by simp) _
end Go.Proofs.Ytpgpebgimmaobaa
