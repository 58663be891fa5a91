/-
  The contract of the specification's Likely.
-/
import Derived.Test.YtmpbdbfflbdppaaRCan
import Derived.Deep.QuietTactic
namespace Go.Proofs.Ytmpbdbfflbdppaa
open Go.RowKit Go.Shelf

namespace Pure
theorem take_snoc {L : List Int} {k : Nat} {x : Int} (h : L[k]? = .some x) : L.take (k + 1) = L.take k ++ [x] := by
  rw [List.take_add_one, h]
  rfl
theorem take_all {L : List Int} {k : Nat} (h : L.length ≤ k) : L.take k = L := List.take_of_length_le h
end Pure

theorem below_drewN {B : Nat} {w w' : World} (h : Below B w w') (k : Nat) : Below B w (w'.drewN k) := ⟨h.os, h.tape, h.output, h.size, h.block⟩
theorem row_drew {w : World} {base size n : Nat} {e : TypeId} {v : Value} {xs : List Value} (h : w.ownsRow base e size v n xs) (k : Nat) : (w.drewN k).ownsRow base e size v n xs := h
theorem rCount_quiet (b d o f : Int) (hb0 : 0 ≤ b) (hb : b ≤ 36) (hd0 : -36 ≤ d) (hd : d ≤ 36) (hbd : b - d ≤ 36) (ho0 : 0 ≤ o) (ho : o ≤ 36) (hf0 : -36 ≤ f) (hf : f ≤ 36) (w : World) :
    Calls Try.prog 58 #[.int .i64 b, .int .i64 d, .int .i64 o, .int .i64 f] w fun e w' => e = .returned (.int .i64 (Pure.ways b d o f)) ∧ w' = w :=
  (rCount_any b d o f hb0 hb hd0 hd hbd ho0 ho hf0 hf w).mono fun _ _ h => ⟨h.1, h.2.symm⟩

set_option maxHeartbeats 4000000 in
set_option maxRecDepth 100000 in
theorem rLikely_any (b lo hi o f : Int) (w : World) :
    Calls Try.prog 20 #[cargoV b lo hi, .agg #[.int .i64 o, .int .i64 f]] w fun e w' => ∃ v, e = .returned (.tuple #[v, .int .i64 (Pure.canE b lo hi o f)]) ∧ IntsAt w' v (Pure.likelyL b lo hi o f) ∧ Below w.heap.size w w' := by
  obtain ⟨i0, hi0, hz0, hz1, hz2⟩ := info_parts infoInt
  go_enter Try.func20, Try.ntmps20
  go_wp2_with fail
  obtain ⟨W1, hW1⟩ : ∃ W1, (w.alloc (.cells #[.int .i64 b, .int .i64 lo, .int .i64 hi] 25)).alloc (.cells #[.int .i64 o, .int .i64 f] 27) = W1 := ⟨_, rfl⟩
  have hB1 : Below w.heap.size w W1 := by rw [← hW1]; exact ((Below.refl _ _).alloc (Nat.le_refl _) _).alloc (by simp) _
  have hc1 : W1.heap[w.heap.size]? = some (.cells #[.int .i64 b, .int .i64 lo, .int .i64 hi] 25) := by rw [← hW1]; exact heap_up (heap_top _ _ rfl) _
  have hd1 : W1.heap[w.heap.size + 1]? = some (.cells #[.int .i64 o, .int .i64 f] 27) := by rw [← hW1]; exact heap_top _ _ (by simp)
  rw [hW1]
  have HC1 := Lib.hid hc1
  have HD1 := Lib.hid hd1
  have HB1 := Lib.hid hB1
  clear hW1 hB1 hc1 hd1
  refine (rKnown_any b lo hi o f _).mono ?_
  rintro e W2 ⟨v, rfl, hints, hb⟩
  have HC2 := Lib.hid ((hb.block _ (Array.getElem?_eq_some_iff.1 HC1.out).1).trans HC1.out)
  have HD2 := Lib.hid ((hb.block _ (Array.getElem?_eq_some_iff.1 HD1.out).1).trans HD1.out)
  have HB := Lib.hid (HB1.out.trans (hb.mono HB1.out.size))
  have HI := Lib.hid hints
  obtain ⟨code, hcode⟩ : ∃ c, Pure.canE b lo hi o f = c := ⟨_, rfl⟩
  have HCODE := Lib.hid hcode
  rw [hcode]
  clear hb hints hcode
  by_cases h0 : code = 0
  · subst h0
    obtain ⟨m, hm⟩ := Pure.known_some HCODE.out
    obtain ⟨q1, q2, _, _⟩ := Pure.afterE_zero HCODE.out
    have hL := HI.out
    rw [Pure.knownL_zero HCODE.out] at hL
    have HLK : Hid (Pure.likelyL b lo hi o f = Pure.best (fun x => Pure.ways b x o f) (Pure.nums b.toNat lo hi o f)) := Lib.hid (by rw [Pure.likelyL_zero HCODE.out]; unfold Pure.likely; rw [show ((b.toNat : Nat) : Int) = b by omega])
    have hm63 : m + 1 ≤ 37 := by
      have h1 := Pure.nums_length b.toNat lo hi o f
      omega
    have HMEM : Hid (∀ x ∈ Pure.nums b.toNat lo hi o f, 0 ≤ x ∧ x ≤ 36) := Lib.hid (fun x hx => by have := (Pure.mem_nums.1 hx).1; omega)
    obtain ⟨L, hLL⟩ : ∃ L, Pure.nums b.toNat lo hi o f = L := ⟨_, rfl⟩
    rw [hLL] at hm hL HLK HMEM
    clear hLL
    obtain ⟨vf, hvf⟩ : ∃ vf : Int → Int, (fun x => Pure.ways b x o f) = vf := ⟨_, rfl⟩
    have HVF : Hid (∀ x, vf x = Pure.ways b x o f) := Lib.hid (fun x => by rw [← hvf])
    rw [hvf] at HLK
    clear hvf
    obtain ⟨a, cap, hv, hcells⟩ := hL
    obtain ⟨g, hg, hg2⟩ := hcells 0 L[0] (List.getElem?_eq_getElem (by omega))
    clear hg2
    subst hg
    have HCELL : Hid (∀ j x, L[j]? = some x → W2.cell? ⟨g, j, none⟩ = some (.int .i64 x)) := Lib.hid (fun j x hj => by
      obtain ⟨g', e, hc⟩ := hcells j x hj
      cases e
      exact hc)
    rw [hm] at hv
    subst hv
    have HM := Lib.hid hm
    clear hcells hm
    go_wp2_with fail
    go_loopw [8, 9] (fun mo i wr => ∃ k : Nat, k ≤ m + 1 ∧ i = .int .i64 k ∧ mo = .int .i64 (Pure.most vf (L.take k)) ∧ Below W2.heap.size W2 wr) (fun _ i _ => m + 1 - (intOf i).toNat)
    case atStart => exact ⟨0, Nat.zero_le _, rfl, rfl, Below.refl _ _⟩
    case round =>
      obtain ⟨k, hk, rfl, rfl, hbw⟩ := hrel
      by_cases hlt : k < m + 1
      · obtain ⟨x, hx⟩ : ∃ x, L[k]? = some x := ⟨L[k]'(by have := HM.out; omega), List.getElem?_eq_getElem (by have := HM.out; omega)⟩
        have hxm := HMEM.out x (List.mem_of_getElem? hx)
        have hx0 := hxm.1
        have hx1 := hxm.2
        have gx := below_cell hbw (HCELL.out k x hx)
        have c0 := below_cell hbw (heap_cell HC2.out (j := 0) rfl)
        have d0 := below_cell hbw (heap_cell HD2.out (j := 0) rfl)
        have d1 := below_cell hbw (heap_cell HD2.out (j := 1) rfl)
        have HCALL : Hid (∀ W, Calls Try.prog 58 #[.int .i64 b, .int .i64 x, .int .i64 o, .int .i64 f] W fun e w' => e = .returned (.int .i64 (vf x)) ∧ w' = W) := Lib.hid (fun W => by rw [HVF.out]; exact rCount_quiet b x o f (by omega) (by omega) (by omega) (by omega) (by omega) (by omega) (by omega) (by omega) (by omega) W)
        have HNX : Hid (Pure.most vf (L.take (k + 1)) = max (Pure.most vf (L.take k)) (vf x)) := Lib.hid (by rw [Pure.take_snoc hx, Pure.most_snoc])
        obtain ⟨mo, hmo⟩ : ∃ y, Pure.most vf (L.take k) = y := ⟨_, rfl⟩
        obtain ⟨vx, hvx⟩ : ∃ y, vf x = y := ⟨_, rfl⟩
        rw [hmo, hvx] at HNX
        rw [hvx] at HCALL
        rw [hmo]
        have HBW := Lib.hid hbw
        clear hmo hvx hx hxm hbw
        by_cases hmx : mo < vx
        · go_wp2_with fail
          go_quiet ((go_at_call 58; exact Calls.quiet_of_same (HCALL.out _)))
          go_wp2_with fail
          go_roundw
          case rel => exact ⟨k + 1, by omega, by go_num, by rw [HNX.out, Int.max_eq_right (by omega)], below_drewN HBW.out _⟩
          case measure => simp [intOf]; omega
        · go_wp2_with fail
          go_quiet ((go_at_call 58; exact Calls.quiet_of_same (HCALL.out _)))
          go_wp2_with fail
          go_roundw
          case rel => exact ⟨k + 1, by omega, by go_num, by rw [HNX.out, Int.max_eq_left (by omega)], below_drewN HBW.out _⟩
          case measure => simp [intOf]; omega
      · obtain rfl : k = m + 1 := by omega
        rw [Pure.take_all (by have := HM.out; omega)]
        have HBE : Hid (Pure.best vf L = L.filter (fun x => vf x == Pure.most vf L)) := Lib.hid rfl
        obtain ⟨mo, hmo⟩ : ∃ y, Pure.most vf L = y := ⟨_, rfl⟩
        rw [hmo] at HBE ⊢
        have HBW := Lib.hid hbw
        clear hmo hbw
        go_wp2_with fail
        go_loopw [10, 11] (fun v i wq => ∃ k : Nat, k ≤ m + 1 ∧ i = .int .i64 k ∧ wq.ownsRow W2.heap.size 3 1 v ((L.take k).filter (fun x => vf x == mo)).length (((L.take k).filter (fun x => vf x == mo)).map (Value.int .i64)) ∧ Below W2.heap.size W2 wq) (fun _ i _ => m + 1 - (intOf i).toNat)
        case atStart => exact ⟨0, Nat.zero_le _, rfl, World.ownsRow_nil _ _ _ _, HBW.out⟩
        case round =>
          obtain ⟨k, hk, rfl, hown, hbq⟩ := hrel
          by_cases hlt : k < m + 1
          · obtain ⟨x, hx⟩ : ∃ x, L[k]? = some x := ⟨L[k]'(by have := HM.out; omega), List.getElem?_eq_getElem (by have := HM.out; omega)⟩
            have hxm := HMEM.out x (List.mem_of_getElem? hx)
            have hx0 := hxm.1
            have hx1 := hxm.2
            have gx := below_cell hbq (HCELL.out k x hx)
            have c0 := below_cell hbq (heap_cell HC2.out (j := 0) rfl)
            have d0 := below_cell hbq (heap_cell HD2.out (j := 0) rfl)
            have d1 := below_cell hbq (heap_cell HD2.out (j := 1) rfl)
            have HCALL : Hid (∀ W, Calls Try.prog 58 #[.int .i64 b, .int .i64 x, .int .i64 o, .int .i64 f] W fun e w' => e = .returned (.int .i64 (vf x)) ∧ w' = W) := Lib.hid (fun W => by rw [HVF.out]; exact rCount_quiet b x o f (by omega) (by omega) (by omega) (by omega) (by omega) (by omega) (by omega) (by omega) (by omega) W)
            have HNX : Hid ((L.take (k + 1)).filter (fun x => vf x == mo) = (L.take k).filter (fun x => vf x == mo) ++ (if (vf x == mo) then [x] else [])) := Lib.hid (by rw [Pure.take_snoc hx, filter_snoc])
            have HLEN : Hid (((L.take k).filter (fun x => vf x == mo)).length ≤ 37) := Lib.hid (Nat.le_trans (List.length_filter_le _ _) (Nat.le_trans (List.length_take_le _ _) (by omega)))
            obtain ⟨xs, hxs⟩ : ∃ y, (L.take k).filter (fun x => vf x == mo) = y := ⟨_, rfl⟩
            obtain ⟨vx, hvx⟩ : ∃ y, vf x = y := ⟨_, rfl⟩
            rw [hvx, hxs] at HNX
            rw [hvx] at HCALL
            rw [hxs] at hown HLEN
            have HBQ := Lib.hid hbq
            have HOWN := Lib.hid hown
            have GX := Lib.hid (HCELL.out k x hx)
            clear hxs hvx hx hxm hbq hown
            by_cases hmx : vx = mo
            · subst hmx
              have HEQ : Hid ((L.take (k + 1)).filter (fun x => vf x == vx) = xs ++ [x]) := Lib.hid (by rw [HNX.out]; simp)
              clear HNX
              go_wp2_with fail
              go_quiet ((go_at_call 58; exact Calls.quiet_of_same (HCALL.out _)))
              go_wp2_with (at_builtin; refine wpList_append_own _ rfl _ _ 39 rfl W2.heap.size 3 i0 (.int .i64 0) 1 8 Try.underlying39 hi0 hz0 hz1 hz2 rfl (by decide) _ _ _ rfl (World.ownsRow.alloc (row_drew HOWN.out _) _) ⟨wr.heap.size, 0, none⟩ 1 1 [.int .i64 x] rfl rfl (cell_one _ _ _ (by simp)) (by simp [Value.oneCell']) (by have := HLEN.out; unfold maxLen; omega) (by have := HLEN.out; omega) (by have := HBQ.out.size; simp; omega) ?_; intro v' w1 hown' hgrow _)
              have hlt2 := HOWN.out.lt
              have HOWN2 := Lib.hid hown'
              have HB2 := Lib.hid (((below_drewN HBQ.out _).alloc (by have := HBQ.out.size; simp; omega) (.cells #[.int .i64 x] 3)).grown hgrow (by have := HBQ.out.size; simp; omega) (fun k e => (hlt2 k e).1))
              clear hown' hgrow hlt2
              go_wp2_with fail
              go_roundw
              case rel =>
                (repeat apply Exists.intro)
                refine ⟨⟨k + 1, by omega, by go_num, ?_, HB2.out⟩, rfl⟩
                rw [HEQ.out]
                simpa using HOWN2.out
              case measure => simp [intOf]; omega
            · have hne : (vx == mo) = false := by simpa using hmx
              have HEQ : Hid ((L.take (k + 1)).filter (fun x => vf x == mo) = xs) := Lib.hid (by rw [HNX.out, hne]; simp)
              clear HNX
              go_wp2_with fail
              go_quiet ((go_at_call 58; exact Calls.quiet_of_same (HCALL.out _)))
              go_wp2_with fail
              go_roundw
              case rel => exact ⟨k + 1, by omega, by go_num, by rw [HEQ.out]; exact row_drew HOWN.out _, below_drewN HBQ.out _⟩
              case measure => simp [intOf]; omega
          · obtain rfl : k = m + 1 := by omega
            have hI := IntsAt.of_row hown
            rw [Pure.take_all (by have := HM.out; omega), ← HBE.out, ← HLK.out] at hI
            have HIO := Lib.hid hI
            have HBQ := Lib.hid hbq
            clear hown hI hbq
            go_wp2_with fail
            go_ret2
            exact ⟨_, by rw [HCODE.out]; rfl, HIO.out, HB.out.trans (HBQ.out.mono HB.out.size)⟩
  · have hne : (code != 0) = true := by simpa using h0
    have H0 := Lib.hid h0
    clear h0
    go_wp2_with fail
    go_ret2
    exact ⟨.slice none 0 0, by rw [HCODE.out]; rfl, by rw [Pure.likelyL_err (by rw [HCODE.out]; exact H0.out)]; exact IntsAt.nil _ _, HB.out⟩

end Go.Proofs.Ytmpbdbfflbdppaa
