/-
  The contracts of the closure that looks for a note's place, and of slices.BinarySearchFunc at notes.
-/
import Derived.Test.YtijfdfplebbaaaaGreatUClone
namespace Go.Proofs.YtijfdfplebbaaaaGreat
open Go.RowKit

theorem seek_any (x : NoteX) (t : Int) (w : World) : Calls Tryz.prog 19 #[tnoteV x, .int .i64 t] w fun e w' => e = .returned (.int .i64 (Pure.cmp x.n t)) ∧ Below w.heap.size w w' := by
  go_enter Tryz.func19, Tryz.ntmps19
  go_wp2_with fail
  refine (compare_any _ _ _).mono ?_
  rintro e w' ⟨rfl, rfl⟩
  go_wp2_with fail
  go_ret
  exact ⟨rfl, below_new _ _⟩
set_option maxHeartbeats 2000000 in
set_option maxRecDepth 100000 in
theorem search_any (a : Option Addr) (len cap : Nat) (N : Nat → NoteX) (t : Int) (hl : len ≤ 40) (hsort : ∀ m n, m < n → n < len → (N m).n < (N n).n) (w : World) (h : NotesAt w a len N) :
    Calls Tryz.prog 18 #[.slice a len cap, .int .i64 t, .func (.func 19) #[] #[]] w fun e w' =>
      ∃ (i : Nat) (b : Bool), e = .returned (.tuple #[.int .i64 i, .bool b]) ∧ i ≤ len ∧ (∀ m, m < i → (N m).n < t) ∧ (∀ m, i ≤ m → m < len → t ≤ (N m).n) ∧ Below w.heap.size w w' := by
  have HN := Lib.hid h
  have HS := Lib.hid hsort
  clear h hsort
  go_enter Tryz.func18, Tryz.ntmps18
  go_wp2_with fail
  go_loopw [9, 10] (fun i j wr => ∃ x y : Nat, x ≤ y ∧ y ≤ len ∧ i = .int .i64 x ∧ j = .int .i64 y ∧ (∀ m, m < x → (N m).n < t) ∧ (∀ m, y ≤ m → m < len → t ≤ (N m).n) ∧ Below w.heap.size w wr) (fun i j _ => (intOf j).toNat - (intOf i).toNat)
  case atStart => exact ⟨0, len, by omega, by omega, rfl, rfl, fun m hm => by omega, fun m hm hm2 => by omega, Below.refl _ _⟩
  case round =>
    obtain ⟨x, y, hxy, hyl, rfl, rfl, q1, q2, hb⟩ := hrel
    have HQ := Lib.hid (And.intro q1 q2)
    have HB := Lib.hid hb
    clear q1 q2 hb
    by_cases hlt : x < y
    · obtain ⟨z, hz⟩ : ∃ z : Nat, z = (x + y) / 2 := ⟨_, rfl⟩
      have hz1 : x ≤ z := by omega
      have hz2 : z < y := by omega
      have HZ := Lib.hid hz
      have e1 : IntKind.u64.wrap ((x : Int) + y) = (x : Int) + y := by unfold IntKind.wrap; simp [IntKind.bits, IntKind.signed]; omega
      have e2 : ((x : Int) + y) / 2 = z := by omega
      clear hz
      obtain ⟨b, off, h9, _⟩ := HN.out z (by omega)
      subst h9
      have cc := (HN.out.below HB.out).at (show z < len by omega)
      have c0 := cc.c0
      have c1 := cc.c1
      have c2 := cc.c2
      have c3 := cc.c3
      have c4 := cc.c4
      have c5 := cc.c5
      have c6 := cc.c6
      clear cc
      go_wp2_with fail
      refine (seek_any _ _ _).mono ?_
      rintro e u ⟨rfl, hb⟩
      have HB2 := Lib.hid (below_thn HB.out hb)
      clear hb c0 c1 c2 c3 c4 c5 c6
      by_cases hc : (N z).n < t
      · have hcm : Pure.cmp ((N z).n) t = -1 := by unfold Pure.cmp; rw [if_pos hc]
        rw [hcm]
        have HC := Lib.hid hc
        clear hcm hc
        go_wp2_with fail
        go_roundw
        case rel => exact ⟨z + 1, y, by omega, hyl, by go_num, rfl, fun m hm => by
          by_cases e : m = z
          · subst e; exact HC.out
          · have := HS.out m z (by omega) (by omega); have := HC.out; omega, HQ.out.2, HB2.out⟩
        case measure => simp [intOf]; omega
      · have hcm : (Pure.cmp ((N z).n) t < 0) = False := by
          unfold Pure.cmp
          rw [if_neg hc]
          split <;> simp
        obtain ⟨cv, hcv⟩ : ∃ v, Pure.cmp ((N z).n) t = v := ⟨_, rfl⟩
        rw [hcv] at hcm ⊢
        have hcn : ¬ cv < 0 := by rw [hcm]; simp
        have HC := Lib.hid hc
        clear hcm hc hcv
        go_wp2_with fail
        go_roundw
        case rel => exact ⟨x, z, hz1, by omega, rfl, rfl, HQ.out.1, fun m hm hm2 => by
          have hc := HC.out
          by_cases e : m = z
          · subst e; omega
          · have := HS.out z m (by omega) (by omega); omega, HB2.out⟩
        case measure => simp [intOf]; omega
    · obtain rfl : x = y := by omega
      by_cases hx : x < len
      · have hxl : (x : Int) < len := by omega
        obtain ⟨b, off, h9, _⟩ := HN.out x (by omega)
        subst h9
        have cc := (HN.out.below HB.out).at (show x < len by omega)
        have c0 := cc.c0
        have c1 := cc.c1
        have c2 := cc.c2
        have c3 := cc.c3
        have c4 := cc.c4
        have c5 := cc.c5
        have c6 := cc.c6
        clear cc
        go_wp2_with fail
        refine (seek_any _ _ _).mono ?_
        rintro e u ⟨rfl, hb⟩
        have HB2 := Lib.hid (below_thn HB.out hb)
        clear hb c0 c1 c2 c3 c4 c5 c6
        obtain ⟨cv, hcv⟩ : ∃ v, Pure.cmp ((N x).n) t = v := ⟨_, rfl⟩
        rw [hcv]
        clear hcv
        go_wp2_with fail
        refine bodyPost_ret (v := .tuple #[.int .i64 x, .bool (cv == 0)]) (by simp [results, Tryz.results18, go_sem]) rfl ⟨x, _, rfl, by omega, HQ.out.1, HQ.out.2, HB2.out⟩
      · have hxl : ¬ (x : Int) < len := by omega
        go_wp2_with fail
        refine bodyPost_ret (v := .tuple #[.int .i64 x, .bool false]) (by simp [results, Tryz.results18, go_sem]) rfl ?_
        exact ⟨x, .inl rfl, by omega, HQ.out.1, HQ.out.2, HB.out⟩

end Go.Proofs.YtijfdfplebbaaaaGreat
