/-
  WheelTeeth: the law's walk.
-/
import Derived.Test.YtiiekecohmaipaaMRStr
namespace Go.Proofs.Ytiiekecohmaipaa
open Go.RowKit

set_option maxRecDepth 100000 in
set_option maxHeartbeats 4000000 in
theorem teeth_walk (x y t : Int) (w : World) :
    Calls Try.prog 3 #[.int .i64 x, .int .i64 y, .int .i64 t] w fun e w' => e = .returned (.bool true) ∧ Below w.heap.size w w' := by
  go_enter Try.func3, Try.ntmps3
  go_wp2_with fail
  refine (meet_any x y w).mono ?_
  rintro e W1 ⟨t1, o1, e1, rfl, hm1, hb1⟩
  have HM1 := Lib.hid hm1
  have HB1 := Lib.hid hb1
  clear hm1 hb1
  go_wp2_with fail
  refine (rMeet_any x y W1).mono ?_
  rintro e W2 ⟨t2, o2, e2, rfl, hm2, hb2⟩
  obtain ⟨rfl, rfl, rfl⟩ := HM1.out.same hm2
  have HB2 := Lib.hid (below_thn HB1.out hb2)
  clear hm2 hb2 HM1
  go_wp2_with fail
  refine (strikes_any x y t W2).mono ?_
  rintro e W3 ⟨a1, c1, L1, er1, rfl, hs1, hl1, hn1, hb3⟩
  have HS1 := Lib.hid hs1
  have HB3 := Lib.hid (below_thn HB2.out hb3)
  have HN1 := Lib.hid hn1
  have HL := Lib.hid hl1
  clear hs1 hn1 hb3 hl1
  go_wp2_with fail
  refine (rStrikes_any x y t W3).mono ?_
  rintro e W4 ⟨a2, c2, L2, er2, rfl, hs2, _, hn2, hb4⟩
  obtain ⟨rfl, rfl⟩ := HS1.out.same hs2
  have HB4 := Lib.hid (below_thn HB3.out hb4)
  have HN1b := Lib.hid (HN1.out.below hb4)
  have HN2 := Lib.hid hn2
  clear hs2 hn2 hb4 HS1
  go_wp2_with fail
  refine (sameInts_any a1 a2 L1.length c1 c2 _ (by have := HL.out; omega) W4 HN1b.out HN2.out).mono ?_
  rintro e W5 ⟨rfl, hb5⟩
  have HB5 := Lib.hid (below_thn HB4.out hb5)
  clear hb5
  go_wp2_with fail
  go_ret
  exact ⟨rfl, HB5.out⟩
end Go.Proofs.Ytiiekecohmaipaa
