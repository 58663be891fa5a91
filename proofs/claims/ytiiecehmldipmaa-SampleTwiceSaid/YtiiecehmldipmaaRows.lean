/-
  No cell of these rows narrows 'for every input' (looked for: loops, veiled, ifaces, maps, wideKeys, modest, calm, conditions, laid).
  DERIVED. THE GIVEN ROWS OF THIS SEAT. 7 by the template 'for every input the law returns true; each argument reads behind the call as it read before'; 0 by the template 'total and deterministic' (their statements: YtiiecehmldipmaaTotals.lean).
  GIVEN WITH THE SEED: the statements are not yours to turn. If you find one false, say at which input.
  Laid BY PROGRAM, IN A SANDBOX (cutbox-rows.mjs): the forced cells as the released guide's own fill.sh prints them over the translation 11bcd57b7a4432d8… (all of the seat's roots in one cut). By AI agents, Wed Nov 11 2026. No macro, syntax, notation, axiom, sorry.
-/
import Derived.Test.YtiiecehmldipmaaChecked
import GoSem.Claim
import GoSem.ClaimJoined
import GoSem.ClaimMapViews
import Derived.JoinedTies
import Derived.KernelRfl
namespace Go.Proofs.Ytiiecehmldipmaa
/- THE CELL 'sum', in the pinned program and in every row, IS THE sha256 OF THE DUMP (.gsa) THAT YtiiecehmldipmaaProg.lean LOADS. Nothing in Lean hashes anything: it is a label: what it is worth is what the hold of that sum in a sandbox is worth. -/
noncomputable def Try.pinned : Pinned := { name := "ytiiecehmldipmaa", sum := "11bcd57b7a4432d8391883341797b9888ce5238ae83bdd25f66848c8e8c22bac", checked := Try.checked }
namespace Rows
def none {H : Type} : Left H := { results := [], args := [] }

/-- 'oilcakelaw01.SampleRules': WHATEVER THE INPUT: true; the input reads as it did. -/
def sampleRulesSpec : ChangeSpec := { name := "sampleRules", fn := fun _ => fun
  | [d1, d2, d3, d4, d5, d6, d7] => { results := [.lit (.bool true)], args := [d1, d2, d3, d4, d5, d6, d7] }
  | _ => none }
def sampleRulesRow : OpenClaim := { program := "ytiiecehmldipmaa", sum := "11bcd57b7a4432d8391883341797b9888ce5238ae83bdd25f66848c8e8c22bac", func := "oilcake/oilcakelaw01.SampleRules", spec := "sampleRules", unfollowed := true, recurses := true, plainKeys := false, apart := false }
def SampleRulesSaid : Prop := sampleRulesRow.holds Try.pinned (OpenSpec.ofChange sampleRulesSpec)

/-- ITS FALSE NEIGHBOUR: 'it returns false'. Refute it at one input. -/
def sampleRulesWrong : ChangeSpec := { name := "sampleRules", fn := fun _ => fun
  | [d1, d2, d3, d4, d5, d6, d7] => { results := [.lit (.bool false)], args := [d1, d2, d3, d4, d5, d6, d7] }
  | _ => none }
def SampleRulesWrongFalsely : Prop := sampleRulesRow.holds Try.pinned (OpenSpec.ofChange sampleRulesWrong)

/-- 'oilcakelaw01.SampleCan': WHATEVER THE INPUT: true; the input reads as it did. -/
def sampleCanSpec : ChangeSpec := { name := "sampleCan", fn := fun _ => fun
  | [d1, d2] => { results := [.lit (.bool true)], args := [d1, d2] }
  | _ => none }
def sampleCanRow : OpenClaim := { program := "ytiiecehmldipmaa", sum := "11bcd57b7a4432d8391883341797b9888ce5238ae83bdd25f66848c8e8c22bac", func := "oilcake/oilcakelaw01.SampleCan", spec := "sampleCan", unfollowed := true, recurses := true, plainKeys := false, apart := false }
def SampleCanSaid : Prop := sampleCanRow.holds Try.pinned (OpenSpec.ofChange sampleCanSpec)

/-- ITS FALSE NEIGHBOUR: 'it returns false'. Refute it at one input. -/
def sampleCanWrong : ChangeSpec := { name := "sampleCan", fn := fun _ => fun
  | [d1, d2] => { results := [.lit (.bool false)], args := [d1, d2] }
  | _ => none }
def SampleCanWrongFalsely : Prop := sampleCanRow.holds Try.pinned (OpenSpec.ofChange sampleCanWrong)

/-- 'oilcakelaw01.SampleMore': WHATEVER THE INPUT: true; the input reads as it did. -/
def sampleMoreSpec : ChangeSpec := { name := "sampleMore", fn := fun _ => fun
  | [d1, d2, d3, d4, d5] => { results := [.lit (.bool true)], args := [d1, d2, d3, d4, d5] }
  | _ => none }
def sampleMoreRow : OpenClaim := { program := "ytiiecehmldipmaa", sum := "11bcd57b7a4432d8391883341797b9888ce5238ae83bdd25f66848c8e8c22bac", func := "oilcake/oilcakelaw01.SampleMore", spec := "sampleMore", unfollowed := true, recurses := true, plainKeys := false, apart := false }
def SampleMoreSaid : Prop := sampleMoreRow.holds Try.pinned (OpenSpec.ofChange sampleMoreSpec)

/-- ITS FALSE NEIGHBOUR: 'it returns false'. Refute it at one input. -/
def sampleMoreWrong : ChangeSpec := { name := "sampleMore", fn := fun _ => fun
  | [d1, d2, d3, d4, d5] => { results := [.lit (.bool false)], args := [d1, d2, d3, d4, d5] }
  | _ => none }
def SampleMoreWrongFalsely : Prop := sampleMoreRow.holds Try.pinned (OpenSpec.ofChange sampleMoreWrong)

/-- 'oilcakelaw01.SampleLeast': WHATEVER THE INPUT: true; the input reads as it did. -/
def sampleLeastSpec : ChangeSpec := { name := "sampleLeast", fn := fun _ => fun
  | [d1, d2, d3, d4, d5, d6, d7] => { results := [.lit (.bool true)], args := [d1, d2, d3, d4, d5, d6, d7] }
  | _ => none }
def sampleLeastRow : OpenClaim := { program := "ytiiecehmldipmaa", sum := "11bcd57b7a4432d8391883341797b9888ce5238ae83bdd25f66848c8e8c22bac", func := "oilcake/oilcakelaw01.SampleLeast", spec := "sampleLeast", unfollowed := true, recurses := true, plainKeys := false, apart := false }
def SampleLeastSaid : Prop := sampleLeastRow.holds Try.pinned (OpenSpec.ofChange sampleLeastSpec)

/-- ITS FALSE NEIGHBOUR: 'it returns false'. Refute it at one input. -/
def sampleLeastWrong : ChangeSpec := { name := "sampleLeast", fn := fun _ => fun
  | [d1, d2, d3, d4, d5, d6, d7] => { results := [.lit (.bool false)], args := [d1, d2, d3, d4, d5, d6, d7] }
  | _ => none }
def SampleLeastWrongFalsely : Prop := sampleLeastRow.holds Try.pinned (OpenSpec.ofChange sampleLeastWrong)

/-- 'oilcakelaw01.SampleParts': WHATEVER THE INPUT: true; the input reads as it did. -/
def samplePartsSpec : ChangeSpec := { name := "sampleParts", fn := fun _ => fun
  | [d1, d2, d3, d4, d5] => { results := [.lit (.bool true)], args := [d1, d2, d3, d4, d5] }
  | _ => none }
def samplePartsRow : OpenClaim := { program := "ytiiecehmldipmaa", sum := "11bcd57b7a4432d8391883341797b9888ce5238ae83bdd25f66848c8e8c22bac", func := "oilcake/oilcakelaw01.SampleParts", spec := "sampleParts", unfollowed := true, recurses := true, plainKeys := false, apart := false }
def SamplePartsSaid : Prop := samplePartsRow.holds Try.pinned (OpenSpec.ofChange samplePartsSpec)

/-- ITS FALSE NEIGHBOUR: 'it returns false'. Refute it at one input. -/
def samplePartsWrong : ChangeSpec := { name := "sampleParts", fn := fun _ => fun
  | [d1, d2, d3, d4, d5] => { results := [.lit (.bool false)], args := [d1, d2, d3, d4, d5] }
  | _ => none }
def SamplePartsWrongFalsely : Prop := samplePartsRow.holds Try.pinned (OpenSpec.ofChange samplePartsWrong)

/-- 'oilcakelaw01.SampleTwice': WHATEVER THE INPUT: true; the input reads as it did. -/
def sampleTwiceSpec : ChangeSpec := { name := "sampleTwice", fn := fun _ => fun
  | [d1, d2, d3, d4, d5, d6, d7] => { results := [.lit (.bool true)], args := [d1, d2, d3, d4, d5, d6, d7] }
  | _ => none }
def sampleTwiceRow : OpenClaim := { program := "ytiiecehmldipmaa", sum := "11bcd57b7a4432d8391883341797b9888ce5238ae83bdd25f66848c8e8c22bac", func := "oilcake/oilcakelaw01.SampleTwice", spec := "sampleTwice", unfollowed := true, recurses := true, plainKeys := false, apart := false }
def SampleTwiceSaid : Prop := sampleTwiceRow.holds Try.pinned (OpenSpec.ofChange sampleTwiceSpec)

/-- ITS FALSE NEIGHBOUR: 'it returns false'. Refute it at one input. -/
def sampleTwiceWrong : ChangeSpec := { name := "sampleTwice", fn := fun _ => fun
  | [d1, d2, d3, d4, d5, d6, d7] => { results := [.lit (.bool false)], args := [d1, d2, d3, d4, d5, d6, d7] }
  | _ => none }
def SampleTwiceWrongFalsely : Prop := sampleTwiceRow.holds Try.pinned (OpenSpec.ofChange sampleTwiceWrong)

/-- 'oilcakelaw01.SampleLikely': WHATEVER THE INPUT: true; the input reads as it did. -/
def sampleLikelySpec : ChangeSpec := { name := "sampleLikely", fn := fun _ => fun
  | [d1, d2] => { results := [.lit (.bool true)], args := [d1, d2] }
  | _ => none }
def sampleLikelyRow : OpenClaim := { program := "ytiiecehmldipmaa", sum := "11bcd57b7a4432d8391883341797b9888ce5238ae83bdd25f66848c8e8c22bac", func := "oilcake/oilcakelaw01.SampleLikely", spec := "sampleLikely", unfollowed := true, recurses := true, plainKeys := false, apart := false }
def SampleLikelySaid : Prop := sampleLikelyRow.holds Try.pinned (OpenSpec.ofChange sampleLikelySpec)

/-- ITS FALSE NEIGHBOUR: 'it returns false'. Refute it at one input. -/
def sampleLikelyWrong : ChangeSpec := { name := "sampleLikely", fn := fun _ => fun
  | [d1, d2] => { results := [.lit (.bool false)], args := [d1, d2] }
  | _ => none }
def SampleLikelyWrongFalsely : Prop := sampleLikelyRow.holds Try.pinned (OpenSpec.ofChange sampleLikelyWrong)

/- THE SECOND FORM. 'bulk': how many values and letters a reading holds, each counted each time it is reached (what is shared counts as often as it is met; a slice's spare places count too). A statement '..UptoSaid' is the law's where the arguments, and the package variables that the reading takes, are together of bulk at most 1048576: NARROWER than '..Said'. Prove '..Said' where nothing that the law and all that it calls make is longer than what came in: it says more and counts as full. Else prove '..UptoSaid'. A law counts once. -/
mutual
def uptoBulk {H : Type} : DataW H → Nat
  | .lit (.string bytes) => bytes.length + 1
  | .lit _ => 1
  | .nil => 1
  | .ptr d => uptoBulk d + 1
  | .slice elems spare => uptoBulkAll elems + uptoBulkAll spare + 1
  | .agg parts => uptoBulkAll parts + 1
  | .iface _ d => uptoBulk d + 1
  | .map entries => uptoBulkEntries entries + 1
  | .held _ => 1
def uptoBulkAll {H : Type} : List (DataW H) → Nat
  | [] => 0
  | d :: r => uptoBulk d + uptoBulkAll r
def uptoBulkEntries {H : Type} : List (Lit × DataW H) → Nat
  | [] => 0
  | x :: r => uptoBulkEntry x + uptoBulkEntries r
def uptoBulkEntry {H : Type} : Lit × DataW H → Nat
  | (.string bytes, d) => bytes.length + uptoBulk d + 1
  | (_, d) => uptoBulk d + 1
 end
def uptoSmall : (H : Type) → List (DataW H) → Bool := fun _ ds => decide (uptoBulkAll ds ≤ 1048576)
def OpenSpec.upto (s : _root_.Go.ChangeSpec) : _root_.Go.OpenSpec := { _root_.Go.OpenSpec.ofChange s with cond := some uptoSmall }

/-- 'oilcakelaw01.SampleRules', WHERE WHAT IT READS IS OF BULK AT MOST 1048576: true; the input reads as it did. -/
def sampleRulesUptoRow : OpenClaim := { program := "ytiiecehmldipmaa", sum := "11bcd57b7a4432d8391883341797b9888ce5238ae83bdd25f66848c8e8c22bac", func := "oilcake/oilcakelaw01.SampleRules", spec := "sampleRules", unfollowed := true, recurses := true, plainKeys := false, apart := false, narrowed := true }
def SampleRulesUptoSaid : Prop := sampleRulesUptoRow.holds Try.pinned (OpenSpec.upto sampleRulesSpec)

/-- 'oilcakelaw01.SampleCan', WHERE WHAT IT READS IS OF BULK AT MOST 1048576: true; the input reads as it did. -/
def sampleCanUptoRow : OpenClaim := { program := "ytiiecehmldipmaa", sum := "11bcd57b7a4432d8391883341797b9888ce5238ae83bdd25f66848c8e8c22bac", func := "oilcake/oilcakelaw01.SampleCan", spec := "sampleCan", unfollowed := true, recurses := true, plainKeys := false, apart := false, narrowed := true }
def SampleCanUptoSaid : Prop := sampleCanUptoRow.holds Try.pinned (OpenSpec.upto sampleCanSpec)

/-- 'oilcakelaw01.SampleMore', WHERE WHAT IT READS IS OF BULK AT MOST 1048576: true; the input reads as it did. -/
def sampleMoreUptoRow : OpenClaim := { program := "ytiiecehmldipmaa", sum := "11bcd57b7a4432d8391883341797b9888ce5238ae83bdd25f66848c8e8c22bac", func := "oilcake/oilcakelaw01.SampleMore", spec := "sampleMore", unfollowed := true, recurses := true, plainKeys := false, apart := false, narrowed := true }
def SampleMoreUptoSaid : Prop := sampleMoreUptoRow.holds Try.pinned (OpenSpec.upto sampleMoreSpec)

/-- 'oilcakelaw01.SampleLeast', WHERE WHAT IT READS IS OF BULK AT MOST 1048576: true; the input reads as it did. -/
def sampleLeastUptoRow : OpenClaim := { program := "ytiiecehmldipmaa", sum := "11bcd57b7a4432d8391883341797b9888ce5238ae83bdd25f66848c8e8c22bac", func := "oilcake/oilcakelaw01.SampleLeast", spec := "sampleLeast", unfollowed := true, recurses := true, plainKeys := false, apart := false, narrowed := true }
def SampleLeastUptoSaid : Prop := sampleLeastUptoRow.holds Try.pinned (OpenSpec.upto sampleLeastSpec)

/-- 'oilcakelaw01.SampleParts', WHERE WHAT IT READS IS OF BULK AT MOST 1048576: true; the input reads as it did. -/
def samplePartsUptoRow : OpenClaim := { program := "ytiiecehmldipmaa", sum := "11bcd57b7a4432d8391883341797b9888ce5238ae83bdd25f66848c8e8c22bac", func := "oilcake/oilcakelaw01.SampleParts", spec := "sampleParts", unfollowed := true, recurses := true, plainKeys := false, apart := false, narrowed := true }
def SamplePartsUptoSaid : Prop := samplePartsUptoRow.holds Try.pinned (OpenSpec.upto samplePartsSpec)

/-- 'oilcakelaw01.SampleTwice', WHERE WHAT IT READS IS OF BULK AT MOST 1048576: true; the input reads as it did. -/
def sampleTwiceUptoRow : OpenClaim := { program := "ytiiecehmldipmaa", sum := "11bcd57b7a4432d8391883341797b9888ce5238ae83bdd25f66848c8e8c22bac", func := "oilcake/oilcakelaw01.SampleTwice", spec := "sampleTwice", unfollowed := true, recurses := true, plainKeys := false, apart := false, narrowed := true }
def SampleTwiceUptoSaid : Prop := sampleTwiceUptoRow.holds Try.pinned (OpenSpec.upto sampleTwiceSpec)

/-- 'oilcakelaw01.SampleLikely', WHERE WHAT IT READS IS OF BULK AT MOST 1048576: true; the input reads as it did. -/
def sampleLikelyUptoRow : OpenClaim := { program := "ytiiecehmldipmaa", sum := "11bcd57b7a4432d8391883341797b9888ce5238ae83bdd25f66848c8e8c22bac", func := "oilcake/oilcakelaw01.SampleLikely", spec := "sampleLikely", unfollowed := true, recurses := true, plainKeys := false, apart := false, narrowed := true }
def SampleLikelyUptoSaid : Prop := sampleLikelyUptoRow.holds Try.pinned (OpenSpec.upto sampleLikelySpec)

end Rows
end Go.Proofs.Ytiiecehmldipmaa
