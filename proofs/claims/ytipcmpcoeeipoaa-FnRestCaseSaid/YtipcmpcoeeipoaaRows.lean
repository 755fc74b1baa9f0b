/-
  No cell of these rows narrows 'for every input' (looked for: loops, veiled, ifaces, maps, wideKeys, modest, calm, conditions, laid).
  DERIVED. THE GIVEN ROWS OF THIS SEAT. 10 by the template 'for every input the law returns true; each argument reads behind the call as it read before'; 0 by the template 'total and deterministic' (their statements: YtipcmpcoeeipoaaTotals.lean).
  GIVEN WITH THE SEED: the statements are not yours to turn. If you find one false, say at which input.
  Laid BY PROGRAM, IN A SANDBOX (cutbox-rows.mjs): the forced cells as the released guide's own fill.sh prints them over the translation db60721dbdb179ac… (all of the seat's roots in one cut). By AI agents, Wed Nov 11 2026. No macro, syntax, notation, axiom, sorry.
-/
import Derived.Test.YtipcmpcoeeipoaaChecked
import GoSem.Claim
import GoSem.ClaimJoined
import GoSem.ClaimMapViews
import Derived.JoinedTies
import Derived.KernelRfl
namespace Go.Proofs.Ytipcmpcoeeipoaa
/- THE CELL 'sum', in the pinned program and in every row, IS THE sha256 OF THE DUMP (.gsa) THAT YtipcmpcoeeipoaaProg.lean LOADS. Nothing in Lean hashes anything: it is a label: what it is worth is what the hold of that sum in a sandbox is worth. -/
noncomputable def Try.pinned : Pinned := { name := "ytipcmpcoeeipoaa", sum := "db60721dbdb179ac72f8abe21d3b95e21a3646d1b13cebc1541ea45ace4d461c", checked := Try.checked }
namespace Rows
def none {H : Type} : Left H := { results := [], args := [] }

/-- 'laws.FnCaseOk': WHATEVER THE INPUT: true; the input reads as it did. -/
def fnCaseOkSpec : ChangeSpec := { name := "fnCaseOk", fn := fun _ => fun
  | [d] => { results := [.lit (.bool true)], args := [d] }
  | _ => none }
def fnCaseOkRow : OpenClaim := { program := "ytipcmpcoeeipoaa", sum := "db60721dbdb179ac72f8abe21d3b95e21a3646d1b13cebc1541ea45ace4d461c", func := "loop.example/shortestates/laws.FnCaseOk", spec := "fnCaseOk", apart := false }
def FnCaseOkSaid : Prop := fnCaseOkRow.holds Try.pinned (OpenSpec.ofChange fnCaseOkSpec)

/-- ITS FALSE NEIGHBOUR: 'it returns false'. Refute it at one input. -/
def fnCaseOkWrong : ChangeSpec := { name := "fnCaseOk", fn := fun _ => fun
  | [d] => { results := [.lit (.bool false)], args := [d] }
  | _ => none }
def FnCaseOkWrongFalsely : Prop := fnCaseOkRow.holds Try.pinned (OpenSpec.ofChange fnCaseOkWrong)

/-- 'laws.FnOwedOf': WHATEVER THE INPUT: true; the input reads as it did. -/
def fnOwedOfSpec : ChangeSpec := { name := "fnOwedOf", fn := fun _ => fun
  | [d] => { results := [.lit (.bool true)], args := [d] }
  | _ => none }
def fnOwedOfRow : OpenClaim := { program := "ytipcmpcoeeipoaa", sum := "db60721dbdb179ac72f8abe21d3b95e21a3646d1b13cebc1541ea45ace4d461c", func := "loop.example/shortestates/laws.FnOwedOf", spec := "fnOwedOf", apart := false }
def FnOwedOfSaid : Prop := fnOwedOfRow.holds Try.pinned (OpenSpec.ofChange fnOwedOfSpec)

/-- ITS FALSE NEIGHBOUR: 'it returns false'. Refute it at one input. -/
def fnOwedOfWrong : ChangeSpec := { name := "fnOwedOf", fn := fun _ => fun
  | [d] => { results := [.lit (.bool false)], args := [d] }
  | _ => none }
def FnOwedOfWrongFalsely : Prop := fnOwedOfRow.holds Try.pinned (OpenSpec.ofChange fnOwedOfWrong)

/-- 'laws.FnOtherCase': WHATEVER THE INPUT: true; the input reads as it did. -/
def fnOtherCaseSpec : ChangeSpec := { name := "fnOtherCase", fn := fun _ => fun
  | [d] => { results := [.lit (.bool true)], args := [d] }
  | _ => none }
def fnOtherCaseRow : OpenClaim := { program := "ytipcmpcoeeipoaa", sum := "db60721dbdb179ac72f8abe21d3b95e21a3646d1b13cebc1541ea45ace4d461c", func := "loop.example/shortestates/laws.FnOtherCase", spec := "fnOtherCase", apart := false }
def FnOtherCaseSaid : Prop := fnOtherCaseRow.holds Try.pinned (OpenSpec.ofChange fnOtherCaseSpec)

/-- ITS FALSE NEIGHBOUR: 'it returns false'. Refute it at one input. -/
def fnOtherCaseWrong : ChangeSpec := { name := "fnOtherCase", fn := fun _ => fun
  | [d] => { results := [.lit (.bool false)], args := [d] }
  | _ => none }
def FnOtherCaseWrongFalsely : Prop := fnOtherCaseRow.holds Try.pinned (OpenSpec.ofChange fnOtherCaseWrong)

/-- 'laws.FnCutCase': WHATEVER THE INPUT: true; the input reads as it did. -/
def fnCutCaseSpec : ChangeSpec := { name := "fnCutCase", fn := fun _ => fun
  | [d] => { results := [.lit (.bool true)], args := [d] }
  | _ => none }
def fnCutCaseRow : OpenClaim := { program := "ytipcmpcoeeipoaa", sum := "db60721dbdb179ac72f8abe21d3b95e21a3646d1b13cebc1541ea45ace4d461c", func := "loop.example/shortestates/laws.FnCutCase", spec := "fnCutCase", apart := false }
def FnCutCaseSaid : Prop := fnCutCaseRow.holds Try.pinned (OpenSpec.ofChange fnCutCaseSpec)

/-- ITS FALSE NEIGHBOUR: 'it returns false'. Refute it at one input. -/
def fnCutCaseWrong : ChangeSpec := { name := "fnCutCase", fn := fun _ => fun
  | [d] => { results := [.lit (.bool false)], args := [d] }
  | _ => none }
def FnCutCaseWrongFalsely : Prop := fnCutCaseRow.holds Try.pinned (OpenSpec.ofChange fnCutCaseWrong)

/-- 'laws.FnRightsOf': WHATEVER THE INPUT: true; the input reads as it did. -/
def fnRightsOfSpec : ChangeSpec := { name := "fnRightsOf", fn := fun _ => fun
  | [d] => { results := [.lit (.bool true)], args := [d] }
  | _ => none }
def fnRightsOfRow : OpenClaim := { program := "ytipcmpcoeeipoaa", sum := "db60721dbdb179ac72f8abe21d3b95e21a3646d1b13cebc1541ea45ace4d461c", func := "loop.example/shortestates/laws.FnRightsOf", spec := "fnRightsOf", apart := false }
def FnRightsOfSaid : Prop := fnRightsOfRow.holds Try.pinned (OpenSpec.ofChange fnRightsOfSpec)

/-- ITS FALSE NEIGHBOUR: 'it returns false'. Refute it at one input. -/
def fnRightsOfWrong : ChangeSpec := { name := "fnRightsOf", fn := fun _ => fun
  | [d] => { results := [.lit (.bool false)], args := [d] }
  | _ => none }
def FnRightsOfWrongFalsely : Prop := fnRightsOfRow.holds Try.pinned (OpenSpec.ofChange fnRightsOfWrong)

/-- 'laws.FnRestCase': WHATEVER THE INPUT: true; the input reads as it did. -/
def fnRestCaseSpec : ChangeSpec := { name := "fnRestCase", fn := fun _ => fun
  | [d] => { results := [.lit (.bool true)], args := [d] }
  | _ => none }
def fnRestCaseRow : OpenClaim := { program := "ytipcmpcoeeipoaa", sum := "db60721dbdb179ac72f8abe21d3b95e21a3646d1b13cebc1541ea45ace4d461c", func := "loop.example/shortestates/laws.FnRestCase", spec := "fnRestCase", apart := false }
def FnRestCaseSaid : Prop := fnRestCaseRow.holds Try.pinned (OpenSpec.ofChange fnRestCaseSpec)

/-- ITS FALSE NEIGHBOUR: 'it returns false'. Refute it at one input. -/
def fnRestCaseWrong : ChangeSpec := { name := "fnRestCase", fn := fun _ => fun
  | [d] => { results := [.lit (.bool false)], args := [d] }
  | _ => none }
def FnRestCaseWrongFalsely : Prop := fnRestCaseRow.holds Try.pinned (OpenSpec.ofChange fnRestCaseWrong)

/-- 'laws.FnNamedCase': WHATEVER THE INPUT: true; the input reads as it did. -/
def fnNamedCaseSpec : ChangeSpec := { name := "fnNamedCase", fn := fun _ => fun
  | [d] => { results := [.lit (.bool true)], args := [d] }
  | _ => none }
def fnNamedCaseRow : OpenClaim := { program := "ytipcmpcoeeipoaa", sum := "db60721dbdb179ac72f8abe21d3b95e21a3646d1b13cebc1541ea45ace4d461c", func := "loop.example/shortestates/laws.FnNamedCase", spec := "fnNamedCase", apart := false }
def FnNamedCaseSaid : Prop := fnNamedCaseRow.holds Try.pinned (OpenSpec.ofChange fnNamedCaseSpec)

/-- ITS FALSE NEIGHBOUR: 'it returns false'. Refute it at one input. -/
def fnNamedCaseWrong : ChangeSpec := { name := "fnNamedCase", fn := fun _ => fun
  | [d] => { results := [.lit (.bool false)], args := [d] }
  | _ => none }
def FnNamedCaseWrongFalsely : Prop := fnNamedCaseRow.holds Try.pinned (OpenSpec.ofChange fnNamedCaseWrong)

/-- 'laws.FnAwardsOk': WHATEVER THE INPUT: true; the input reads as it did. -/
def fnAwardsOkSpec : ChangeSpec := { name := "fnAwardsOk", fn := fun _ => fun
  | [d] => { results := [.lit (.bool true)], args := [d] }
  | _ => none }
def fnAwardsOkRow : OpenClaim := { program := "ytipcmpcoeeipoaa", sum := "db60721dbdb179ac72f8abe21d3b95e21a3646d1b13cebc1541ea45ace4d461c", func := "loop.example/shortestates/laws.FnAwardsOk", spec := "fnAwardsOk", apart := false }
def FnAwardsOkSaid : Prop := fnAwardsOkRow.holds Try.pinned (OpenSpec.ofChange fnAwardsOkSpec)

/-- ITS FALSE NEIGHBOUR: 'it returns false'. Refute it at one input. -/
def fnAwardsOkWrong : ChangeSpec := { name := "fnAwardsOk", fn := fun _ => fun
  | [d] => { results := [.lit (.bool false)], args := [d] }
  | _ => none }
def FnAwardsOkWrongFalsely : Prop := fnAwardsOkRow.holds Try.pinned (OpenSpec.ofChange fnAwardsOkWrong)

/-- 'laws.FnLossesOf': WHATEVER THE INPUT: true; the input reads as it did. -/
def fnLossesOfSpec : ChangeSpec := { name := "fnLossesOf", fn := fun _ => fun
  | [d] => { results := [.lit (.bool true)], args := [d] }
  | _ => none }
def fnLossesOfRow : OpenClaim := { program := "ytipcmpcoeeipoaa", sum := "db60721dbdb179ac72f8abe21d3b95e21a3646d1b13cebc1541ea45ace4d461c", func := "loop.example/shortestates/laws.FnLossesOf", spec := "fnLossesOf", apart := false }
def FnLossesOfSaid : Prop := fnLossesOfRow.holds Try.pinned (OpenSpec.ofChange fnLossesOfSpec)

/-- ITS FALSE NEIGHBOUR: 'it returns false'. Refute it at one input. -/
def fnLossesOfWrong : ChangeSpec := { name := "fnLossesOf", fn := fun _ => fun
  | [d] => { results := [.lit (.bool false)], args := [d] }
  | _ => none }
def FnLossesOfWrongFalsely : Prop := fnLossesOfRow.holds Try.pinned (OpenSpec.ofChange fnLossesOfWrong)

/-- 'laws.FnRightsMore': WHATEVER THE INPUT: true; the input reads as it did. -/
def fnRightsMoreSpec : ChangeSpec := { name := "fnRightsMore", fn := fun _ => fun
  | [d] => { results := [.lit (.bool true)], args := [d] }
  | _ => none }
def fnRightsMoreRow : OpenClaim := { program := "ytipcmpcoeeipoaa", sum := "db60721dbdb179ac72f8abe21d3b95e21a3646d1b13cebc1541ea45ace4d461c", func := "loop.example/shortestates/laws.FnRightsMore", spec := "fnRightsMore", apart := false }
def FnRightsMoreSaid : Prop := fnRightsMoreRow.holds Try.pinned (OpenSpec.ofChange fnRightsMoreSpec)

/-- ITS FALSE NEIGHBOUR: 'it returns false'. Refute it at one input. -/
def fnRightsMoreWrong : ChangeSpec := { name := "fnRightsMore", fn := fun _ => fun
  | [d] => { results := [.lit (.bool false)], args := [d] }
  | _ => none }
def FnRightsMoreWrongFalsely : Prop := fnRightsMoreRow.holds Try.pinned (OpenSpec.ofChange fnRightsMoreWrong)

/- THE SECOND FORM. 'bulk': how many values and letters a reading holds, each counted each time it is reached (what is shared counts as often as it is met; a slice's spare places count too). A statement '..UptoSaid' is the law's where the arguments, and the package variables that the reading takes, are together of bulk at most 1048576: NARROWER than '..Said'. Prove '..Said' where nothing that the law and all that it calls make is longer than what came in: it says more and counts as full. Else prove '..UptoSaid'. A law counts once. -/
mutual
def uptoBulk {H : Type} : DataW H → Nat
  | .lit (.string bytes) => bytes.length + 1
  | .lit _ => 1
  | .nil => 1
  | .ptr d => uptoBulk d + 1
  | .slice elems spare => uptoBulkAll elems + uptoBulkAll spare + 1
  | .agg parts => uptoBulkAll parts + 1
  | .iface _ d => uptoBulk d + 1
  | .map entries => uptoBulkEntries entries + 1
  | .held _ => 1
def uptoBulkAll {H : Type} : List (DataW H) → Nat
  | [] => 0
  | d :: r => uptoBulk d + uptoBulkAll r
def uptoBulkEntries {H : Type} : List (Lit × DataW H) → Nat
  | [] => 0
  | x :: r => uptoBulkEntry x + uptoBulkEntries r
def uptoBulkEntry {H : Type} : Lit × DataW H → Nat
  | (.string bytes, d) => bytes.length + uptoBulk d + 1
  | (_, d) => uptoBulk d + 1
 end
def uptoSmall : (H : Type) → List (DataW H) → Bool := fun _ ds => decide (uptoBulkAll ds ≤ 1048576)
def OpenSpec.upto (s : _root_.Go.ChangeSpec) : _root_.Go.OpenSpec := { _root_.Go.OpenSpec.ofChange s with cond := some uptoSmall }

/-- 'laws.FnCaseOk', WHERE WHAT IT READS IS OF BULK AT MOST 1048576: true; the input reads as it did. -/
def fnCaseOkUptoRow : OpenClaim := { program := "ytipcmpcoeeipoaa", sum := "db60721dbdb179ac72f8abe21d3b95e21a3646d1b13cebc1541ea45ace4d461c", func := "loop.example/shortestates/laws.FnCaseOk", spec := "fnCaseOk", apart := false, narrowed := true }
def FnCaseOkUptoSaid : Prop := fnCaseOkUptoRow.holds Try.pinned (OpenSpec.upto fnCaseOkSpec)

/-- 'laws.FnOwedOf', WHERE WHAT IT READS IS OF BULK AT MOST 1048576: true; the input reads as it did. -/
def fnOwedOfUptoRow : OpenClaim := { program := "ytipcmpcoeeipoaa", sum := "db60721dbdb179ac72f8abe21d3b95e21a3646d1b13cebc1541ea45ace4d461c", func := "loop.example/shortestates/laws.FnOwedOf", spec := "fnOwedOf", apart := false, narrowed := true }
def FnOwedOfUptoSaid : Prop := fnOwedOfUptoRow.holds Try.pinned (OpenSpec.upto fnOwedOfSpec)

/-- 'laws.FnOtherCase', WHERE WHAT IT READS IS OF BULK AT MOST 1048576: true; the input reads as it did. -/
def fnOtherCaseUptoRow : OpenClaim := { program := "ytipcmpcoeeipoaa", sum := "db60721dbdb179ac72f8abe21d3b95e21a3646d1b13cebc1541ea45ace4d461c", func := "loop.example/shortestates/laws.FnOtherCase", spec := "fnOtherCase", apart := false, narrowed := true }
def FnOtherCaseUptoSaid : Prop := fnOtherCaseUptoRow.holds Try.pinned (OpenSpec.upto fnOtherCaseSpec)

/-- 'laws.FnCutCase', WHERE WHAT IT READS IS OF BULK AT MOST 1048576: true; the input reads as it did. -/
def fnCutCaseUptoRow : OpenClaim := { program := "ytipcmpcoeeipoaa", sum := "db60721dbdb179ac72f8abe21d3b95e21a3646d1b13cebc1541ea45ace4d461c", func := "loop.example/shortestates/laws.FnCutCase", spec := "fnCutCase", apart := false, narrowed := true }
def FnCutCaseUptoSaid : Prop := fnCutCaseUptoRow.holds Try.pinned (OpenSpec.upto fnCutCaseSpec)

/-- 'laws.FnRightsOf', WHERE WHAT IT READS IS OF BULK AT MOST 1048576: true; the input reads as it did. -/
def fnRightsOfUptoRow : OpenClaim := { program := "ytipcmpcoeeipoaa", sum := "db60721dbdb179ac72f8abe21d3b95e21a3646d1b13cebc1541ea45ace4d461c", func := "loop.example/shortestates/laws.FnRightsOf", spec := "fnRightsOf", apart := false, narrowed := true }
def FnRightsOfUptoSaid : Prop := fnRightsOfUptoRow.holds Try.pinned (OpenSpec.upto fnRightsOfSpec)

/-- 'laws.FnRestCase', WHERE WHAT IT READS IS OF BULK AT MOST 1048576: true; the input reads as it did. -/
def fnRestCaseUptoRow : OpenClaim := { program := "ytipcmpcoeeipoaa", sum := "db60721dbdb179ac72f8abe21d3b95e21a3646d1b13cebc1541ea45ace4d461c", func := "loop.example/shortestates/laws.FnRestCase", spec := "fnRestCase", apart := false, narrowed := true }
def FnRestCaseUptoSaid : Prop := fnRestCaseUptoRow.holds Try.pinned (OpenSpec.upto fnRestCaseSpec)

/-- 'laws.FnNamedCase', WHERE WHAT IT READS IS OF BULK AT MOST 1048576: true; the input reads as it did. -/
def fnNamedCaseUptoRow : OpenClaim := { program := "ytipcmpcoeeipoaa", sum := "db60721dbdb179ac72f8abe21d3b95e21a3646d1b13cebc1541ea45ace4d461c", func := "loop.example/shortestates/laws.FnNamedCase", spec := "fnNamedCase", apart := false, narrowed := true }
def FnNamedCaseUptoSaid : Prop := fnNamedCaseUptoRow.holds Try.pinned (OpenSpec.upto fnNamedCaseSpec)

/-- 'laws.FnAwardsOk', WHERE WHAT IT READS IS OF BULK AT MOST 1048576: true; the input reads as it did. -/
def fnAwardsOkUptoRow : OpenClaim := { program := "ytipcmpcoeeipoaa", sum := "db60721dbdb179ac72f8abe21d3b95e21a3646d1b13cebc1541ea45ace4d461c", func := "loop.example/shortestates/laws.FnAwardsOk", spec := "fnAwardsOk", apart := false, narrowed := true }
def FnAwardsOkUptoSaid : Prop := fnAwardsOkUptoRow.holds Try.pinned (OpenSpec.upto fnAwardsOkSpec)

/-- 'laws.FnLossesOf', WHERE WHAT IT READS IS OF BULK AT MOST 1048576: true; the input reads as it did. -/
def fnLossesOfUptoRow : OpenClaim := { program := "ytipcmpcoeeipoaa", sum := "db60721dbdb179ac72f8abe21d3b95e21a3646d1b13cebc1541ea45ace4d461c", func := "loop.example/shortestates/laws.FnLossesOf", spec := "fnLossesOf", apart := false, narrowed := true }
def FnLossesOfUptoSaid : Prop := fnLossesOfUptoRow.holds Try.pinned (OpenSpec.upto fnLossesOfSpec)

/-- 'laws.FnRightsMore', WHERE WHAT IT READS IS OF BULK AT MOST 1048576: true; the input reads as it did. -/
def fnRightsMoreUptoRow : OpenClaim := { program := "ytipcmpcoeeipoaa", sum := "db60721dbdb179ac72f8abe21d3b95e21a3646d1b13cebc1541ea45ace4d461c", func := "loop.example/shortestates/laws.FnRightsMore", spec := "fnRightsMore", apart := false, narrowed := true }
def FnRightsMoreUptoSaid : Prop := fnRightsMoreUptoRow.holds Try.pinned (OpenSpec.upto fnRightsMoreSpec)

end Rows
end Go.Proofs.Ytipcmpcoeeipoaa
