/-
  No cell of these rows narrows 'for every input' (looked for: loops, veiled, ifaces, maps, wideKeys, modest, calm, conditions, laid).
  DERIVED. THE GIVEN ROWS OF THIS SEAT. 9 by the template 'for every input the law returns true; each argument reads behind the call as it read before'; 0 by the template 'total and deterministic' (their statements: YtipcmpcoeeipoabTotals.lean).
  GIVEN WITH THE SEED: the statements are not yours to turn. If you find one false, say at which input.
  Laid BY PROGRAM, IN A SANDBOX (cutbox-rows.mjs): the forced cells as the released guide's own fill.sh prints them over the translation 912f1b7fdad2409f… (all of the seat's roots in one cut). By AI agents, Wed Nov 11 2026. No macro, syntax, notation, axiom, sorry.
-/
import Derived.Test.YtipcmpcoeeipoabChecked
import GoSem.Claim
import GoSem.ClaimJoined
import GoSem.ClaimMapViews
import Derived.JoinedTies
import Derived.KernelRfl
namespace Go.Proofs.Ytipcmpcoeeipoab
/- THE CELL 'sum', in the pinned program and in every row, IS THE sha256 OF THE DUMP (.gsa) THAT YtipcmpcoeeipoabProg.lean LOADS. Nothing in Lean hashes anything: it is a label: what it is worth is what the hold of that sum in a sandbox is worth. -/
noncomputable def Try.pinned : Pinned := { name := "ytipcmpcoeeipoab", sum := "912f1b7fdad2409f7862a403355ac7e59b92653a8ed4da46cbcf6deee6090c66", checked := Try.checked }
namespace Rows
def none {H : Type} : Left H := { results := [], args := [] }

/-- 'laws.FnExactCaseOk': WHATEVER THE INPUT: true; the input reads as it did. -/
def fnExactCaseOkSpec : ChangeSpec := { name := "fnExactCaseOk", fn := fun _ => fun
  | [d] => { results := [.lit (.bool true)], args := [d] }
  | _ => none }
def fnExactCaseOkRow : OpenClaim := { program := "ytipcmpcoeeipoab", sum := "912f1b7fdad2409f7862a403355ac7e59b92653a8ed4da46cbcf6deee6090c66", func := "loop.example/shortestates/laws.FnExactCaseOk", spec := "fnExactCaseOk", apart := false }
def FnExactCaseOkSaid : Prop := fnExactCaseOkRow.holds Try.pinned (OpenSpec.ofChange fnExactCaseOkSpec)

/-- ITS FALSE NEIGHBOUR: 'it returns false'. Refute it at one input. -/
def fnExactCaseOkWrong : ChangeSpec := { name := "fnExactCaseOk", fn := fun _ => fun
  | [d] => { results := [.lit (.bool false)], args := [d] }
  | _ => none }
def FnExactCaseOkWrongFalsely : Prop := fnExactCaseOkRow.holds Try.pinned (OpenSpec.ofChange fnExactCaseOkWrong)

/-- 'laws.FnExactOwedOf': WHATEVER THE INPUT: true; the input reads as it did. -/
def fnExactOwedOfSpec : ChangeSpec := { name := "fnExactOwedOf", fn := fun _ => fun
  | [d] => { results := [.lit (.bool true)], args := [d] }
  | _ => none }
def fnExactOwedOfRow : OpenClaim := { program := "ytipcmpcoeeipoab", sum := "912f1b7fdad2409f7862a403355ac7e59b92653a8ed4da46cbcf6deee6090c66", func := "loop.example/shortestates/laws.FnExactOwedOf", spec := "fnExactOwedOf", apart := false }
def FnExactOwedOfSaid : Prop := fnExactOwedOfRow.holds Try.pinned (OpenSpec.ofChange fnExactOwedOfSpec)

/-- ITS FALSE NEIGHBOUR: 'it returns false'. Refute it at one input. -/
def fnExactOwedOfWrong : ChangeSpec := { name := "fnExactOwedOf", fn := fun _ => fun
  | [d] => { results := [.lit (.bool false)], args := [d] }
  | _ => none }
def FnExactOwedOfWrongFalsely : Prop := fnExactOwedOfRow.holds Try.pinned (OpenSpec.ofChange fnExactOwedOfWrong)

/-- 'laws.FnExactOtherCase': WHATEVER THE INPUT: true; the input reads as it did. -/
def fnExactOtherCaseSpec : ChangeSpec := { name := "fnExactOtherCase", fn := fun _ => fun
  | [d] => { results := [.lit (.bool true)], args := [d] }
  | _ => none }
def fnExactOtherCaseRow : OpenClaim := { program := "ytipcmpcoeeipoab", sum := "912f1b7fdad2409f7862a403355ac7e59b92653a8ed4da46cbcf6deee6090c66", func := "loop.example/shortestates/laws.FnExactOtherCase", spec := "fnExactOtherCase", apart := false }
def FnExactOtherCaseSaid : Prop := fnExactOtherCaseRow.holds Try.pinned (OpenSpec.ofChange fnExactOtherCaseSpec)

/-- ITS FALSE NEIGHBOUR: 'it returns false'. Refute it at one input. -/
def fnExactOtherCaseWrong : ChangeSpec := { name := "fnExactOtherCase", fn := fun _ => fun
  | [d] => { results := [.lit (.bool false)], args := [d] }
  | _ => none }
def FnExactOtherCaseWrongFalsely : Prop := fnExactOtherCaseRow.holds Try.pinned (OpenSpec.ofChange fnExactOtherCaseWrong)

/-- 'laws.FnExactCutCase': WHATEVER THE INPUT: true; the input reads as it did. -/
def fnExactCutCaseSpec : ChangeSpec := { name := "fnExactCutCase", fn := fun _ => fun
  | [d] => { results := [.lit (.bool true)], args := [d] }
  | _ => none }
def fnExactCutCaseRow : OpenClaim := { program := "ytipcmpcoeeipoab", sum := "912f1b7fdad2409f7862a403355ac7e59b92653a8ed4da46cbcf6deee6090c66", func := "loop.example/shortestates/laws.FnExactCutCase", spec := "fnExactCutCase", apart := false }
def FnExactCutCaseSaid : Prop := fnExactCutCaseRow.holds Try.pinned (OpenSpec.ofChange fnExactCutCaseSpec)

/-- ITS FALSE NEIGHBOUR: 'it returns false'. Refute it at one input. -/
def fnExactCutCaseWrong : ChangeSpec := { name := "fnExactCutCase", fn := fun _ => fun
  | [d] => { results := [.lit (.bool false)], args := [d] }
  | _ => none }
def FnExactCutCaseWrongFalsely : Prop := fnExactCutCaseRow.holds Try.pinned (OpenSpec.ofChange fnExactCutCaseWrong)

/-- 'laws.FnExactRightsOf': WHATEVER THE INPUT: true; the input reads as it did. -/
def fnExactRightsOfSpec : ChangeSpec := { name := "fnExactRightsOf", fn := fun _ => fun
  | [d] => { results := [.lit (.bool true)], args := [d] }
  | _ => none }
def fnExactRightsOfRow : OpenClaim := { program := "ytipcmpcoeeipoab", sum := "912f1b7fdad2409f7862a403355ac7e59b92653a8ed4da46cbcf6deee6090c66", func := "loop.example/shortestates/laws.FnExactRightsOf", spec := "fnExactRightsOf", apart := false }
def FnExactRightsOfSaid : Prop := fnExactRightsOfRow.holds Try.pinned (OpenSpec.ofChange fnExactRightsOfSpec)

/-- ITS FALSE NEIGHBOUR: 'it returns false'. Refute it at one input. -/
def fnExactRightsOfWrong : ChangeSpec := { name := "fnExactRightsOf", fn := fun _ => fun
  | [d] => { results := [.lit (.bool false)], args := [d] }
  | _ => none }
def FnExactRightsOfWrongFalsely : Prop := fnExactRightsOfRow.holds Try.pinned (OpenSpec.ofChange fnExactRightsOfWrong)

/-- 'laws.FnExactRestCase': WHATEVER THE INPUT: true; the input reads as it did. -/
def fnExactRestCaseSpec : ChangeSpec := { name := "fnExactRestCase", fn := fun _ => fun
  | [d] => { results := [.lit (.bool true)], args := [d] }
  | _ => none }
def fnExactRestCaseRow : OpenClaim := { program := "ytipcmpcoeeipoab", sum := "912f1b7fdad2409f7862a403355ac7e59b92653a8ed4da46cbcf6deee6090c66", func := "loop.example/shortestates/laws.FnExactRestCase", spec := "fnExactRestCase", apart := false }
def FnExactRestCaseSaid : Prop := fnExactRestCaseRow.holds Try.pinned (OpenSpec.ofChange fnExactRestCaseSpec)

/-- ITS FALSE NEIGHBOUR: 'it returns false'. Refute it at one input. -/
def fnExactRestCaseWrong : ChangeSpec := { name := "fnExactRestCase", fn := fun _ => fun
  | [d] => { results := [.lit (.bool false)], args := [d] }
  | _ => none }
def FnExactRestCaseWrongFalsely : Prop := fnExactRestCaseRow.holds Try.pinned (OpenSpec.ofChange fnExactRestCaseWrong)

/-- 'laws.FnExactNamedCase': WHATEVER THE INPUT: true; the input reads as it did. -/
def fnExactNamedCaseSpec : ChangeSpec := { name := "fnExactNamedCase", fn := fun _ => fun
  | [d1, d2] => { results := [.lit (.bool true)], args := [d1, d2] }
  | _ => none }
def fnExactNamedCaseRow : OpenClaim := { program := "ytipcmpcoeeipoab", sum := "912f1b7fdad2409f7862a403355ac7e59b92653a8ed4da46cbcf6deee6090c66", func := "loop.example/shortestates/laws.FnExactNamedCase", spec := "fnExactNamedCase", apart := false }
def FnExactNamedCaseSaid : Prop := fnExactNamedCaseRow.holds Try.pinned (OpenSpec.ofChange fnExactNamedCaseSpec)

/-- ITS FALSE NEIGHBOUR: 'it returns false'. Refute it at one input. -/
def fnExactNamedCaseWrong : ChangeSpec := { name := "fnExactNamedCase", fn := fun _ => fun
  | [d1, d2] => { results := [.lit (.bool false)], args := [d1, d2] }
  | _ => none }
def FnExactNamedCaseWrongFalsely : Prop := fnExactNamedCaseRow.holds Try.pinned (OpenSpec.ofChange fnExactNamedCaseWrong)

/-- 'laws.FnExactAwardsOk': WHATEVER THE INPUT: true; the input reads as it did. -/
def fnExactAwardsOkSpec : ChangeSpec := { name := "fnExactAwardsOk", fn := fun _ => fun
  | [d1, d2] => { results := [.lit (.bool true)], args := [d1, d2] }
  | _ => none }
def fnExactAwardsOkRow : OpenClaim := { program := "ytipcmpcoeeipoab", sum := "912f1b7fdad2409f7862a403355ac7e59b92653a8ed4da46cbcf6deee6090c66", func := "loop.example/shortestates/laws.FnExactAwardsOk", spec := "fnExactAwardsOk", apart := false }
def FnExactAwardsOkSaid : Prop := fnExactAwardsOkRow.holds Try.pinned (OpenSpec.ofChange fnExactAwardsOkSpec)

/-- ITS FALSE NEIGHBOUR: 'it returns false'. Refute it at one input. -/
def fnExactAwardsOkWrong : ChangeSpec := { name := "fnExactAwardsOk", fn := fun _ => fun
  | [d1, d2] => { results := [.lit (.bool false)], args := [d1, d2] }
  | _ => none }
def FnExactAwardsOkWrongFalsely : Prop := fnExactAwardsOkRow.holds Try.pinned (OpenSpec.ofChange fnExactAwardsOkWrong)

/-- 'laws.FnExactLossesOf': WHATEVER THE INPUT: true; the input reads as it did. -/
def fnExactLossesOfSpec : ChangeSpec := { name := "fnExactLossesOf", fn := fun _ => fun
  | [d1, d2] => { results := [.lit (.bool true)], args := [d1, d2] }
  | _ => none }
def fnExactLossesOfRow : OpenClaim := { program := "ytipcmpcoeeipoab", sum := "912f1b7fdad2409f7862a403355ac7e59b92653a8ed4da46cbcf6deee6090c66", func := "loop.example/shortestates/laws.FnExactLossesOf", spec := "fnExactLossesOf", apart := false }
def FnExactLossesOfSaid : Prop := fnExactLossesOfRow.holds Try.pinned (OpenSpec.ofChange fnExactLossesOfSpec)

/-- ITS FALSE NEIGHBOUR: 'it returns false'. Refute it at one input. -/
def fnExactLossesOfWrong : ChangeSpec := { name := "fnExactLossesOf", fn := fun _ => fun
  | [d1, d2] => { results := [.lit (.bool false)], args := [d1, d2] }
  | _ => none }
def FnExactLossesOfWrongFalsely : Prop := fnExactLossesOfRow.holds Try.pinned (OpenSpec.ofChange fnExactLossesOfWrong)

/- THE SECOND FORM. 'bulk': how many values and letters a reading holds, each counted each time it is reached (what is shared counts as often as it is met; a slice's spare places count too). A statement '..UptoSaid' is the law's where the arguments, and the package variables that the reading takes, are together of bulk at most 1048576: NARROWER than '..Said'. Prove '..Said' where nothing that the law and all that it calls make is longer than what came in: it says more and counts as full. Else prove '..UptoSaid'. A law counts once. -/
mutual
def uptoBulk {H : Type} : DataW H → Nat
  | .lit (.string bytes) => bytes.length + 1
  | .lit _ => 1
  | .nil => 1
  | .ptr d => uptoBulk d + 1
  | .slice elems spare => uptoBulkAll elems + uptoBulkAll spare + 1
  | .agg parts => uptoBulkAll parts + 1
  | .iface _ d => uptoBulk d + 1
  | .map entries => uptoBulkEntries entries + 1
  | .held _ => 1
def uptoBulkAll {H : Type} : List (DataW H) → Nat
  | [] => 0
  | d :: r => uptoBulk d + uptoBulkAll r
def uptoBulkEntries {H : Type} : List (Lit × DataW H) → Nat
  | [] => 0
  | x :: r => uptoBulkEntry x + uptoBulkEntries r
def uptoBulkEntry {H : Type} : Lit × DataW H → Nat
  | (.string bytes, d) => bytes.length + uptoBulk d + 1
  | (_, d) => uptoBulk d + 1
 end
def uptoSmall : (H : Type) → List (DataW H) → Bool := fun _ ds => decide (uptoBulkAll ds ≤ 1048576)
def OpenSpec.upto (s : _root_.Go.ChangeSpec) : _root_.Go.OpenSpec := { _root_.Go.OpenSpec.ofChange s with cond := some uptoSmall }

/-- 'laws.FnExactCaseOk', WHERE WHAT IT READS IS OF BULK AT MOST 1048576: true; the input reads as it did. -/
def fnExactCaseOkUptoRow : OpenClaim := { program := "ytipcmpcoeeipoab", sum := "912f1b7fdad2409f7862a403355ac7e59b92653a8ed4da46cbcf6deee6090c66", func := "loop.example/shortestates/laws.FnExactCaseOk", spec := "fnExactCaseOk", apart := false, narrowed := true }
def FnExactCaseOkUptoSaid : Prop := fnExactCaseOkUptoRow.holds Try.pinned (OpenSpec.upto fnExactCaseOkSpec)

/-- 'laws.FnExactOwedOf', WHERE WHAT IT READS IS OF BULK AT MOST 1048576: true; the input reads as it did. -/
def fnExactOwedOfUptoRow : OpenClaim := { program := "ytipcmpcoeeipoab", sum := "912f1b7fdad2409f7862a403355ac7e59b92653a8ed4da46cbcf6deee6090c66", func := "loop.example/shortestates/laws.FnExactOwedOf", spec := "fnExactOwedOf", apart := false, narrowed := true }
def FnExactOwedOfUptoSaid : Prop := fnExactOwedOfUptoRow.holds Try.pinned (OpenSpec.upto fnExactOwedOfSpec)

/-- 'laws.FnExactOtherCase', WHERE WHAT IT READS IS OF BULK AT MOST 1048576: true; the input reads as it did. -/
def fnExactOtherCaseUptoRow : OpenClaim := { program := "ytipcmpcoeeipoab", sum := "912f1b7fdad2409f7862a403355ac7e59b92653a8ed4da46cbcf6deee6090c66", func := "loop.example/shortestates/laws.FnExactOtherCase", spec := "fnExactOtherCase", apart := false, narrowed := true }
def FnExactOtherCaseUptoSaid : Prop := fnExactOtherCaseUptoRow.holds Try.pinned (OpenSpec.upto fnExactOtherCaseSpec)

/-- 'laws.FnExactCutCase', WHERE WHAT IT READS IS OF BULK AT MOST 1048576: true; the input reads as it did. -/
def fnExactCutCaseUptoRow : OpenClaim := { program := "ytipcmpcoeeipoab", sum := "912f1b7fdad2409f7862a403355ac7e59b92653a8ed4da46cbcf6deee6090c66", func := "loop.example/shortestates/laws.FnExactCutCase", spec := "fnExactCutCase", apart := false, narrowed := true }
def FnExactCutCaseUptoSaid : Prop := fnExactCutCaseUptoRow.holds Try.pinned (OpenSpec.upto fnExactCutCaseSpec)

/-- 'laws.FnExactRightsOf', WHERE WHAT IT READS IS OF BULK AT MOST 1048576: true; the input reads as it did. -/
def fnExactRightsOfUptoRow : OpenClaim := { program := "ytipcmpcoeeipoab", sum := "912f1b7fdad2409f7862a403355ac7e59b92653a8ed4da46cbcf6deee6090c66", func := "loop.example/shortestates/laws.FnExactRightsOf", spec := "fnExactRightsOf", apart := false, narrowed := true }
def FnExactRightsOfUptoSaid : Prop := fnExactRightsOfUptoRow.holds Try.pinned (OpenSpec.upto fnExactRightsOfSpec)

/-- 'laws.FnExactRestCase', WHERE WHAT IT READS IS OF BULK AT MOST 1048576: true; the input reads as it did. -/
def fnExactRestCaseUptoRow : OpenClaim := { program := "ytipcmpcoeeipoab", sum := "912f1b7fdad2409f7862a403355ac7e59b92653a8ed4da46cbcf6deee6090c66", func := "loop.example/shortestates/laws.FnExactRestCase", spec := "fnExactRestCase", apart := false, narrowed := true }
def FnExactRestCaseUptoSaid : Prop := fnExactRestCaseUptoRow.holds Try.pinned (OpenSpec.upto fnExactRestCaseSpec)

/-- 'laws.FnExactNamedCase', WHERE WHAT IT READS IS OF BULK AT MOST 1048576: true; the input reads as it did. -/
def fnExactNamedCaseUptoRow : OpenClaim := { program := "ytipcmpcoeeipoab", sum := "912f1b7fdad2409f7862a403355ac7e59b92653a8ed4da46cbcf6deee6090c66", func := "loop.example/shortestates/laws.FnExactNamedCase", spec := "fnExactNamedCase", apart := false, narrowed := true }
def FnExactNamedCaseUptoSaid : Prop := fnExactNamedCaseUptoRow.holds Try.pinned (OpenSpec.upto fnExactNamedCaseSpec)

/-- 'laws.FnExactAwardsOk', WHERE WHAT IT READS IS OF BULK AT MOST 1048576: true; the input reads as it did. -/
def fnExactAwardsOkUptoRow : OpenClaim := { program := "ytipcmpcoeeipoab", sum := "912f1b7fdad2409f7862a403355ac7e59b92653a8ed4da46cbcf6deee6090c66", func := "loop.example/shortestates/laws.FnExactAwardsOk", spec := "fnExactAwardsOk", apart := false, narrowed := true }
def FnExactAwardsOkUptoSaid : Prop := fnExactAwardsOkUptoRow.holds Try.pinned (OpenSpec.upto fnExactAwardsOkSpec)

/-- 'laws.FnExactLossesOf', WHERE WHAT IT READS IS OF BULK AT MOST 1048576: true; the input reads as it did. -/
def fnExactLossesOfUptoRow : OpenClaim := { program := "ytipcmpcoeeipoab", sum := "912f1b7fdad2409f7862a403355ac7e59b92653a8ed4da46cbcf6deee6090c66", func := "loop.example/shortestates/laws.FnExactLossesOf", spec := "fnExactLossesOf", apart := false, narrowed := true }
def FnExactLossesOfUptoSaid : Prop := fnExactLossesOfUptoRow.holds Try.pinned (OpenSpec.upto fnExactLossesOfSpec)

end Rows
end Go.Proofs.Ytipcmpcoeeipoab
