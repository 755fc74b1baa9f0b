/-
  No cell of these rows narrows 'for every input' (looked for: loops, veiled, ifaces, maps, wideKeys, modest, calm, conditions, laid).
  DERIVED. THE GIVEN ROWS OF THIS SEAT. 5 by the template 'for every input the law returns true; each argument reads behind the call as it read before'; 0 by the template 'total and deterministic' (their statements: YtpoafafoncgenabTotals.lean).
  GIVEN WITH THE SEED: the statements are not yours to turn. If you find one false, say at which input.
  Laid BY PROGRAM, IN A SANDBOX (cutbox-rows.mjs): the forced cells as the released guide's own fill.sh prints them over the translation f3be414a8cc1be97… (all of the seat's roots in one cut). By AI agents, Wed Nov 11 2026. No macro, syntax, notation, axiom, sorry.
-/
import Derived.Test.YtpoafafoncgenabChecked
import GoSem.Claim
import GoSem.ClaimJoined
import GoSem.ClaimMapViews
import Derived.JoinedTies
import Derived.KernelRfl
namespace Go.Proofs.Ytpoafafoncgenab
/- THE CELL 'sum', in the pinned program and in every row, IS THE sha256 OF THE DUMP (.gsa) THAT YtpoafafoncgenabProg.lean LOADS. Nothing in Lean hashes anything: it is a label: what it is worth is what the hold of that sum in a sandbox is worth. -/
noncomputable def Try.pinned : Pinned := { name := "ytpoafafoncgenab", sum := "f3be414a8cc1be97a4dfe4c3db3105301d9dd6587bb81249ad908438b36da3e9", checked := Try.checked }
namespace Rows
def none {H : Type} : Left H := { results := [], args := [] }

/-- 'laws.FnExactEvenAwards': WHATEVER THE INPUT: true; the input reads as it did. -/
def fnExactEvenAwardsSpec : ChangeSpec := { name := "fnExactEvenAwards", fn := fun _ => fun
  | [d] => { results := [.lit (.bool true)], args := [d] }
  | _ => none }
def fnExactEvenAwardsRow : OpenClaim := { program := "ytpoafafoncgenab", sum := "f3be414a8cc1be97a4dfe4c3db3105301d9dd6587bb81249ad908438b36da3e9", func := "loop.example/shortestates/laws.FnExactEvenAwards", spec := "fnExactEvenAwards", recurses := true, apart := false }
def FnExactEvenAwardsSaid : Prop := fnExactEvenAwardsRow.holds Try.pinned (OpenSpec.ofChange fnExactEvenAwardsSpec)

/-- ITS FALSE NEIGHBOUR: 'it returns false'. Refute it at one input. -/
def fnExactEvenAwardsWrong : ChangeSpec := { name := "fnExactEvenAwards", fn := fun _ => fun
  | [d] => { results := [.lit (.bool false)], args := [d] }
  | _ => none }
def FnExactEvenAwardsWrongFalsely : Prop := fnExactEvenAwardsRow.holds Try.pinned (OpenSpec.ofChange fnExactEvenAwardsWrong)

/-- 'laws.FnExactEvenLevel': WHATEVER THE INPUT: true; the input reads as it did. -/
def fnExactEvenLevelSpec : ChangeSpec := { name := "fnExactEvenLevel", fn := fun _ => fun
  | [d] => { results := [.lit (.bool true)], args := [d] }
  | _ => none }
def fnExactEvenLevelRow : OpenClaim := { program := "ytpoafafoncgenab", sum := "f3be414a8cc1be97a4dfe4c3db3105301d9dd6587bb81249ad908438b36da3e9", func := "loop.example/shortestates/laws.FnExactEvenLevel", spec := "fnExactEvenLevel", recurses := true, apart := false }
def FnExactEvenLevelSaid : Prop := fnExactEvenLevelRow.holds Try.pinned (OpenSpec.ofChange fnExactEvenLevelSpec)

/-- ITS FALSE NEIGHBOUR: 'it returns false'. Refute it at one input. -/
def fnExactEvenLevelWrong : ChangeSpec := { name := "fnExactEvenLevel", fn := fun _ => fun
  | [d] => { results := [.lit (.bool false)], args := [d] }
  | _ => none }
def FnExactEvenLevelWrongFalsely : Prop := fnExactEvenLevelRow.holds Try.pinned (OpenSpec.ofChange fnExactEvenLevelWrong)

/-- 'laws.FnExactEvenLosses': WHATEVER THE INPUT: true; the input reads as it did. -/
def fnExactEvenLossesSpec : ChangeSpec := { name := "fnExactEvenLosses", fn := fun _ => fun
  | [d] => { results := [.lit (.bool true)], args := [d] }
  | _ => none }
def fnExactEvenLossesRow : OpenClaim := { program := "ytpoafafoncgenab", sum := "f3be414a8cc1be97a4dfe4c3db3105301d9dd6587bb81249ad908438b36da3e9", func := "loop.example/shortestates/laws.FnExactEvenLosses", spec := "fnExactEvenLosses", recurses := true, apart := false }
def FnExactEvenLossesSaid : Prop := fnExactEvenLossesRow.holds Try.pinned (OpenSpec.ofChange fnExactEvenLossesSpec)

/-- ITS FALSE NEIGHBOUR: 'it returns false'. Refute it at one input. -/
def fnExactEvenLossesWrong : ChangeSpec := { name := "fnExactEvenLosses", fn := fun _ => fun
  | [d] => { results := [.lit (.bool false)], args := [d] }
  | _ => none }
def FnExactEvenLossesWrongFalsely : Prop := fnExactEvenLossesRow.holds Try.pinned (OpenSpec.ofChange fnExactEvenLossesWrong)

/-- 'laws.FnExactEvenRow': WHATEVER THE INPUT: true; the input reads as it did. -/
def fnExactEvenRowSpec : ChangeSpec := { name := "fnExactEvenRow", fn := fun _ => fun
  | [d1, d2] => { results := [.lit (.bool true)], args := [d1, d2] }
  | _ => none }
def fnExactEvenRowRow : OpenClaim := { program := "ytpoafafoncgenab", sum := "f3be414a8cc1be97a4dfe4c3db3105301d9dd6587bb81249ad908438b36da3e9", func := "loop.example/shortestates/laws.FnExactEvenRow", spec := "fnExactEvenRow", recurses := true, apart := false }
def FnExactEvenRowSaid : Prop := fnExactEvenRowRow.holds Try.pinned (OpenSpec.ofChange fnExactEvenRowSpec)

/-- ITS FALSE NEIGHBOUR: 'it returns false'. Refute it at one input. -/
def fnExactEvenRowWrong : ChangeSpec := { name := "fnExactEvenRow", fn := fun _ => fun
  | [d1, d2] => { results := [.lit (.bool false)], args := [d1, d2] }
  | _ => none }
def FnExactEvenRowWrongFalsely : Prop := fnExactEvenRowRow.holds Try.pinned (OpenSpec.ofChange fnExactEvenRowWrong)

/-- 'laws.FnExactLossLevel': WHATEVER THE INPUT: true; the input reads as it did. -/
def fnExactLossLevelSpec : ChangeSpec := { name := "fnExactLossLevel", fn := fun _ => fun
  | [d] => { results := [.lit (.bool true)], args := [d] }
  | _ => none }
def fnExactLossLevelRow : OpenClaim := { program := "ytpoafafoncgenab", sum := "f3be414a8cc1be97a4dfe4c3db3105301d9dd6587bb81249ad908438b36da3e9", func := "loop.example/shortestates/laws.FnExactLossLevel", spec := "fnExactLossLevel", recurses := true, apart := false }
def FnExactLossLevelSaid : Prop := fnExactLossLevelRow.holds Try.pinned (OpenSpec.ofChange fnExactLossLevelSpec)

/-- ITS FALSE NEIGHBOUR: 'it returns false'. Refute it at one input. -/
def fnExactLossLevelWrong : ChangeSpec := { name := "fnExactLossLevel", fn := fun _ => fun
  | [d] => { results := [.lit (.bool false)], args := [d] }
  | _ => none }
def FnExactLossLevelWrongFalsely : Prop := fnExactLossLevelRow.holds Try.pinned (OpenSpec.ofChange fnExactLossLevelWrong)

/- THE SECOND FORM. 'bulk': how many values and letters a reading holds, each counted each time it is reached (what is shared counts as often as it is met; a slice's spare places count too). A statement '..UptoSaid' is the law's where the arguments, and the package variables that the reading takes, are together of bulk at most 1048576: NARROWER than '..Said'. Prove '..Said' where nothing that the law and all that it calls make is longer than what came in: it says more and counts as full. Else prove '..UptoSaid'. A law counts once. -/
mutual
def uptoBulk {H : Type} : DataW H → Nat
  | .lit (.string bytes) => bytes.length + 1
  | .lit _ => 1
  | .nil => 1
  | .ptr d => uptoBulk d + 1
  | .slice elems spare => uptoBulkAll elems + uptoBulkAll spare + 1
  | .agg parts => uptoBulkAll parts + 1
  | .iface _ d => uptoBulk d + 1
  | .map entries => uptoBulkEntries entries + 1
  | .held _ => 1
def uptoBulkAll {H : Type} : List (DataW H) → Nat
  | [] => 0
  | d :: r => uptoBulk d + uptoBulkAll r
def uptoBulkEntries {H : Type} : List (Lit × DataW H) → Nat
  | [] => 0
  | x :: r => uptoBulkEntry x + uptoBulkEntries r
def uptoBulkEntry {H : Type} : Lit × DataW H → Nat
  | (.string bytes, d) => bytes.length + uptoBulk d + 1
  | (_, d) => uptoBulk d + 1
 end
def uptoSmall : (H : Type) → List (DataW H) → Bool := fun _ ds => decide (uptoBulkAll ds ≤ 1048576)
def OpenSpec.upto (s : _root_.Go.ChangeSpec) : _root_.Go.OpenSpec := { _root_.Go.OpenSpec.ofChange s with cond := some uptoSmall }

/-- 'laws.FnExactEvenAwards', WHERE WHAT IT READS IS OF BULK AT MOST 1048576: true; the input reads as it did. -/
def fnExactEvenAwardsUptoRow : OpenClaim := { program := "ytpoafafoncgenab", sum := "f3be414a8cc1be97a4dfe4c3db3105301d9dd6587bb81249ad908438b36da3e9", func := "loop.example/shortestates/laws.FnExactEvenAwards", spec := "fnExactEvenAwards", recurses := true, apart := false, narrowed := true }
def FnExactEvenAwardsUptoSaid : Prop := fnExactEvenAwardsUptoRow.holds Try.pinned (OpenSpec.upto fnExactEvenAwardsSpec)

/-- 'laws.FnExactEvenLevel', WHERE WHAT IT READS IS OF BULK AT MOST 1048576: true; the input reads as it did. -/
def fnExactEvenLevelUptoRow : OpenClaim := { program := "ytpoafafoncgenab", sum := "f3be414a8cc1be97a4dfe4c3db3105301d9dd6587bb81249ad908438b36da3e9", func := "loop.example/shortestates/laws.FnExactEvenLevel", spec := "fnExactEvenLevel", recurses := true, apart := false, narrowed := true }
def FnExactEvenLevelUptoSaid : Prop := fnExactEvenLevelUptoRow.holds Try.pinned (OpenSpec.upto fnExactEvenLevelSpec)

/-- 'laws.FnExactEvenLosses', WHERE WHAT IT READS IS OF BULK AT MOST 1048576: true; the input reads as it did. -/
def fnExactEvenLossesUptoRow : OpenClaim := { program := "ytpoafafoncgenab", sum := "f3be414a8cc1be97a4dfe4c3db3105301d9dd6587bb81249ad908438b36da3e9", func := "loop.example/shortestates/laws.FnExactEvenLosses", spec := "fnExactEvenLosses", recurses := true, apart := false, narrowed := true }
def FnExactEvenLossesUptoSaid : Prop := fnExactEvenLossesUptoRow.holds Try.pinned (OpenSpec.upto fnExactEvenLossesSpec)

/-- 'laws.FnExactEvenRow', WHERE WHAT IT READS IS OF BULK AT MOST 1048576: true; the input reads as it did. -/
def fnExactEvenRowUptoRow : OpenClaim := { program := "ytpoafafoncgenab", sum := "f3be414a8cc1be97a4dfe4c3db3105301d9dd6587bb81249ad908438b36da3e9", func := "loop.example/shortestates/laws.FnExactEvenRow", spec := "fnExactEvenRow", recurses := true, apart := false, narrowed := true }
def FnExactEvenRowUptoSaid : Prop := fnExactEvenRowUptoRow.holds Try.pinned (OpenSpec.upto fnExactEvenRowSpec)

/-- 'laws.FnExactLossLevel', WHERE WHAT IT READS IS OF BULK AT MOST 1048576: true; the input reads as it did. -/
def fnExactLossLevelUptoRow : OpenClaim := { program := "ytpoafafoncgenab", sum := "f3be414a8cc1be97a4dfe4c3db3105301d9dd6587bb81249ad908438b36da3e9", func := "loop.example/shortestates/laws.FnExactLossLevel", spec := "fnExactLossLevel", recurses := true, apart := false, narrowed := true }
def FnExactLossLevelUptoSaid : Prop := fnExactLossLevelUptoRow.holds Try.pinned (OpenSpec.upto fnExactLossLevelSpec)

end Rows
end Go.Proofs.Ytpoafafoncgenab
