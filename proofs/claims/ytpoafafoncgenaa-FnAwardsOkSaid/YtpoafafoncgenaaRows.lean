/-
  No cell of these rows narrows 'for every input' (looked for: loops, veiled, ifaces, maps, wideKeys, modest, calm, conditions, laid).
  DERIVED. THE GIVEN ROWS OF THIS SEAT. 12 by the template 'for every input the law returns true; each argument reads behind the call as it read before'; 0 by the template 'total and deterministic' (their statements: YtpoafafoncgenaaTotals.lean).
  GIVEN WITH THE SEED: the statements are not yours to turn. If you find one false, say at which input.
  Laid BY PROGRAM, IN A SANDBOX (cutbox-rows.mjs): the forced cells as the released guide's own fill.sh prints them over the translation 67bf75311dcaf6e3… (all of the seat's roots in one cut). By AI agents, Wed Nov 11 2026. No macro, syntax, notation, axiom, sorry.
-/
import Derived.Test.YtpoafafoncgenaaChecked
import GoSem.Claim
import GoSem.ClaimJoined
import GoSem.ClaimMapViews
import Derived.JoinedTies
import Derived.KernelRfl
namespace Go.Proofs.Ytpoafafoncgenaa
/- THE CELL 'sum', in the pinned program and in every row, IS THE sha256 OF THE DUMP (.gsa) THAT YtpoafafoncgenaaProg.lean LOADS. Nothing in Lean hashes anything: it is a label: what it is worth is what the hold of that sum in a sandbox is worth. -/
noncomputable def Try.pinned : Pinned := { name := "ytpoafafoncgenaa", sum := "67bf75311dcaf6e3c4ea71bfd567801e24fd7979d698ca27d265455119d2c516", checked := Try.checked }
namespace Rows
def none {H : Type} : Left H := { results := [], args := [] }

/-- 'laws.FnNamedCase': WHATEVER THE INPUT: true; the input reads as it did. -/
def fnNamedCaseSpec : ChangeSpec := { name := "fnNamedCase", fn := fun _ => fun
  | [d] => { results := [.lit (.bool true)], args := [d] }
  | _ => none }
def fnNamedCaseRow : OpenClaim := { program := "ytpoafafoncgenaa", sum := "67bf75311dcaf6e3c4ea71bfd567801e24fd7979d698ca27d265455119d2c516", func := "loop.example/shortestates/laws.FnNamedCase", spec := "fnNamedCase", apart := false }
def FnNamedCaseSaid : Prop := fnNamedCaseRow.holds Try.pinned (OpenSpec.ofChange fnNamedCaseSpec)

/-- ITS FALSE NEIGHBOUR: 'it returns false'. Refute it at one input. -/
def fnNamedCaseWrong : ChangeSpec := { name := "fnNamedCase", fn := fun _ => fun
  | [d] => { results := [.lit (.bool false)], args := [d] }
  | _ => none }
def FnNamedCaseWrongFalsely : Prop := fnNamedCaseRow.holds Try.pinned (OpenSpec.ofChange fnNamedCaseWrong)

/-- 'laws.FnAwardsOk': WHATEVER THE INPUT: true; the input reads as it did. -/
def fnAwardsOkSpec : ChangeSpec := { name := "fnAwardsOk", fn := fun _ => fun
  | [d] => { results := [.lit (.bool true)], args := [d] }
  | _ => none }
def fnAwardsOkRow : OpenClaim := { program := "ytpoafafoncgenaa", sum := "67bf75311dcaf6e3c4ea71bfd567801e24fd7979d698ca27d265455119d2c516", func := "loop.example/shortestates/laws.FnAwardsOk", spec := "fnAwardsOk", apart := false }
def FnAwardsOkSaid : Prop := fnAwardsOkRow.holds Try.pinned (OpenSpec.ofChange fnAwardsOkSpec)

/-- ITS FALSE NEIGHBOUR: 'it returns false'. Refute it at one input. -/
def fnAwardsOkWrong : ChangeSpec := { name := "fnAwardsOk", fn := fun _ => fun
  | [d] => { results := [.lit (.bool false)], args := [d] }
  | _ => none }
def FnAwardsOkWrongFalsely : Prop := fnAwardsOkRow.holds Try.pinned (OpenSpec.ofChange fnAwardsOkWrong)

/-- 'laws.FnLossesOf': WHATEVER THE INPUT: true; the input reads as it did. -/
def fnLossesOfSpec : ChangeSpec := { name := "fnLossesOf", fn := fun _ => fun
  | [d] => { results := [.lit (.bool true)], args := [d] }
  | _ => none }
def fnLossesOfRow : OpenClaim := { program := "ytpoafafoncgenaa", sum := "67bf75311dcaf6e3c4ea71bfd567801e24fd7979d698ca27d265455119d2c516", func := "loop.example/shortestates/laws.FnLossesOf", spec := "fnLossesOf", apart := false }
def FnLossesOfSaid : Prop := fnLossesOfRow.holds Try.pinned (OpenSpec.ofChange fnLossesOfSpec)

/-- ITS FALSE NEIGHBOUR: 'it returns false'. Refute it at one input. -/
def fnLossesOfWrong : ChangeSpec := { name := "fnLossesOf", fn := fun _ => fun
  | [d] => { results := [.lit (.bool false)], args := [d] }
  | _ => none }
def FnLossesOfWrongFalsely : Prop := fnLossesOfRow.holds Try.pinned (OpenSpec.ofChange fnLossesOfWrong)

/-- 'laws.FnRightsMore': WHATEVER THE INPUT: true; the input reads as it did. -/
def fnRightsMoreSpec : ChangeSpec := { name := "fnRightsMore", fn := fun _ => fun
  | [d] => { results := [.lit (.bool true)], args := [d] }
  | _ => none }
def fnRightsMoreRow : OpenClaim := { program := "ytpoafafoncgenaa", sum := "67bf75311dcaf6e3c4ea71bfd567801e24fd7979d698ca27d265455119d2c516", func := "loop.example/shortestates/laws.FnRightsMore", spec := "fnRightsMore", apart := false }
def FnRightsMoreSaid : Prop := fnRightsMoreRow.holds Try.pinned (OpenSpec.ofChange fnRightsMoreSpec)

/-- ITS FALSE NEIGHBOUR: 'it returns false'. Refute it at one input. -/
def fnRightsMoreWrong : ChangeSpec := { name := "fnRightsMore", fn := fun _ => fun
  | [d] => { results := [.lit (.bool false)], args := [d] }
  | _ => none }
def FnRightsMoreWrongFalsely : Prop := fnRightsMoreRow.holds Try.pinned (OpenSpec.ofChange fnRightsMoreWrong)

/-- 'laws.FnEvenAwards': WHATEVER THE INPUT: true; the input reads as it did. -/
def fnEvenAwardsSpec : ChangeSpec := { name := "fnEvenAwards", fn := fun _ => fun
  | [d1, d2] => { results := [.lit (.bool true)], args := [d1, d2] }
  | _ => none }
def fnEvenAwardsRow : OpenClaim := { program := "ytpoafafoncgenaa", sum := "67bf75311dcaf6e3c4ea71bfd567801e24fd7979d698ca27d265455119d2c516", func := "loop.example/shortestates/laws.FnEvenAwards", spec := "fnEvenAwards", recurses := true, apart := false }
def FnEvenAwardsSaid : Prop := fnEvenAwardsRow.holds Try.pinned (OpenSpec.ofChange fnEvenAwardsSpec)

/-- ITS FALSE NEIGHBOUR: 'it returns false'. Refute it at one input. -/
def fnEvenAwardsWrong : ChangeSpec := { name := "fnEvenAwards", fn := fun _ => fun
  | [d1, d2] => { results := [.lit (.bool false)], args := [d1, d2] }
  | _ => none }
def FnEvenAwardsWrongFalsely : Prop := fnEvenAwardsRow.holds Try.pinned (OpenSpec.ofChange fnEvenAwardsWrong)

/-- 'laws.FnEvenLevel': WHATEVER THE INPUT: true; the input reads as it did. -/
def fnEvenLevelSpec : ChangeSpec := { name := "fnEvenLevel", fn := fun _ => fun
  | [d] => { results := [.lit (.bool true)], args := [d] }
  | _ => none }
def fnEvenLevelRow : OpenClaim := { program := "ytpoafafoncgenaa", sum := "67bf75311dcaf6e3c4ea71bfd567801e24fd7979d698ca27d265455119d2c516", func := "loop.example/shortestates/laws.FnEvenLevel", spec := "fnEvenLevel", recurses := true, apart := false }
def FnEvenLevelSaid : Prop := fnEvenLevelRow.holds Try.pinned (OpenSpec.ofChange fnEvenLevelSpec)

/-- ITS FALSE NEIGHBOUR: 'it returns false'. Refute it at one input. -/
def fnEvenLevelWrong : ChangeSpec := { name := "fnEvenLevel", fn := fun _ => fun
  | [d] => { results := [.lit (.bool false)], args := [d] }
  | _ => none }
def FnEvenLevelWrongFalsely : Prop := fnEvenLevelRow.holds Try.pinned (OpenSpec.ofChange fnEvenLevelWrong)

/-- 'laws.FnEvenLosses': WHATEVER THE INPUT: true; the input reads as it did. -/
def fnEvenLossesSpec : ChangeSpec := { name := "fnEvenLosses", fn := fun _ => fun
  | [d1, d2] => { results := [.lit (.bool true)], args := [d1, d2] }
  | _ => none }
def fnEvenLossesRow : OpenClaim := { program := "ytpoafafoncgenaa", sum := "67bf75311dcaf6e3c4ea71bfd567801e24fd7979d698ca27d265455119d2c516", func := "loop.example/shortestates/laws.FnEvenLosses", spec := "fnEvenLosses", recurses := true, apart := false }
def FnEvenLossesSaid : Prop := fnEvenLossesRow.holds Try.pinned (OpenSpec.ofChange fnEvenLossesSpec)

/-- ITS FALSE NEIGHBOUR: 'it returns false'. Refute it at one input. -/
def fnEvenLossesWrong : ChangeSpec := { name := "fnEvenLosses", fn := fun _ => fun
  | [d1, d2] => { results := [.lit (.bool false)], args := [d1, d2] }
  | _ => none }
def FnEvenLossesWrongFalsely : Prop := fnEvenLossesRow.holds Try.pinned (OpenSpec.ofChange fnEvenLossesWrong)

/-- 'laws.FnEvenRow': WHATEVER THE INPUT: true; the input reads as it did. -/
def fnEvenRowSpec : ChangeSpec := { name := "fnEvenRow", fn := fun _ => fun
  | [d] => { results := [.lit (.bool true)], args := [d] }
  | _ => none }
def fnEvenRowRow : OpenClaim := { program := "ytpoafafoncgenaa", sum := "67bf75311dcaf6e3c4ea71bfd567801e24fd7979d698ca27d265455119d2c516", func := "loop.example/shortestates/laws.FnEvenRow", spec := "fnEvenRow", recurses := true, apart := false }
def FnEvenRowSaid : Prop := fnEvenRowRow.holds Try.pinned (OpenSpec.ofChange fnEvenRowSpec)

/-- ITS FALSE NEIGHBOUR: 'it returns false'. Refute it at one input. -/
def fnEvenRowWrong : ChangeSpec := { name := "fnEvenRow", fn := fun _ => fun
  | [d] => { results := [.lit (.bool false)], args := [d] }
  | _ => none }
def FnEvenRowWrongFalsely : Prop := fnEvenRowRow.holds Try.pinned (OpenSpec.ofChange fnEvenRowWrong)

/-- 'laws.FnMoreEven': WHATEVER THE INPUT: true; the input reads as it did. -/
def fnMoreEvenSpec : ChangeSpec := { name := "fnMoreEven", fn := fun _ => fun
  | [d] => { results := [.lit (.bool true)], args := [d] }
  | _ => none }
def fnMoreEvenRow : OpenClaim := { program := "ytpoafafoncgenaa", sum := "67bf75311dcaf6e3c4ea71bfd567801e24fd7979d698ca27d265455119d2c516", func := "loop.example/shortestates/laws.FnMoreEven", spec := "fnMoreEven", recurses := true, apart := false }
def FnMoreEvenSaid : Prop := fnMoreEvenRow.holds Try.pinned (OpenSpec.ofChange fnMoreEvenSpec)

/-- ITS FALSE NEIGHBOUR: 'it returns false'. Refute it at one input. -/
def fnMoreEvenWrong : ChangeSpec := { name := "fnMoreEven", fn := fun _ => fun
  | [d] => { results := [.lit (.bool false)], args := [d] }
  | _ => none }
def FnMoreEvenWrongFalsely : Prop := fnMoreEvenRow.holds Try.pinned (OpenSpec.ofChange fnMoreEvenWrong)

/-- 'laws.FnLossLevel': WHATEVER THE INPUT: true; the input reads as it did. -/
def fnLossLevelSpec : ChangeSpec := { name := "fnLossLevel", fn := fun _ => fun
  | [d] => { results := [.lit (.bool true)], args := [d] }
  | _ => none }
def fnLossLevelRow : OpenClaim := { program := "ytpoafafoncgenaa", sum := "67bf75311dcaf6e3c4ea71bfd567801e24fd7979d698ca27d265455119d2c516", func := "loop.example/shortestates/laws.FnLossLevel", spec := "fnLossLevel", recurses := true, apart := false }
def FnLossLevelSaid : Prop := fnLossLevelRow.holds Try.pinned (OpenSpec.ofChange fnLossLevelSpec)

/-- ITS FALSE NEIGHBOUR: 'it returns false'. Refute it at one input. -/
def fnLossLevelWrong : ChangeSpec := { name := "fnLossLevel", fn := fun _ => fun
  | [d] => { results := [.lit (.bool false)], args := [d] }
  | _ => none }
def FnLossLevelWrongFalsely : Prop := fnLossLevelRow.holds Try.pinned (OpenSpec.ofChange fnLossLevelWrong)

/-- 'laws.FnEvenNamed': WHATEVER THE INPUT: true; the input reads as it did. -/
def fnEvenNamedSpec : ChangeSpec := { name := "fnEvenNamed", fn := fun _ => fun
  | [d] => { results := [.lit (.bool true)], args := [d] }
  | _ => none }
def fnEvenNamedRow : OpenClaim := { program := "ytpoafafoncgenaa", sum := "67bf75311dcaf6e3c4ea71bfd567801e24fd7979d698ca27d265455119d2c516", func := "loop.example/shortestates/laws.FnEvenNamed", spec := "fnEvenNamed", recurses := true, apart := false }
def FnEvenNamedSaid : Prop := fnEvenNamedRow.holds Try.pinned (OpenSpec.ofChange fnEvenNamedSpec)

/-- ITS FALSE NEIGHBOUR: 'it returns false'. Refute it at one input. -/
def fnEvenNamedWrong : ChangeSpec := { name := "fnEvenNamed", fn := fun _ => fun
  | [d] => { results := [.lit (.bool false)], args := [d] }
  | _ => none }
def FnEvenNamedWrongFalsely : Prop := fnEvenNamedRow.holds Try.pinned (OpenSpec.ofChange fnEvenNamedWrong)

/-- 'laws.FnEvenCut': WHATEVER THE INPUT: true; the input reads as it did. -/
def fnEvenCutSpec : ChangeSpec := { name := "fnEvenCut", fn := fun _ => fun
  | [d] => { results := [.lit (.bool true)], args := [d] }
  | _ => none }
def fnEvenCutRow : OpenClaim := { program := "ytpoafafoncgenaa", sum := "67bf75311dcaf6e3c4ea71bfd567801e24fd7979d698ca27d265455119d2c516", func := "loop.example/shortestates/laws.FnEvenCut", spec := "fnEvenCut", recurses := true, apart := false }
def FnEvenCutSaid : Prop := fnEvenCutRow.holds Try.pinned (OpenSpec.ofChange fnEvenCutSpec)

/-- ITS FALSE NEIGHBOUR: 'it returns false'. Refute it at one input. -/
def fnEvenCutWrong : ChangeSpec := { name := "fnEvenCut", fn := fun _ => fun
  | [d] => { results := [.lit (.bool false)], args := [d] }
  | _ => none }
def FnEvenCutWrongFalsely : Prop := fnEvenCutRow.holds Try.pinned (OpenSpec.ofChange fnEvenCutWrong)

/- THE SECOND FORM. 'bulk': how many values and letters a reading holds, each counted each time it is reached (what is shared counts as often as it is met; a slice's spare places count too). A statement '..UptoSaid' is the law's where the arguments, and the package variables that the reading takes, are together of bulk at most 1048576: NARROWER than '..Said'. Prove '..Said' where nothing that the law and all that it calls make is longer than what came in: it says more and counts as full. Else prove '..UptoSaid'. A law counts once. -/
mutual
def uptoBulk {H : Type} : DataW H → Nat
  | .lit (.string bytes) => bytes.length + 1
  | .lit _ => 1
  | .nil => 1
  | .ptr d => uptoBulk d + 1
  | .slice elems spare => uptoBulkAll elems + uptoBulkAll spare + 1
  | .agg parts => uptoBulkAll parts + 1
  | .iface _ d => uptoBulk d + 1
  | .map entries => uptoBulkEntries entries + 1
  | .held _ => 1
def uptoBulkAll {H : Type} : List (DataW H) → Nat
  | [] => 0
  | d :: r => uptoBulk d + uptoBulkAll r
def uptoBulkEntries {H : Type} : List (Lit × DataW H) → Nat
  | [] => 0
  | x :: r => uptoBulkEntry x + uptoBulkEntries r
def uptoBulkEntry {H : Type} : Lit × DataW H → Nat
  | (.string bytes, d) => bytes.length + uptoBulk d + 1
  | (_, d) => uptoBulk d + 1
 end
def uptoSmall : (H : Type) → List (DataW H) → Bool := fun _ ds => decide (uptoBulkAll ds ≤ 1048576)
def OpenSpec.upto (s : _root_.Go.ChangeSpec) : _root_.Go.OpenSpec := { _root_.Go.OpenSpec.ofChange s with cond := some uptoSmall }

/-- 'laws.FnNamedCase', WHERE WHAT IT READS IS OF BULK AT MOST 1048576: true; the input reads as it did. -/
def fnNamedCaseUptoRow : OpenClaim := { program := "ytpoafafoncgenaa", sum := "67bf75311dcaf6e3c4ea71bfd567801e24fd7979d698ca27d265455119d2c516", func := "loop.example/shortestates/laws.FnNamedCase", spec := "fnNamedCase", apart := false, narrowed := true }
def FnNamedCaseUptoSaid : Prop := fnNamedCaseUptoRow.holds Try.pinned (OpenSpec.upto fnNamedCaseSpec)

/-- 'laws.FnAwardsOk', WHERE WHAT IT READS IS OF BULK AT MOST 1048576: true; the input reads as it did. -/
def fnAwardsOkUptoRow : OpenClaim := { program := "ytpoafafoncgenaa", sum := "67bf75311dcaf6e3c4ea71bfd567801e24fd7979d698ca27d265455119d2c516", func := "loop.example/shortestates/laws.FnAwardsOk", spec := "fnAwardsOk", apart := false, narrowed := true }
def FnAwardsOkUptoSaid : Prop := fnAwardsOkUptoRow.holds Try.pinned (OpenSpec.upto fnAwardsOkSpec)

/-- 'laws.FnLossesOf', WHERE WHAT IT READS IS OF BULK AT MOST 1048576: true; the input reads as it did. -/
def fnLossesOfUptoRow : OpenClaim := { program := "ytpoafafoncgenaa", sum := "67bf75311dcaf6e3c4ea71bfd567801e24fd7979d698ca27d265455119d2c516", func := "loop.example/shortestates/laws.FnLossesOf", spec := "fnLossesOf", apart := false, narrowed := true }
def FnLossesOfUptoSaid : Prop := fnLossesOfUptoRow.holds Try.pinned (OpenSpec.upto fnLossesOfSpec)

/-- 'laws.FnRightsMore', WHERE WHAT IT READS IS OF BULK AT MOST 1048576: true; the input reads as it did. -/
def fnRightsMoreUptoRow : OpenClaim := { program := "ytpoafafoncgenaa", sum := "67bf75311dcaf6e3c4ea71bfd567801e24fd7979d698ca27d265455119d2c516", func := "loop.example/shortestates/laws.FnRightsMore", spec := "fnRightsMore", apart := false, narrowed := true }
def FnRightsMoreUptoSaid : Prop := fnRightsMoreUptoRow.holds Try.pinned (OpenSpec.upto fnRightsMoreSpec)

/-- 'laws.FnEvenAwards', WHERE WHAT IT READS IS OF BULK AT MOST 1048576: true; the input reads as it did. -/
def fnEvenAwardsUptoRow : OpenClaim := { program := "ytpoafafoncgenaa", sum := "67bf75311dcaf6e3c4ea71bfd567801e24fd7979d698ca27d265455119d2c516", func := "loop.example/shortestates/laws.FnEvenAwards", spec := "fnEvenAwards", recurses := true, apart := false, narrowed := true }
def FnEvenAwardsUptoSaid : Prop := fnEvenAwardsUptoRow.holds Try.pinned (OpenSpec.upto fnEvenAwardsSpec)

/-- 'laws.FnEvenLevel', WHERE WHAT IT READS IS OF BULK AT MOST 1048576: true; the input reads as it did. -/
def fnEvenLevelUptoRow : OpenClaim := { program := "ytpoafafoncgenaa", sum := "67bf75311dcaf6e3c4ea71bfd567801e24fd7979d698ca27d265455119d2c516", func := "loop.example/shortestates/laws.FnEvenLevel", spec := "fnEvenLevel", recurses := true, apart := false, narrowed := true }
def FnEvenLevelUptoSaid : Prop := fnEvenLevelUptoRow.holds Try.pinned (OpenSpec.upto fnEvenLevelSpec)

/-- 'laws.FnEvenLosses', WHERE WHAT IT READS IS OF BULK AT MOST 1048576: true; the input reads as it did. -/
def fnEvenLossesUptoRow : OpenClaim := { program := "ytpoafafoncgenaa", sum := "67bf75311dcaf6e3c4ea71bfd567801e24fd7979d698ca27d265455119d2c516", func := "loop.example/shortestates/laws.FnEvenLosses", spec := "fnEvenLosses", recurses := true, apart := false, narrowed := true }
def FnEvenLossesUptoSaid : Prop := fnEvenLossesUptoRow.holds Try.pinned (OpenSpec.upto fnEvenLossesSpec)

/-- 'laws.FnEvenRow', WHERE WHAT IT READS IS OF BULK AT MOST 1048576: true; the input reads as it did. -/
def fnEvenRowUptoRow : OpenClaim := { program := "ytpoafafoncgenaa", sum := "67bf75311dcaf6e3c4ea71bfd567801e24fd7979d698ca27d265455119d2c516", func := "loop.example/shortestates/laws.FnEvenRow", spec := "fnEvenRow", recurses := true, apart := false, narrowed := true }
def FnEvenRowUptoSaid : Prop := fnEvenRowUptoRow.holds Try.pinned (OpenSpec.upto fnEvenRowSpec)

/-- 'laws.FnMoreEven', WHERE WHAT IT READS IS OF BULK AT MOST 1048576: true; the input reads as it did. -/
def fnMoreEvenUptoRow : OpenClaim := { program := "ytpoafafoncgenaa", sum := "67bf75311dcaf6e3c4ea71bfd567801e24fd7979d698ca27d265455119d2c516", func := "loop.example/shortestates/laws.FnMoreEven", spec := "fnMoreEven", recurses := true, apart := false, narrowed := true }
def FnMoreEvenUptoSaid : Prop := fnMoreEvenUptoRow.holds Try.pinned (OpenSpec.upto fnMoreEvenSpec)

/-- 'laws.FnLossLevel', WHERE WHAT IT READS IS OF BULK AT MOST 1048576: true; the input reads as it did. -/
def fnLossLevelUptoRow : OpenClaim := { program := "ytpoafafoncgenaa", sum := "67bf75311dcaf6e3c4ea71bfd567801e24fd7979d698ca27d265455119d2c516", func := "loop.example/shortestates/laws.FnLossLevel", spec := "fnLossLevel", recurses := true, apart := false, narrowed := true }
def FnLossLevelUptoSaid : Prop := fnLossLevelUptoRow.holds Try.pinned (OpenSpec.upto fnLossLevelSpec)

/-- 'laws.FnEvenNamed', WHERE WHAT IT READS IS OF BULK AT MOST 1048576: true; the input reads as it did. -/
def fnEvenNamedUptoRow : OpenClaim := { program := "ytpoafafoncgenaa", sum := "67bf75311dcaf6e3c4ea71bfd567801e24fd7979d698ca27d265455119d2c516", func := "loop.example/shortestates/laws.FnEvenNamed", spec := "fnEvenNamed", recurses := true, apart := false, narrowed := true }
def FnEvenNamedUptoSaid : Prop := fnEvenNamedUptoRow.holds Try.pinned (OpenSpec.upto fnEvenNamedSpec)

/-- 'laws.FnEvenCut', WHERE WHAT IT READS IS OF BULK AT MOST 1048576: true; the input reads as it did. -/
def fnEvenCutUptoRow : OpenClaim := { program := "ytpoafafoncgenaa", sum := "67bf75311dcaf6e3c4ea71bfd567801e24fd7979d698ca27d265455119d2c516", func := "loop.example/shortestates/laws.FnEvenCut", spec := "fnEvenCut", recurses := true, apart := false, narrowed := true }
def FnEvenCutUptoSaid : Prop := fnEvenCutUptoRow.holds Try.pinned (OpenSpec.upto fnEvenCutSpec)

end Rows
end Go.Proofs.Ytpoafafoncgenaa
