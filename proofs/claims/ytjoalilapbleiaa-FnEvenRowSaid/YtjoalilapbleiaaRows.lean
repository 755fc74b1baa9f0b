/-
  No cell of these rows narrows 'for every input' (looked for: loops, veiled, ifaces, maps, wideKeys, modest, calm, conditions, laid).
  DERIVED. THE GIVEN ROWS OF THIS SEAT. 5 by the template 'for every input the law returns true; each argument reads behind the call as it read before'; 0 by the template 'total and deterministic' (their statements: YtjoalilapbleiaaTotals.lean).
  GIVEN WITH THE SEED: the statements are not yours to turn. If you find one false, say at which input.
  Laid BY PROGRAM, IN A SANDBOX (cutbox-rows.mjs): the forced cells as the released guide's own fill.sh prints them over the translation aa4d614de7bcb7ce… (all of the seat's roots in one cut). By AI agents, Wed Nov 11 2026. No macro, syntax, notation, axiom, sorry.
-/
import Derived.Test.YtjoalilapbleiaaChecked
import GoSem.Claim
import GoSem.ClaimJoined
import GoSem.ClaimMapViews
import Derived.JoinedTies
import Derived.KernelRfl
namespace Go.Proofs.Ytjoalilapbleiaa
/- THE CELL 'sum', in the pinned program and in every row, IS THE sha256 OF THE DUMP (.gsa) THAT YtjoalilapbleiaaProg.lean LOADS. Nothing in Lean hashes anything: it is a label: what it is worth is what the hold of that sum in a sandbox is worth. -/
noncomputable def Try.pinned : Pinned := { name := "ytjoalilapbleiaa", sum := "aa4d614de7bcb7ce0f56b37d91f5b6acd06242d1594bf1d8c5f243fd211105c7", checked := Try.checked }
namespace Rows
def none {H : Type} : Left H := { results := [], args := [] }

/-- 'laws.FnRightsMore': WHATEVER THE INPUT: true; the input reads as it did. -/
def fnRightsMoreSpec : ChangeSpec := { name := "fnRightsMore", fn := fun _ => fun
  | [d] => { results := [.lit (.bool true)], args := [d] }
  | _ => none }
def fnRightsMoreRow : OpenClaim := { program := "ytjoalilapbleiaa", sum := "aa4d614de7bcb7ce0f56b37d91f5b6acd06242d1594bf1d8c5f243fd211105c7", func := "loop.example/shortestates/laws.FnRightsMore", spec := "fnRightsMore", apart := false }
def FnRightsMoreSaid : Prop := fnRightsMoreRow.holds Try.pinned (OpenSpec.ofChange fnRightsMoreSpec)

/-- ITS FALSE NEIGHBOUR: 'it returns false'. Refute it at one input. -/
def fnRightsMoreWrong : ChangeSpec := { name := "fnRightsMore", fn := fun _ => fun
  | [d] => { results := [.lit (.bool false)], args := [d] }
  | _ => none }
def FnRightsMoreWrongFalsely : Prop := fnRightsMoreRow.holds Try.pinned (OpenSpec.ofChange fnRightsMoreWrong)

/-- 'laws.FnEvenAwards': WHATEVER THE INPUT: true; the input reads as it did. -/
def fnEvenAwardsSpec : ChangeSpec := { name := "fnEvenAwards", fn := fun _ => fun
  | [d1, d2] => { results := [.lit (.bool true)], args := [d1, d2] }
  | _ => none }
def fnEvenAwardsRow : OpenClaim := { program := "ytjoalilapbleiaa", sum := "aa4d614de7bcb7ce0f56b37d91f5b6acd06242d1594bf1d8c5f243fd211105c7", func := "loop.example/shortestates/laws.FnEvenAwards", spec := "fnEvenAwards", recurses := true, apart := false }
def FnEvenAwardsSaid : Prop := fnEvenAwardsRow.holds Try.pinned (OpenSpec.ofChange fnEvenAwardsSpec)

/-- ITS FALSE NEIGHBOUR: 'it returns false'. Refute it at one input. -/
def fnEvenAwardsWrong : ChangeSpec := { name := "fnEvenAwards", fn := fun _ => fun
  | [d1, d2] => { results := [.lit (.bool false)], args := [d1, d2] }
  | _ => none }
def FnEvenAwardsWrongFalsely : Prop := fnEvenAwardsRow.holds Try.pinned (OpenSpec.ofChange fnEvenAwardsWrong)

/-- 'laws.FnEvenLosses': WHATEVER THE INPUT: true; the input reads as it did. -/
def fnEvenLossesSpec : ChangeSpec := { name := "fnEvenLosses", fn := fun _ => fun
  | [d1, d2] => { results := [.lit (.bool true)], args := [d1, d2] }
  | _ => none }
def fnEvenLossesRow : OpenClaim := { program := "ytjoalilapbleiaa", sum := "aa4d614de7bcb7ce0f56b37d91f5b6acd06242d1594bf1d8c5f243fd211105c7", func := "loop.example/shortestates/laws.FnEvenLosses", spec := "fnEvenLosses", recurses := true, apart := false }
def FnEvenLossesSaid : Prop := fnEvenLossesRow.holds Try.pinned (OpenSpec.ofChange fnEvenLossesSpec)

/-- ITS FALSE NEIGHBOUR: 'it returns false'. Refute it at one input. -/
def fnEvenLossesWrong : ChangeSpec := { name := "fnEvenLosses", fn := fun _ => fun
  | [d1, d2] => { results := [.lit (.bool false)], args := [d1, d2] }
  | _ => none }
def FnEvenLossesWrongFalsely : Prop := fnEvenLossesRow.holds Try.pinned (OpenSpec.ofChange fnEvenLossesWrong)

/-- 'laws.FnEvenRow': WHATEVER THE INPUT: true; the input reads as it did. -/
def fnEvenRowSpec : ChangeSpec := { name := "fnEvenRow", fn := fun _ => fun
  | [d] => { results := [.lit (.bool true)], args := [d] }
  | _ => none }
def fnEvenRowRow : OpenClaim := { program := "ytjoalilapbleiaa", sum := "aa4d614de7bcb7ce0f56b37d91f5b6acd06242d1594bf1d8c5f243fd211105c7", func := "loop.example/shortestates/laws.FnEvenRow", spec := "fnEvenRow", recurses := true, apart := false }
def FnEvenRowSaid : Prop := fnEvenRowRow.holds Try.pinned (OpenSpec.ofChange fnEvenRowSpec)

/-- ITS FALSE NEIGHBOUR: 'it returns false'. Refute it at one input. -/
def fnEvenRowWrong : ChangeSpec := { name := "fnEvenRow", fn := fun _ => fun
  | [d] => { results := [.lit (.bool false)], args := [d] }
  | _ => none }
def FnEvenRowWrongFalsely : Prop := fnEvenRowRow.holds Try.pinned (OpenSpec.ofChange fnEvenRowWrong)

/-- 'laws.FnMoreEven': WHATEVER THE INPUT: true; the input reads as it did. -/
def fnMoreEvenSpec : ChangeSpec := { name := "fnMoreEven", fn := fun _ => fun
  | [d] => { results := [.lit (.bool true)], args := [d] }
  | _ => none }
def fnMoreEvenRow : OpenClaim := { program := "ytjoalilapbleiaa", sum := "aa4d614de7bcb7ce0f56b37d91f5b6acd06242d1594bf1d8c5f243fd211105c7", func := "loop.example/shortestates/laws.FnMoreEven", spec := "fnMoreEven", recurses := true, apart := false }
def FnMoreEvenSaid : Prop := fnMoreEvenRow.holds Try.pinned (OpenSpec.ofChange fnMoreEvenSpec)

/-- ITS FALSE NEIGHBOUR: 'it returns false'. Refute it at one input. -/
def fnMoreEvenWrong : ChangeSpec := { name := "fnMoreEven", fn := fun _ => fun
  | [d] => { results := [.lit (.bool false)], args := [d] }
  | _ => none }
def FnMoreEvenWrongFalsely : Prop := fnMoreEvenRow.holds Try.pinned (OpenSpec.ofChange fnMoreEvenWrong)

/- THE SECOND FORM. 'bulk': how many values and letters a reading holds, each counted each time it is reached (what is shared counts as often as it is met; a slice's spare places count too). A statement '..UptoSaid' is the law's where the arguments, and the package variables that the reading takes, are together of bulk at most 1048576: NARROWER than '..Said'. Prove '..Said' where nothing that the law and all that it calls make is longer than what came in: it says more and counts as full. Else prove '..UptoSaid'. A law counts once. -/
mutual
def uptoBulk {H : Type} : DataW H → Nat
  | .lit (.string bytes) => bytes.length + 1
  | .lit _ => 1
  | .nil => 1
  | .ptr d => uptoBulk d + 1
  | .slice elems spare => uptoBulkAll elems + uptoBulkAll spare + 1
  | .agg parts => uptoBulkAll parts + 1
  | .iface _ d => uptoBulk d + 1
  | .map entries => uptoBulkEntries entries + 1
  | .held _ => 1
def uptoBulkAll {H : Type} : List (DataW H) → Nat
  | [] => 0
  | d :: r => uptoBulk d + uptoBulkAll r
def uptoBulkEntries {H : Type} : List (Lit × DataW H) → Nat
  | [] => 0
  | x :: r => uptoBulkEntry x + uptoBulkEntries r
def uptoBulkEntry {H : Type} : Lit × DataW H → Nat
  | (.string bytes, d) => bytes.length + uptoBulk d + 1
  | (_, d) => uptoBulk d + 1
 end
def uptoSmall : (H : Type) → List (DataW H) → Bool := fun _ ds => decide (uptoBulkAll ds ≤ 1048576)
def OpenSpec.upto (s : _root_.Go.ChangeSpec) : _root_.Go.OpenSpec := { _root_.Go.OpenSpec.ofChange s with cond := some uptoSmall }

/-- 'laws.FnRightsMore', WHERE WHAT IT READS IS OF BULK AT MOST 1048576: true; the input reads as it did. -/
def fnRightsMoreUptoRow : OpenClaim := { program := "ytjoalilapbleiaa", sum := "aa4d614de7bcb7ce0f56b37d91f5b6acd06242d1594bf1d8c5f243fd211105c7", func := "loop.example/shortestates/laws.FnRightsMore", spec := "fnRightsMore", apart := false, narrowed := true }
def FnRightsMoreUptoSaid : Prop := fnRightsMoreUptoRow.holds Try.pinned (OpenSpec.upto fnRightsMoreSpec)

/-- 'laws.FnEvenAwards', WHERE WHAT IT READS IS OF BULK AT MOST 1048576: true; the input reads as it did. -/
def fnEvenAwardsUptoRow : OpenClaim := { program := "ytjoalilapbleiaa", sum := "aa4d614de7bcb7ce0f56b37d91f5b6acd06242d1594bf1d8c5f243fd211105c7", func := "loop.example/shortestates/laws.FnEvenAwards", spec := "fnEvenAwards", recurses := true, apart := false, narrowed := true }
def FnEvenAwardsUptoSaid : Prop := fnEvenAwardsUptoRow.holds Try.pinned (OpenSpec.upto fnEvenAwardsSpec)

/-- 'laws.FnEvenLosses', WHERE WHAT IT READS IS OF BULK AT MOST 1048576: true; the input reads as it did. -/
def fnEvenLossesUptoRow : OpenClaim := { program := "ytjoalilapbleiaa", sum := "aa4d614de7bcb7ce0f56b37d91f5b6acd06242d1594bf1d8c5f243fd211105c7", func := "loop.example/shortestates/laws.FnEvenLosses", spec := "fnEvenLosses", recurses := true, apart := false, narrowed := true }
def FnEvenLossesUptoSaid : Prop := fnEvenLossesUptoRow.holds Try.pinned (OpenSpec.upto fnEvenLossesSpec)

/-- 'laws.FnEvenRow', WHERE WHAT IT READS IS OF BULK AT MOST 1048576: true; the input reads as it did. -/
def fnEvenRowUptoRow : OpenClaim := { program := "ytjoalilapbleiaa", sum := "aa4d614de7bcb7ce0f56b37d91f5b6acd06242d1594bf1d8c5f243fd211105c7", func := "loop.example/shortestates/laws.FnEvenRow", spec := "fnEvenRow", recurses := true, apart := false, narrowed := true }
def FnEvenRowUptoSaid : Prop := fnEvenRowUptoRow.holds Try.pinned (OpenSpec.upto fnEvenRowSpec)

/-- 'laws.FnMoreEven', WHERE WHAT IT READS IS OF BULK AT MOST 1048576: true; the input reads as it did. -/
def fnMoreEvenUptoRow : OpenClaim := { program := "ytjoalilapbleiaa", sum := "aa4d614de7bcb7ce0f56b37d91f5b6acd06242d1594bf1d8c5f243fd211105c7", func := "loop.example/shortestates/laws.FnMoreEven", spec := "fnMoreEven", recurses := true, apart := false, narrowed := true }
def FnMoreEvenUptoSaid : Prop := fnMoreEvenUptoRow.holds Try.pinned (OpenSpec.upto fnMoreEvenSpec)

end Rows
end Go.Proofs.Ytjoalilapbleiaa
