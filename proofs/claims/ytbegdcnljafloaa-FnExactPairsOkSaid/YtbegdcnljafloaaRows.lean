/-
  No cell of these rows narrows 'for every input' (looked for: loops, veiled, ifaces, maps, wideKeys, modest, calm, conditions, laid).
  DERIVED. THE GIVEN ROWS OF THIS SEAT. 8 by the template 'for every input the law returns true; each argument reads behind the call as it read before'; 0 by the template 'total and deterministic' (their statements: YtbegdcnljafloaaTotals.lean).
  GIVEN WITH THE SEED: the statements are not yours to turn. If you find one false, say at which input.
  Laid BY PROGRAM, IN A SANDBOX (cutbox-rows.mjs): the forced cells as the released guide's own fill.sh prints them over the translation 722463784e7f7a01… (all of the seat's roots in one cut). By AI agents, Wed Nov 11 2026. No macro, syntax, notation, axiom, sorry.
-/
import Derived.Test.YtbegdcnljafloaaChecked
import GoSem.Claim
import GoSem.ClaimJoined
import GoSem.ClaimMapViews
import Derived.JoinedTies
import Derived.KernelRfl
namespace Go.Proofs.Ytbegdcnljafloaa
/- THE CELL 'sum', in the pinned program and in every row, IS THE sha256 OF THE DUMP (.gsa) THAT YtbegdcnljafloaaProg.lean LOADS. Nothing in Lean hashes anything: it is a label: what it is worth is what the hold of that sum in a sandbox is worth. -/
noncomputable def Try.pinned : Pinned := { name := "ytbegdcnljafloaa", sum := "722463784e7f7a01c6b8a49e01bdcadd707e1a1084ea78f6fddd8f78176edc4b", checked := Try.checked }
namespace Rows
def none {H : Type} : Left H := { results := [], args := [] }

/-- 'laws.FnPairTwice': WHATEVER THE INPUT: true; the input reads as it did. -/
def fnPairTwiceSpec : ChangeSpec := { name := "fnPairTwice", fn := fun _ => fun
  | [d] => { results := [.lit (.bool true)], args := [d] }
  | _ => none }
def fnPairTwiceRow : OpenClaim := { program := "ytbegdcnljafloaa", sum := "722463784e7f7a01c6b8a49e01bdcadd707e1a1084ea78f6fddd8f78176edc4b", func := "loop.example/shortestates/laws.FnPairTwice", spec := "fnPairTwice", apart := false }
def FnPairTwiceSaid : Prop := fnPairTwiceRow.holds Try.pinned (OpenSpec.ofChange fnPairTwiceSpec)

/-- ITS FALSE NEIGHBOUR: 'it returns false'. Refute it at one input. -/
def fnPairTwiceWrong : ChangeSpec := { name := "fnPairTwice", fn := fun _ => fun
  | [d] => { results := [.lit (.bool false)], args := [d] }
  | _ => none }
def FnPairTwiceWrongFalsely : Prop := fnPairTwiceRow.holds Try.pinned (OpenSpec.ofChange fnPairTwiceWrong)

/-- 'laws.FnPairsOk': WHATEVER THE INPUT: true; the input reads as it did. -/
def fnPairsOkSpec : ChangeSpec := { name := "fnPairsOk", fn := fun _ => fun
  | [d] => { results := [.lit (.bool true)], args := [d] }
  | _ => none }
def fnPairsOkRow : OpenClaim := { program := "ytbegdcnljafloaa", sum := "722463784e7f7a01c6b8a49e01bdcadd707e1a1084ea78f6fddd8f78176edc4b", func := "loop.example/shortestates/laws.FnPairsOk", spec := "fnPairsOk", apart := false }
def FnPairsOkSaid : Prop := fnPairsOkRow.holds Try.pinned (OpenSpec.ofChange fnPairsOkSpec)

/-- ITS FALSE NEIGHBOUR: 'it returns false'. Refute it at one input. -/
def fnPairsOkWrong : ChangeSpec := { name := "fnPairsOk", fn := fun _ => fun
  | [d] => { results := [.lit (.bool false)], args := [d] }
  | _ => none }
def FnPairsOkWrongFalsely : Prop := fnPairsOkRow.holds Try.pinned (OpenSpec.ofChange fnPairsOkWrong)

/-- 'laws.FnPairMore': WHATEVER THE INPUT: true; the input reads as it did. -/
def fnPairMoreSpec : ChangeSpec := { name := "fnPairMore", fn := fun _ => fun
  | [d] => { results := [.lit (.bool true)], args := [d] }
  | _ => none }
def fnPairMoreRow : OpenClaim := { program := "ytbegdcnljafloaa", sum := "722463784e7f7a01c6b8a49e01bdcadd707e1a1084ea78f6fddd8f78176edc4b", func := "loop.example/shortestates/laws.FnPairMore", spec := "fnPairMore", apart := false }
def FnPairMoreSaid : Prop := fnPairMoreRow.holds Try.pinned (OpenSpec.ofChange fnPairMoreSpec)

/-- ITS FALSE NEIGHBOUR: 'it returns false'. Refute it at one input. -/
def fnPairMoreWrong : ChangeSpec := { name := "fnPairMore", fn := fun _ => fun
  | [d] => { results := [.lit (.bool false)], args := [d] }
  | _ => none }
def FnPairMoreWrongFalsely : Prop := fnPairMoreRow.holds Try.pinned (OpenSpec.ofChange fnPairMoreWrong)

/-- 'laws.FnRunwayShares': WHATEVER THE INPUT: true; the input reads as it did. -/
def fnRunwaySharesSpec : ChangeSpec := { name := "fnRunwayShares", fn := fun _ => fun
  | [d] => { results := [.lit (.bool true)], args := [d] }
  | _ => none }
def fnRunwaySharesRow : OpenClaim := { program := "ytbegdcnljafloaa", sum := "722463784e7f7a01c6b8a49e01bdcadd707e1a1084ea78f6fddd8f78176edc4b", func := "loop.example/shortestates/laws.FnRunwayShares", spec := "fnRunwayShares", unfollowed := true, recurses := true, apart := false }
def FnRunwaySharesSaid : Prop := fnRunwaySharesRow.holds Try.pinned (OpenSpec.ofChange fnRunwaySharesSpec)

/-- ITS FALSE NEIGHBOUR: 'it returns false'. Refute it at one input. -/
def fnRunwaySharesWrong : ChangeSpec := { name := "fnRunwayShares", fn := fun _ => fun
  | [d] => { results := [.lit (.bool false)], args := [d] }
  | _ => none }
def FnRunwaySharesWrongFalsely : Prop := fnRunwaySharesRow.holds Try.pinned (OpenSpec.ofChange fnRunwaySharesWrong)

/-- 'laws.FnRunwayOrders': WHATEVER THE INPUT: true; the input reads as it did. -/
def fnRunwayOrdersSpec : ChangeSpec := { name := "fnRunwayOrders", fn := fun _ => fun
  | [d] => { results := [.lit (.bool true)], args := [d] }
  | _ => none }
def fnRunwayOrdersRow : OpenClaim := { program := "ytbegdcnljafloaa", sum := "722463784e7f7a01c6b8a49e01bdcadd707e1a1084ea78f6fddd8f78176edc4b", func := "loop.example/shortestates/laws.FnRunwayOrders", spec := "fnRunwayOrders", unfollowed := true, recurses := true, apart := false }
def FnRunwayOrdersSaid : Prop := fnRunwayOrdersRow.holds Try.pinned (OpenSpec.ofChange fnRunwayOrdersSpec)

/-- ITS FALSE NEIGHBOUR: 'it returns false'. Refute it at one input. -/
def fnRunwayOrdersWrong : ChangeSpec := { name := "fnRunwayOrders", fn := fun _ => fun
  | [d] => { results := [.lit (.bool false)], args := [d] }
  | _ => none }
def FnRunwayOrdersWrongFalsely : Prop := fnRunwayOrdersRow.holds Try.pinned (OpenSpec.ofChange fnRunwayOrdersWrong)

/-- 'laws.FnExactRunwayOrders': WHATEVER THE INPUT: true; the input reads as it did. -/
def fnExactRunwayOrdersSpec : ChangeSpec := { name := "fnExactRunwayOrders", fn := fun _ => fun
  | [d] => { results := [.lit (.bool true)], args := [d] }
  | _ => none }
def fnExactRunwayOrdersRow : OpenClaim := { program := "ytbegdcnljafloaa", sum := "722463784e7f7a01c6b8a49e01bdcadd707e1a1084ea78f6fddd8f78176edc4b", func := "loop.example/shortestates/laws.FnExactRunwayOrders", spec := "fnExactRunwayOrders", unfollowed := true, recurses := true, apart := false }
def FnExactRunwayOrdersSaid : Prop := fnExactRunwayOrdersRow.holds Try.pinned (OpenSpec.ofChange fnExactRunwayOrdersSpec)

/-- ITS FALSE NEIGHBOUR: 'it returns false'. Refute it at one input. -/
def fnExactRunwayOrdersWrong : ChangeSpec := { name := "fnExactRunwayOrders", fn := fun _ => fun
  | [d] => { results := [.lit (.bool false)], args := [d] }
  | _ => none }
def FnExactRunwayOrdersWrongFalsely : Prop := fnExactRunwayOrdersRow.holds Try.pinned (OpenSpec.ofChange fnExactRunwayOrdersWrong)

/-- 'laws.FnExactPairTwice': WHATEVER THE INPUT: true; the input reads as it did. -/
def fnExactPairTwiceSpec : ChangeSpec := { name := "fnExactPairTwice", fn := fun _ => fun
  | [d1, d2, d3] => { results := [.lit (.bool true)], args := [d1, d2, d3] }
  | _ => none }
def fnExactPairTwiceRow : OpenClaim := { program := "ytbegdcnljafloaa", sum := "722463784e7f7a01c6b8a49e01bdcadd707e1a1084ea78f6fddd8f78176edc4b", func := "loop.example/shortestates/laws.FnExactPairTwice", spec := "fnExactPairTwice", apart := false }
def FnExactPairTwiceSaid : Prop := fnExactPairTwiceRow.holds Try.pinned (OpenSpec.ofChange fnExactPairTwiceSpec)

/-- ITS FALSE NEIGHBOUR: 'it returns false'. Refute it at one input. -/
def fnExactPairTwiceWrong : ChangeSpec := { name := "fnExactPairTwice", fn := fun _ => fun
  | [d1, d2, d3] => { results := [.lit (.bool false)], args := [d1, d2, d3] }
  | _ => none }
def FnExactPairTwiceWrongFalsely : Prop := fnExactPairTwiceRow.holds Try.pinned (OpenSpec.ofChange fnExactPairTwiceWrong)

/-- 'laws.FnExactPairsOk': WHATEVER THE INPUT: true; the input reads as it did. -/
def fnExactPairsOkSpec : ChangeSpec := { name := "fnExactPairsOk", fn := fun _ => fun
  | [d1, d2] => { results := [.lit (.bool true)], args := [d1, d2] }
  | _ => none }
def fnExactPairsOkRow : OpenClaim := { program := "ytbegdcnljafloaa", sum := "722463784e7f7a01c6b8a49e01bdcadd707e1a1084ea78f6fddd8f78176edc4b", func := "loop.example/shortestates/laws.FnExactPairsOk", spec := "fnExactPairsOk", apart := false }
def FnExactPairsOkSaid : Prop := fnExactPairsOkRow.holds Try.pinned (OpenSpec.ofChange fnExactPairsOkSpec)

/-- ITS FALSE NEIGHBOUR: 'it returns false'. Refute it at one input. -/
def fnExactPairsOkWrong : ChangeSpec := { name := "fnExactPairsOk", fn := fun _ => fun
  | [d1, d2] => { results := [.lit (.bool false)], args := [d1, d2] }
  | _ => none }
def FnExactPairsOkWrongFalsely : Prop := fnExactPairsOkRow.holds Try.pinned (OpenSpec.ofChange fnExactPairsOkWrong)

/- THE SECOND FORM. 'bulk': how many values and letters a reading holds, each counted each time it is reached (what is shared counts as often as it is met; a slice's spare places count too). A statement '..UptoSaid' is the law's where the arguments, and the package variables that the reading takes, are together of bulk at most 1048576: NARROWER than '..Said'. Prove '..Said' where nothing that the law and all that it calls make is longer than what came in: it says more and counts as full. Else prove '..UptoSaid'. A law counts once. -/
mutual
def uptoBulk {H : Type} : DataW H → Nat
  | .lit (.string bytes) => bytes.length + 1
  | .lit _ => 1
  | .nil => 1
  | .ptr d => uptoBulk d + 1
  | .slice elems spare => uptoBulkAll elems + uptoBulkAll spare + 1
  | .agg parts => uptoBulkAll parts + 1
  | .iface _ d => uptoBulk d + 1
  | .map entries => uptoBulkEntries entries + 1
  | .held _ => 1
def uptoBulkAll {H : Type} : List (DataW H) → Nat
  | [] => 0
  | d :: r => uptoBulk d + uptoBulkAll r
def uptoBulkEntries {H : Type} : List (Lit × DataW H) → Nat
  | [] => 0
  | x :: r => uptoBulkEntry x + uptoBulkEntries r
def uptoBulkEntry {H : Type} : Lit × DataW H → Nat
  | (.string bytes, d) => bytes.length + uptoBulk d + 1
  | (_, d) => uptoBulk d + 1
 end
def uptoSmall : (H : Type) → List (DataW H) → Bool := fun _ ds => decide (uptoBulkAll ds ≤ 1048576)
def OpenSpec.upto (s : _root_.Go.ChangeSpec) : _root_.Go.OpenSpec := { _root_.Go.OpenSpec.ofChange s with cond := some uptoSmall }

/-- 'laws.FnPairTwice', WHERE WHAT IT READS IS OF BULK AT MOST 1048576: true; the input reads as it did. -/
def fnPairTwiceUptoRow : OpenClaim := { program := "ytbegdcnljafloaa", sum := "722463784e7f7a01c6b8a49e01bdcadd707e1a1084ea78f6fddd8f78176edc4b", func := "loop.example/shortestates/laws.FnPairTwice", spec := "fnPairTwice", apart := false, narrowed := true }
def FnPairTwiceUptoSaid : Prop := fnPairTwiceUptoRow.holds Try.pinned (OpenSpec.upto fnPairTwiceSpec)

/-- 'laws.FnPairsOk', WHERE WHAT IT READS IS OF BULK AT MOST 1048576: true; the input reads as it did. -/
def fnPairsOkUptoRow : OpenClaim := { program := "ytbegdcnljafloaa", sum := "722463784e7f7a01c6b8a49e01bdcadd707e1a1084ea78f6fddd8f78176edc4b", func := "loop.example/shortestates/laws.FnPairsOk", spec := "fnPairsOk", apart := false, narrowed := true }
def FnPairsOkUptoSaid : Prop := fnPairsOkUptoRow.holds Try.pinned (OpenSpec.upto fnPairsOkSpec)

/-- 'laws.FnPairMore', WHERE WHAT IT READS IS OF BULK AT MOST 1048576: true; the input reads as it did. -/
def fnPairMoreUptoRow : OpenClaim := { program := "ytbegdcnljafloaa", sum := "722463784e7f7a01c6b8a49e01bdcadd707e1a1084ea78f6fddd8f78176edc4b", func := "loop.example/shortestates/laws.FnPairMore", spec := "fnPairMore", apart := false, narrowed := true }
def FnPairMoreUptoSaid : Prop := fnPairMoreUptoRow.holds Try.pinned (OpenSpec.upto fnPairMoreSpec)

/-- 'laws.FnRunwayShares', WHERE WHAT IT READS IS OF BULK AT MOST 1048576: true; the input reads as it did. -/
def fnRunwaySharesUptoRow : OpenClaim := { program := "ytbegdcnljafloaa", sum := "722463784e7f7a01c6b8a49e01bdcadd707e1a1084ea78f6fddd8f78176edc4b", func := "loop.example/shortestates/laws.FnRunwayShares", spec := "fnRunwayShares", unfollowed := true, recurses := true, apart := false, narrowed := true }
def FnRunwaySharesUptoSaid : Prop := fnRunwaySharesUptoRow.holds Try.pinned (OpenSpec.upto fnRunwaySharesSpec)

/-- 'laws.FnRunwayOrders', WHERE WHAT IT READS IS OF BULK AT MOST 1048576: true; the input reads as it did. -/
def fnRunwayOrdersUptoRow : OpenClaim := { program := "ytbegdcnljafloaa", sum := "722463784e7f7a01c6b8a49e01bdcadd707e1a1084ea78f6fddd8f78176edc4b", func := "loop.example/shortestates/laws.FnRunwayOrders", spec := "fnRunwayOrders", unfollowed := true, recurses := true, apart := false, narrowed := true }
def FnRunwayOrdersUptoSaid : Prop := fnRunwayOrdersUptoRow.holds Try.pinned (OpenSpec.upto fnRunwayOrdersSpec)

/-- 'laws.FnExactRunwayOrders', WHERE WHAT IT READS IS OF BULK AT MOST 1048576: true; the input reads as it did. -/
def fnExactRunwayOrdersUptoRow : OpenClaim := { program := "ytbegdcnljafloaa", sum := "722463784e7f7a01c6b8a49e01bdcadd707e1a1084ea78f6fddd8f78176edc4b", func := "loop.example/shortestates/laws.FnExactRunwayOrders", spec := "fnExactRunwayOrders", unfollowed := true, recurses := true, apart := false, narrowed := true }
def FnExactRunwayOrdersUptoSaid : Prop := fnExactRunwayOrdersUptoRow.holds Try.pinned (OpenSpec.upto fnExactRunwayOrdersSpec)

/-- 'laws.FnExactPairTwice', WHERE WHAT IT READS IS OF BULK AT MOST 1048576: true; the input reads as it did. -/
def fnExactPairTwiceUptoRow : OpenClaim := { program := "ytbegdcnljafloaa", sum := "722463784e7f7a01c6b8a49e01bdcadd707e1a1084ea78f6fddd8f78176edc4b", func := "loop.example/shortestates/laws.FnExactPairTwice", spec := "fnExactPairTwice", apart := false, narrowed := true }
def FnExactPairTwiceUptoSaid : Prop := fnExactPairTwiceUptoRow.holds Try.pinned (OpenSpec.upto fnExactPairTwiceSpec)

/-- 'laws.FnExactPairsOk', WHERE WHAT IT READS IS OF BULK AT MOST 1048576: true; the input reads as it did. -/
def fnExactPairsOkUptoRow : OpenClaim := { program := "ytbegdcnljafloaa", sum := "722463784e7f7a01c6b8a49e01bdcadd707e1a1084ea78f6fddd8f78176edc4b", func := "loop.example/shortestates/laws.FnExactPairsOk", spec := "fnExactPairsOk", apart := false, narrowed := true }
def FnExactPairsOkUptoSaid : Prop := fnExactPairsOkUptoRow.holds Try.pinned (OpenSpec.upto fnExactPairsOkSpec)

end Rows
end Go.Proofs.Ytbegdcnljafloaa
