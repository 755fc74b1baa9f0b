/-
  No cell of these rows narrows 'for every input' (looked for: loops, veiled, ifaces, maps, wideKeys, modest, calm, conditions, laid).
  DERIVED. THE GIVEN ROWS OF THIS SEAT. 13 by the template 'for every input the law returns true; each argument reads behind the call as it read before'; 0 by the template 'total and deterministic' (their statements: YtpdlppmkjkbboaaTotals.lean).
  GIVEN WITH THE SEED: the statements are not yours to turn. If you find one false, say at which input.
  Laid BY PROGRAM, IN A SANDBOX (cutbox-rows.mjs): the forced cells as the released guide's own fill.sh prints them over the translation 9001e45dbdd05152… (all of the seat's roots in one cut). By AI agents, Wed Nov 11 2026. No macro, syntax, notation, axiom, sorry.
-/
import Derived.Test.YtpdlppmkjkbboaaChecked
import GoSem.Claim
import GoSem.ClaimJoined
import GoSem.ClaimMapViews
import Derived.JoinedTies
import Derived.KernelRfl
namespace Go.Proofs.Ytpdlppmkjkbboaa
/- THE CELL 'sum', in the pinned program and in every row, IS THE sha256 OF THE DUMP (.gsa) THAT YtpdlppmkjkbboaaProg.lean LOADS. Nothing in Lean hashes anything: it is a label: what it is worth is what the hold of that sum in a sandbox is worth. -/
noncomputable def Try.pinned : Pinned := { name := "ytpdlppmkjkbboaa", sum := "9001e45dbdd05152d37583e00c289e6048d6c3959d679fa2ff3c6c3da4f174b4", checked := Try.checked }
namespace Rows
def none {H : Type} : Left H := { results := [], args := [] }

/-- 'laws.FnBidsOk': WHATEVER THE INPUT: true; the input reads as it did. -/
def fnBidsOkSpec : ChangeSpec := { name := "fnBidsOk", fn := fun _ => fun
  | [d] => { results := [.lit (.bool true)], args := [d] }
  | _ => none }
def fnBidsOkRow : OpenClaim := { program := "ytpdlppmkjkbboaa", sum := "9001e45dbdd05152d37583e00c289e6048d6c3959d679fa2ff3c6c3da4f174b4", func := "loop.example/shortestates/laws.FnBidsOk", spec := "fnBidsOk", apart := false }
def FnBidsOkSaid : Prop := fnBidsOkRow.holds Try.pinned (OpenSpec.ofChange fnBidsOkSpec)

/-- ITS FALSE NEIGHBOUR: 'it returns false'. Refute it at one input. -/
def fnBidsOkWrong : ChangeSpec := { name := "fnBidsOk", fn := fun _ => fun
  | [d] => { results := [.lit (.bool false)], args := [d] }
  | _ => none }
def FnBidsOkWrongFalsely : Prop := fnBidsOkRow.holds Try.pinned (OpenSpec.ofChange fnBidsOkWrong)

/-- 'laws.FnTakersOf': WHATEVER THE INPUT: true; the input reads as it did. -/
def fnTakersOfSpec : ChangeSpec := { name := "fnTakersOf", fn := fun _ => fun
  | [d] => { results := [.lit (.bool true)], args := [d] }
  | _ => none }
def fnTakersOfRow : OpenClaim := { program := "ytpdlppmkjkbboaa", sum := "9001e45dbdd05152d37583e00c289e6048d6c3959d679fa2ff3c6c3da4f174b4", func := "loop.example/shortestates/laws.FnTakersOf", spec := "fnTakersOf", apart := false }
def FnTakersOfSaid : Prop := fnTakersOfRow.holds Try.pinned (OpenSpec.ofChange fnTakersOfSpec)

/-- ITS FALSE NEIGHBOUR: 'it returns false'. Refute it at one input. -/
def fnTakersOfWrong : ChangeSpec := { name := "fnTakersOf", fn := fun _ => fun
  | [d] => { results := [.lit (.bool false)], args := [d] }
  | _ => none }
def FnTakersOfWrongFalsely : Prop := fnTakersOfRow.holds Try.pinned (OpenSpec.ofChange fnTakersOfWrong)

/-- 'laws.FnFairRow': WHATEVER THE INPUT: true; the input reads as it did. -/
def fnFairRowSpec : ChangeSpec := { name := "fnFairRow", fn := fun _ => fun
  | [d] => { results := [.lit (.bool true)], args := [d] }
  | _ => none }
def fnFairRowRow : OpenClaim := { program := "ytpdlppmkjkbboaa", sum := "9001e45dbdd05152d37583e00c289e6048d6c3959d679fa2ff3c6c3da4f174b4", func := "loop.example/shortestates/laws.FnFairRow", spec := "fnFairRow", apart := false }
def FnFairRowSaid : Prop := fnFairRowRow.holds Try.pinned (OpenSpec.ofChange fnFairRowSpec)

/-- ITS FALSE NEIGHBOUR: 'it returns false'. Refute it at one input. -/
def fnFairRowWrong : ChangeSpec := { name := "fnFairRow", fn := fun _ => fun
  | [d] => { results := [.lit (.bool false)], args := [d] }
  | _ => none }
def FnFairRowWrongFalsely : Prop := fnFairRowRow.holds Try.pinned (OpenSpec.ofChange fnFairRowWrong)

/-- 'laws.FnSurplusOf': WHATEVER THE INPUT: true; the input reads as it did. -/
def fnSurplusOfSpec : ChangeSpec := { name := "fnSurplusOf", fn := fun _ => fun
  | [d] => { results := [.lit (.bool true)], args := [d] }
  | _ => none }
def fnSurplusOfRow : OpenClaim := { program := "ytpdlppmkjkbboaa", sum := "9001e45dbdd05152d37583e00c289e6048d6c3959d679fa2ff3c6c3da4f174b4", func := "loop.example/shortestates/laws.FnSurplusOf", spec := "fnSurplusOf", apart := false }
def FnSurplusOfSaid : Prop := fnSurplusOfRow.holds Try.pinned (OpenSpec.ofChange fnSurplusOfSpec)

/-- ITS FALSE NEIGHBOUR: 'it returns false'. Refute it at one input. -/
def fnSurplusOfWrong : ChangeSpec := { name := "fnSurplusOf", fn := fun _ => fun
  | [d] => { results := [.lit (.bool false)], args := [d] }
  | _ => none }
def FnSurplusOfWrongFalsely : Prop := fnSurplusOfRow.holds Try.pinned (OpenSpec.ofChange fnSurplusOfWrong)

/-- 'laws.FnPaidRow': WHATEVER THE INPUT: true; the input reads as it did. -/
def fnPaidRowSpec : ChangeSpec := { name := "fnPaidRow", fn := fun _ => fun
  | [d] => { results := [.lit (.bool true)], args := [d] }
  | _ => none }
def fnPaidRowRow : OpenClaim := { program := "ytpdlppmkjkbboaa", sum := "9001e45dbdd05152d37583e00c289e6048d6c3959d679fa2ff3c6c3da4f174b4", func := "loop.example/shortestates/laws.FnPaidRow", spec := "fnPaidRow", apart := false }
def FnPaidRowSaid : Prop := fnPaidRowRow.holds Try.pinned (OpenSpec.ofChange fnPaidRowSpec)

/-- ITS FALSE NEIGHBOUR: 'it returns false'. Refute it at one input. -/
def fnPaidRowWrong : ChangeSpec := { name := "fnPaidRow", fn := fun _ => fun
  | [d] => { results := [.lit (.bool false)], args := [d] }
  | _ => none }
def FnPaidRowWrongFalsely : Prop := fnPaidRowRow.holds Try.pinned (OpenSpec.ofChange fnPaidRowWrong)

/-- 'laws.FnEndRow': WHATEVER THE INPUT: true; the input reads as it did. -/
def fnEndRowSpec : ChangeSpec := { name := "fnEndRow", fn := fun _ => fun
  | [d] => { results := [.lit (.bool true)], args := [d] }
  | _ => none }
def fnEndRowRow : OpenClaim := { program := "ytpdlppmkjkbboaa", sum := "9001e45dbdd05152d37583e00c289e6048d6c3959d679fa2ff3c6c3da4f174b4", func := "loop.example/shortestates/laws.FnEndRow", spec := "fnEndRow", apart := false }
def FnEndRowSaid : Prop := fnEndRowRow.holds Try.pinned (OpenSpec.ofChange fnEndRowSpec)

/-- ITS FALSE NEIGHBOUR: 'it returns false'. Refute it at one input. -/
def fnEndRowWrong : ChangeSpec := { name := "fnEndRow", fn := fun _ => fun
  | [d] => { results := [.lit (.bool false)], args := [d] }
  | _ => none }
def FnEndRowWrongFalsely : Prop := fnEndRowRow.holds Try.pinned (OpenSpec.ofChange fnEndRowWrong)

/-- 'laws.FnBidsTurned': WHATEVER THE INPUT: true; the input reads as it did. -/
def fnBidsTurnedSpec : ChangeSpec := { name := "fnBidsTurned", fn := fun _ => fun
  | [d] => { results := [.lit (.bool true)], args := [d] }
  | _ => none }
def fnBidsTurnedRow : OpenClaim := { program := "ytpdlppmkjkbboaa", sum := "9001e45dbdd05152d37583e00c289e6048d6c3959d679fa2ff3c6c3da4f174b4", func := "loop.example/shortestates/laws.FnBidsTurned", spec := "fnBidsTurned", apart := false }
def FnBidsTurnedSaid : Prop := fnBidsTurnedRow.holds Try.pinned (OpenSpec.ofChange fnBidsTurnedSpec)

/-- ITS FALSE NEIGHBOUR: 'it returns false'. Refute it at one input. -/
def fnBidsTurnedWrong : ChangeSpec := { name := "fnBidsTurned", fn := fun _ => fun
  | [d] => { results := [.lit (.bool false)], args := [d] }
  | _ => none }
def FnBidsTurnedWrongFalsely : Prop := fnBidsTurnedRow.holds Try.pinned (OpenSpec.ofChange fnBidsTurnedWrong)

/-- 'laws.FnExactBidsOk': WHATEVER THE INPUT: true; the input reads as it did. -/
def fnExactBidsOkSpec : ChangeSpec := { name := "fnExactBidsOk", fn := fun _ => fun
  | [d] => { results := [.lit (.bool true)], args := [d] }
  | _ => none }
def fnExactBidsOkRow : OpenClaim := { program := "ytpdlppmkjkbboaa", sum := "9001e45dbdd05152d37583e00c289e6048d6c3959d679fa2ff3c6c3da4f174b4", func := "loop.example/shortestates/laws.FnExactBidsOk", spec := "fnExactBidsOk", apart := false }
def FnExactBidsOkSaid : Prop := fnExactBidsOkRow.holds Try.pinned (OpenSpec.ofChange fnExactBidsOkSpec)

/-- ITS FALSE NEIGHBOUR: 'it returns false'. Refute it at one input. -/
def fnExactBidsOkWrong : ChangeSpec := { name := "fnExactBidsOk", fn := fun _ => fun
  | [d] => { results := [.lit (.bool false)], args := [d] }
  | _ => none }
def FnExactBidsOkWrongFalsely : Prop := fnExactBidsOkRow.holds Try.pinned (OpenSpec.ofChange fnExactBidsOkWrong)

/-- 'laws.FnExactTakersOf': WHATEVER THE INPUT: true; the input reads as it did. -/
def fnExactTakersOfSpec : ChangeSpec := { name := "fnExactTakersOf", fn := fun _ => fun
  | [d] => { results := [.lit (.bool true)], args := [d] }
  | _ => none }
def fnExactTakersOfRow : OpenClaim := { program := "ytpdlppmkjkbboaa", sum := "9001e45dbdd05152d37583e00c289e6048d6c3959d679fa2ff3c6c3da4f174b4", func := "loop.example/shortestates/laws.FnExactTakersOf", spec := "fnExactTakersOf", apart := false }
def FnExactTakersOfSaid : Prop := fnExactTakersOfRow.holds Try.pinned (OpenSpec.ofChange fnExactTakersOfSpec)

/-- ITS FALSE NEIGHBOUR: 'it returns false'. Refute it at one input. -/
def fnExactTakersOfWrong : ChangeSpec := { name := "fnExactTakersOf", fn := fun _ => fun
  | [d] => { results := [.lit (.bool false)], args := [d] }
  | _ => none }
def FnExactTakersOfWrongFalsely : Prop := fnExactTakersOfRow.holds Try.pinned (OpenSpec.ofChange fnExactTakersOfWrong)

/-- 'laws.FnExactFairRow': WHATEVER THE INPUT: true; the input reads as it did. -/
def fnExactFairRowSpec : ChangeSpec := { name := "fnExactFairRow", fn := fun _ => fun
  | [d] => { results := [.lit (.bool true)], args := [d] }
  | _ => none }
def fnExactFairRowRow : OpenClaim := { program := "ytpdlppmkjkbboaa", sum := "9001e45dbdd05152d37583e00c289e6048d6c3959d679fa2ff3c6c3da4f174b4", func := "loop.example/shortestates/laws.FnExactFairRow", spec := "fnExactFairRow", apart := false }
def FnExactFairRowSaid : Prop := fnExactFairRowRow.holds Try.pinned (OpenSpec.ofChange fnExactFairRowSpec)

/-- ITS FALSE NEIGHBOUR: 'it returns false'. Refute it at one input. -/
def fnExactFairRowWrong : ChangeSpec := { name := "fnExactFairRow", fn := fun _ => fun
  | [d] => { results := [.lit (.bool false)], args := [d] }
  | _ => none }
def FnExactFairRowWrongFalsely : Prop := fnExactFairRowRow.holds Try.pinned (OpenSpec.ofChange fnExactFairRowWrong)

/-- 'laws.FnExactSurplusOf': WHATEVER THE INPUT: true; the input reads as it did. -/
def fnExactSurplusOfSpec : ChangeSpec := { name := "fnExactSurplusOf", fn := fun _ => fun
  | [d] => { results := [.lit (.bool true)], args := [d] }
  | _ => none }
def fnExactSurplusOfRow : OpenClaim := { program := "ytpdlppmkjkbboaa", sum := "9001e45dbdd05152d37583e00c289e6048d6c3959d679fa2ff3c6c3da4f174b4", func := "loop.example/shortestates/laws.FnExactSurplusOf", spec := "fnExactSurplusOf", apart := false }
def FnExactSurplusOfSaid : Prop := fnExactSurplusOfRow.holds Try.pinned (OpenSpec.ofChange fnExactSurplusOfSpec)

/-- ITS FALSE NEIGHBOUR: 'it returns false'. Refute it at one input. -/
def fnExactSurplusOfWrong : ChangeSpec := { name := "fnExactSurplusOf", fn := fun _ => fun
  | [d] => { results := [.lit (.bool false)], args := [d] }
  | _ => none }
def FnExactSurplusOfWrongFalsely : Prop := fnExactSurplusOfRow.holds Try.pinned (OpenSpec.ofChange fnExactSurplusOfWrong)

/-- 'laws.FnExactPaidRow': WHATEVER THE INPUT: true; the input reads as it did. -/
def fnExactPaidRowSpec : ChangeSpec := { name := "fnExactPaidRow", fn := fun _ => fun
  | [d] => { results := [.lit (.bool true)], args := [d] }
  | _ => none }
def fnExactPaidRowRow : OpenClaim := { program := "ytpdlppmkjkbboaa", sum := "9001e45dbdd05152d37583e00c289e6048d6c3959d679fa2ff3c6c3da4f174b4", func := "loop.example/shortestates/laws.FnExactPaidRow", spec := "fnExactPaidRow", apart := false }
def FnExactPaidRowSaid : Prop := fnExactPaidRowRow.holds Try.pinned (OpenSpec.ofChange fnExactPaidRowSpec)

/-- ITS FALSE NEIGHBOUR: 'it returns false'. Refute it at one input. -/
def fnExactPaidRowWrong : ChangeSpec := { name := "fnExactPaidRow", fn := fun _ => fun
  | [d] => { results := [.lit (.bool false)], args := [d] }
  | _ => none }
def FnExactPaidRowWrongFalsely : Prop := fnExactPaidRowRow.holds Try.pinned (OpenSpec.ofChange fnExactPaidRowWrong)

/-- 'laws.FnExactEndRow': WHATEVER THE INPUT: true; the input reads as it did. -/
def fnExactEndRowSpec : ChangeSpec := { name := "fnExactEndRow", fn := fun _ => fun
  | [d] => { results := [.lit (.bool true)], args := [d] }
  | _ => none }
def fnExactEndRowRow : OpenClaim := { program := "ytpdlppmkjkbboaa", sum := "9001e45dbdd05152d37583e00c289e6048d6c3959d679fa2ff3c6c3da4f174b4", func := "loop.example/shortestates/laws.FnExactEndRow", spec := "fnExactEndRow", apart := false }
def FnExactEndRowSaid : Prop := fnExactEndRowRow.holds Try.pinned (OpenSpec.ofChange fnExactEndRowSpec)

/-- ITS FALSE NEIGHBOUR: 'it returns false'. Refute it at one input. -/
def fnExactEndRowWrong : ChangeSpec := { name := "fnExactEndRow", fn := fun _ => fun
  | [d] => { results := [.lit (.bool false)], args := [d] }
  | _ => none }
def FnExactEndRowWrongFalsely : Prop := fnExactEndRowRow.holds Try.pinned (OpenSpec.ofChange fnExactEndRowWrong)

/- THE SECOND FORM. 'bulk': how many values and letters a reading holds, each counted each time it is reached (what is shared counts as often as it is met; a slice's spare places count too). A statement '..UptoSaid' is the law's where the arguments, and the package variables that the reading takes, are together of bulk at most 1048576: NARROWER than '..Said'. Prove '..Said' where nothing that the law and all that it calls make is longer than what came in: it says more and counts as full. Else prove '..UptoSaid'. A law counts once. -/
mutual
def uptoBulk {H : Type} : DataW H → Nat
  | .lit (.string bytes) => bytes.length + 1
  | .lit _ => 1
  | .nil => 1
  | .ptr d => uptoBulk d + 1
  | .slice elems spare => uptoBulkAll elems + uptoBulkAll spare + 1
  | .agg parts => uptoBulkAll parts + 1
  | .iface _ d => uptoBulk d + 1
  | .map entries => uptoBulkEntries entries + 1
  | .held _ => 1
def uptoBulkAll {H : Type} : List (DataW H) → Nat
  | [] => 0
  | d :: r => uptoBulk d + uptoBulkAll r
def uptoBulkEntries {H : Type} : List (Lit × DataW H) → Nat
  | [] => 0
  | x :: r => uptoBulkEntry x + uptoBulkEntries r
def uptoBulkEntry {H : Type} : Lit × DataW H → Nat
  | (.string bytes, d) => bytes.length + uptoBulk d + 1
  | (_, d) => uptoBulk d + 1
 end
def uptoSmall : (H : Type) → List (DataW H) → Bool := fun _ ds => decide (uptoBulkAll ds ≤ 1048576)
def OpenSpec.upto (s : _root_.Go.ChangeSpec) : _root_.Go.OpenSpec := { _root_.Go.OpenSpec.ofChange s with cond := some uptoSmall }

/-- 'laws.FnBidsOk', WHERE WHAT IT READS IS OF BULK AT MOST 1048576: true; the input reads as it did. -/
def fnBidsOkUptoRow : OpenClaim := { program := "ytpdlppmkjkbboaa", sum := "9001e45dbdd05152d37583e00c289e6048d6c3959d679fa2ff3c6c3da4f174b4", func := "loop.example/shortestates/laws.FnBidsOk", spec := "fnBidsOk", apart := false, narrowed := true }
def FnBidsOkUptoSaid : Prop := fnBidsOkUptoRow.holds Try.pinned (OpenSpec.upto fnBidsOkSpec)

/-- 'laws.FnTakersOf', WHERE WHAT IT READS IS OF BULK AT MOST 1048576: true; the input reads as it did. -/
def fnTakersOfUptoRow : OpenClaim := { program := "ytpdlppmkjkbboaa", sum := "9001e45dbdd05152d37583e00c289e6048d6c3959d679fa2ff3c6c3da4f174b4", func := "loop.example/shortestates/laws.FnTakersOf", spec := "fnTakersOf", apart := false, narrowed := true }
def FnTakersOfUptoSaid : Prop := fnTakersOfUptoRow.holds Try.pinned (OpenSpec.upto fnTakersOfSpec)

/-- 'laws.FnFairRow', WHERE WHAT IT READS IS OF BULK AT MOST 1048576: true; the input reads as it did. -/
def fnFairRowUptoRow : OpenClaim := { program := "ytpdlppmkjkbboaa", sum := "9001e45dbdd05152d37583e00c289e6048d6c3959d679fa2ff3c6c3da4f174b4", func := "loop.example/shortestates/laws.FnFairRow", spec := "fnFairRow", apart := false, narrowed := true }
def FnFairRowUptoSaid : Prop := fnFairRowUptoRow.holds Try.pinned (OpenSpec.upto fnFairRowSpec)

/-- 'laws.FnSurplusOf', WHERE WHAT IT READS IS OF BULK AT MOST 1048576: true; the input reads as it did. -/
def fnSurplusOfUptoRow : OpenClaim := { program := "ytpdlppmkjkbboaa", sum := "9001e45dbdd05152d37583e00c289e6048d6c3959d679fa2ff3c6c3da4f174b4", func := "loop.example/shortestates/laws.FnSurplusOf", spec := "fnSurplusOf", apart := false, narrowed := true }
def FnSurplusOfUptoSaid : Prop := fnSurplusOfUptoRow.holds Try.pinned (OpenSpec.upto fnSurplusOfSpec)

/-- 'laws.FnPaidRow', WHERE WHAT IT READS IS OF BULK AT MOST 1048576: true; the input reads as it did. -/
def fnPaidRowUptoRow : OpenClaim := { program := "ytpdlppmkjkbboaa", sum := "9001e45dbdd05152d37583e00c289e6048d6c3959d679fa2ff3c6c3da4f174b4", func := "loop.example/shortestates/laws.FnPaidRow", spec := "fnPaidRow", apart := false, narrowed := true }
def FnPaidRowUptoSaid : Prop := fnPaidRowUptoRow.holds Try.pinned (OpenSpec.upto fnPaidRowSpec)

/-- 'laws.FnEndRow', WHERE WHAT IT READS IS OF BULK AT MOST 1048576: true; the input reads as it did. -/
def fnEndRowUptoRow : OpenClaim := { program := "ytpdlppmkjkbboaa", sum := "9001e45dbdd05152d37583e00c289e6048d6c3959d679fa2ff3c6c3da4f174b4", func := "loop.example/shortestates/laws.FnEndRow", spec := "fnEndRow", apart := false, narrowed := true }
def FnEndRowUptoSaid : Prop := fnEndRowUptoRow.holds Try.pinned (OpenSpec.upto fnEndRowSpec)

/-- 'laws.FnBidsTurned', WHERE WHAT IT READS IS OF BULK AT MOST 1048576: true; the input reads as it did. -/
def fnBidsTurnedUptoRow : OpenClaim := { program := "ytpdlppmkjkbboaa", sum := "9001e45dbdd05152d37583e00c289e6048d6c3959d679fa2ff3c6c3da4f174b4", func := "loop.example/shortestates/laws.FnBidsTurned", spec := "fnBidsTurned", apart := false, narrowed := true }
def FnBidsTurnedUptoSaid : Prop := fnBidsTurnedUptoRow.holds Try.pinned (OpenSpec.upto fnBidsTurnedSpec)

/-- 'laws.FnExactBidsOk', WHERE WHAT IT READS IS OF BULK AT MOST 1048576: true; the input reads as it did. -/
def fnExactBidsOkUptoRow : OpenClaim := { program := "ytpdlppmkjkbboaa", sum := "9001e45dbdd05152d37583e00c289e6048d6c3959d679fa2ff3c6c3da4f174b4", func := "loop.example/shortestates/laws.FnExactBidsOk", spec := "fnExactBidsOk", apart := false, narrowed := true }
def FnExactBidsOkUptoSaid : Prop := fnExactBidsOkUptoRow.holds Try.pinned (OpenSpec.upto fnExactBidsOkSpec)

/-- 'laws.FnExactTakersOf', WHERE WHAT IT READS IS OF BULK AT MOST 1048576: true; the input reads as it did. -/
def fnExactTakersOfUptoRow : OpenClaim := { program := "ytpdlppmkjkbboaa", sum := "9001e45dbdd05152d37583e00c289e6048d6c3959d679fa2ff3c6c3da4f174b4", func := "loop.example/shortestates/laws.FnExactTakersOf", spec := "fnExactTakersOf", apart := false, narrowed := true }
def FnExactTakersOfUptoSaid : Prop := fnExactTakersOfUptoRow.holds Try.pinned (OpenSpec.upto fnExactTakersOfSpec)

/-- 'laws.FnExactFairRow', WHERE WHAT IT READS IS OF BULK AT MOST 1048576: true; the input reads as it did. -/
def fnExactFairRowUptoRow : OpenClaim := { program := "ytpdlppmkjkbboaa", sum := "9001e45dbdd05152d37583e00c289e6048d6c3959d679fa2ff3c6c3da4f174b4", func := "loop.example/shortestates/laws.FnExactFairRow", spec := "fnExactFairRow", apart := false, narrowed := true }
def FnExactFairRowUptoSaid : Prop := fnExactFairRowUptoRow.holds Try.pinned (OpenSpec.upto fnExactFairRowSpec)

/-- 'laws.FnExactSurplusOf', WHERE WHAT IT READS IS OF BULK AT MOST 1048576: true; the input reads as it did. -/
def fnExactSurplusOfUptoRow : OpenClaim := { program := "ytpdlppmkjkbboaa", sum := "9001e45dbdd05152d37583e00c289e6048d6c3959d679fa2ff3c6c3da4f174b4", func := "loop.example/shortestates/laws.FnExactSurplusOf", spec := "fnExactSurplusOf", apart := false, narrowed := true }
def FnExactSurplusOfUptoSaid : Prop := fnExactSurplusOfUptoRow.holds Try.pinned (OpenSpec.upto fnExactSurplusOfSpec)

/-- 'laws.FnExactPaidRow', WHERE WHAT IT READS IS OF BULK AT MOST 1048576: true; the input reads as it did. -/
def fnExactPaidRowUptoRow : OpenClaim := { program := "ytpdlppmkjkbboaa", sum := "9001e45dbdd05152d37583e00c289e6048d6c3959d679fa2ff3c6c3da4f174b4", func := "loop.example/shortestates/laws.FnExactPaidRow", spec := "fnExactPaidRow", apart := false, narrowed := true }
def FnExactPaidRowUptoSaid : Prop := fnExactPaidRowUptoRow.holds Try.pinned (OpenSpec.upto fnExactPaidRowSpec)

/-- 'laws.FnExactEndRow', WHERE WHAT IT READS IS OF BULK AT MOST 1048576: true; the input reads as it did. -/
def fnExactEndRowUptoRow : OpenClaim := { program := "ytpdlppmkjkbboaa", sum := "9001e45dbdd05152d37583e00c289e6048d6c3959d679fa2ff3c6c3da4f174b4", func := "loop.example/shortestates/laws.FnExactEndRow", spec := "fnExactEndRow", apart := false, narrowed := true }
def FnExactEndRowUptoSaid : Prop := fnExactEndRowUptoRow.holds Try.pinned (OpenSpec.upto fnExactEndRowSpec)

end Rows
end Go.Proofs.Ytpdlppmkjkbboaa
