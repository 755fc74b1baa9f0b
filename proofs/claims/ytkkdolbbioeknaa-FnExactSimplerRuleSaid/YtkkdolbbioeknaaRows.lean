/-
  No cell of these rows narrows 'for every input' (looked for: loops, veiled, ifaces, maps, wideKeys, modest, calm, conditions, laid).
  DERIVED. THE GIVEN ROWS OF THIS SEAT. 7 by the template 'for every input the law returns true; each argument reads behind the call as it read before'; 0 by the template 'total and deterministic' (their statements: YtkkdolbbioeknaaTotals.lean).
  GIVEN WITH THE SEED: the statements are not yours to turn. If you find one false, say at which input.
  Laid BY PROGRAM, IN A SANDBOX (cutbox-rows.mjs): the forced cells as the released guide's own fill.sh prints them over the translation fa1789388778f952… (all of the seat's roots in one cut). By AI agents, Wed Nov 11 2026. No macro, syntax, notation, axiom, sorry.
-/
import Derived.Test.YtkkdolbbioeknaaChecked
import GoSem.Claim
import GoSem.ClaimJoined
import GoSem.ClaimMapViews
import Derived.JoinedTies
import Derived.KernelRfl
namespace Go.Proofs.Ytkkdolbbioeknaa
/- THE CELL 'sum', in the pinned program and in every row, IS THE sha256 OF THE DUMP (.gsa) THAT YtkkdolbbioeknaaProg.lean LOADS. Nothing in Lean hashes anything: it is a label: what it is worth is what the hold of that sum in a sandbox is worth. -/
noncomputable def Try.pinned : Pinned := { name := "ytkkdolbbioeknaa", sum := "fa1789388778f95279167421c7aea827f811d3bb274a5552cd9b558ad00b3bf6", checked := Try.checked }
namespace Rows
def none {H : Type} : Left H := { results := [], args := [] }

/-- 'laws.FnRuleOk': WHATEVER THE INPUT: true; the input reads as it did. -/
def fnRuleOkSpec : ChangeSpec := { name := "fnRuleOk", fn := fun _ => fun
  | [d] => { results := [.lit (.bool true)], args := [d] }
  | _ => none }
def fnRuleOkRow : OpenClaim := { program := "ytkkdolbbioeknaa", sum := "fa1789388778f95279167421c7aea827f811d3bb274a5552cd9b558ad00b3bf6", func := "loop.example/shortestates/laws.FnRuleOk", spec := "fnRuleOk", inPlace := ["internal/bytealg.IndexByteString"], apart := false }
def FnRuleOkSaid : Prop := fnRuleOkRow.holds Try.pinned (OpenSpec.ofChange fnRuleOkSpec)

/-- ITS FALSE NEIGHBOUR: 'it returns false'. Refute it at one input. -/
def fnRuleOkWrong : ChangeSpec := { name := "fnRuleOk", fn := fun _ => fun
  | [d] => { results := [.lit (.bool false)], args := [d] }
  | _ => none }
def FnRuleOkWrongFalsely : Prop := fnRuleOkRow.holds Try.pinned (OpenSpec.ofChange fnRuleOkWrong)

/-- 'laws.FnRuleAwards': WHATEVER THE INPUT: true; the input reads as it did. -/
def fnRuleAwardsSpec : ChangeSpec := { name := "fnRuleAwards", fn := fun _ => fun
  | [d] => { results := [.lit (.bool true)], args := [d] }
  | _ => none }
def fnRuleAwardsRow : OpenClaim := { program := "ytkkdolbbioeknaa", sum := "fa1789388778f95279167421c7aea827f811d3bb274a5552cd9b558ad00b3bf6", func := "loop.example/shortestates/laws.FnRuleAwards", spec := "fnRuleAwards", inPlace := ["internal/bytealg.IndexByteString"], unfollowed := true, recurses := true, apart := false }
def FnRuleAwardsSaid : Prop := fnRuleAwardsRow.holds Try.pinned (OpenSpec.ofChange fnRuleAwardsSpec)

/-- ITS FALSE NEIGHBOUR: 'it returns false'. Refute it at one input. -/
def fnRuleAwardsWrong : ChangeSpec := { name := "fnRuleAwards", fn := fun _ => fun
  | [d] => { results := [.lit (.bool false)], args := [d] }
  | _ => none }
def FnRuleAwardsWrongFalsely : Prop := fnRuleAwardsRow.holds Try.pinned (OpenSpec.ofChange fnRuleAwardsWrong)

/-- 'laws.FnSimplerRule': WHATEVER THE INPUT: true; the input reads as it did. -/
def fnSimplerRuleSpec : ChangeSpec := { name := "fnSimplerRule", fn := fun _ => fun
  | [d1, d2] => { results := [.lit (.bool true)], args := [d1, d2] }
  | _ => none }
def fnSimplerRuleRow : OpenClaim := { program := "ytkkdolbbioeknaa", sum := "fa1789388778f95279167421c7aea827f811d3bb274a5552cd9b558ad00b3bf6", func := "loop.example/shortestates/laws.FnSimplerRule", spec := "fnSimplerRule", inPlace := ["internal/bytealg.IndexByteString"], unfollowed := true, recurses := true, apart := false }
def FnSimplerRuleSaid : Prop := fnSimplerRuleRow.holds Try.pinned (OpenSpec.ofChange fnSimplerRuleSpec)

/-- ITS FALSE NEIGHBOUR: 'it returns false'. Refute it at one input. -/
def fnSimplerRuleWrong : ChangeSpec := { name := "fnSimplerRule", fn := fun _ => fun
  | [d1, d2] => { results := [.lit (.bool false)], args := [d1, d2] }
  | _ => none }
def FnSimplerRuleWrongFalsely : Prop := fnSimplerRuleRow.holds Try.pinned (OpenSpec.ofChange fnSimplerRuleWrong)

/-- 'laws.FnRuleShort': WHATEVER THE INPUT: true; the input reads as it did. -/
def fnRuleShortSpec : ChangeSpec := { name := "fnRuleShort", fn := fun _ => fun
  | [d] => { results := [.lit (.bool true)], args := [d] }
  | _ => none }
def fnRuleShortRow : OpenClaim := { program := "ytkkdolbbioeknaa", sum := "fa1789388778f95279167421c7aea827f811d3bb274a5552cd9b558ad00b3bf6", func := "loop.example/shortestates/laws.FnRuleShort", spec := "fnRuleShort", inPlace := ["internal/bytealg.IndexByteString"], apart := false }
def FnRuleShortSaid : Prop := fnRuleShortRow.holds Try.pinned (OpenSpec.ofChange fnRuleShortSpec)

/-- ITS FALSE NEIGHBOUR: 'it returns false'. Refute it at one input. -/
def fnRuleShortWrong : ChangeSpec := { name := "fnRuleShort", fn := fun _ => fun
  | [d] => { results := [.lit (.bool false)], args := [d] }
  | _ => none }
def FnRuleShortWrongFalsely : Prop := fnRuleShortRow.holds Try.pinned (OpenSpec.ofChange fnRuleShortWrong)

/-- 'laws.FnExactRuleOk': WHATEVER THE INPUT: true; the input reads as it did. -/
def fnExactRuleOkSpec : ChangeSpec := { name := "fnExactRuleOk", fn := fun _ => fun
  | [d] => { results := [.lit (.bool true)], args := [d] }
  | _ => none }
def fnExactRuleOkRow : OpenClaim := { program := "ytkkdolbbioeknaa", sum := "fa1789388778f95279167421c7aea827f811d3bb274a5552cd9b558ad00b3bf6", func := "loop.example/shortestates/laws.FnExactRuleOk", spec := "fnExactRuleOk", inPlace := ["internal/bytealg.IndexByteString"], apart := false }
def FnExactRuleOkSaid : Prop := fnExactRuleOkRow.holds Try.pinned (OpenSpec.ofChange fnExactRuleOkSpec)

/-- ITS FALSE NEIGHBOUR: 'it returns false'. Refute it at one input. -/
def fnExactRuleOkWrong : ChangeSpec := { name := "fnExactRuleOk", fn := fun _ => fun
  | [d] => { results := [.lit (.bool false)], args := [d] }
  | _ => none }
def FnExactRuleOkWrongFalsely : Prop := fnExactRuleOkRow.holds Try.pinned (OpenSpec.ofChange fnExactRuleOkWrong)

/-- 'laws.FnExactRuleAwards': WHATEVER THE INPUT: true; the input reads as it did. -/
def fnExactRuleAwardsSpec : ChangeSpec := { name := "fnExactRuleAwards", fn := fun _ => fun
  | [d1, d2] => { results := [.lit (.bool true)], args := [d1, d2] }
  | _ => none }
def fnExactRuleAwardsRow : OpenClaim := { program := "ytkkdolbbioeknaa", sum := "fa1789388778f95279167421c7aea827f811d3bb274a5552cd9b558ad00b3bf6", func := "loop.example/shortestates/laws.FnExactRuleAwards", spec := "fnExactRuleAwards", inPlace := ["internal/bytealg.IndexByteString"], unfollowed := true, recurses := true, apart := false }
def FnExactRuleAwardsSaid : Prop := fnExactRuleAwardsRow.holds Try.pinned (OpenSpec.ofChange fnExactRuleAwardsSpec)

/-- ITS FALSE NEIGHBOUR: 'it returns false'. Refute it at one input. -/
def fnExactRuleAwardsWrong : ChangeSpec := { name := "fnExactRuleAwards", fn := fun _ => fun
  | [d1, d2] => { results := [.lit (.bool false)], args := [d1, d2] }
  | _ => none }
def FnExactRuleAwardsWrongFalsely : Prop := fnExactRuleAwardsRow.holds Try.pinned (OpenSpec.ofChange fnExactRuleAwardsWrong)

/-- 'laws.FnExactSimplerRule': WHATEVER THE INPUT: true; the input reads as it did. -/
def fnExactSimplerRuleSpec : ChangeSpec := { name := "fnExactSimplerRule", fn := fun _ => fun
  | [d] => { results := [.lit (.bool true)], args := [d] }
  | _ => none }
def fnExactSimplerRuleRow : OpenClaim := { program := "ytkkdolbbioeknaa", sum := "fa1789388778f95279167421c7aea827f811d3bb274a5552cd9b558ad00b3bf6", func := "loop.example/shortestates/laws.FnExactSimplerRule", spec := "fnExactSimplerRule", inPlace := ["internal/bytealg.IndexByteString"], apart := false }
def FnExactSimplerRuleSaid : Prop := fnExactSimplerRuleRow.holds Try.pinned (OpenSpec.ofChange fnExactSimplerRuleSpec)

/-- ITS FALSE NEIGHBOUR: 'it returns false'. Refute it at one input. -/
def fnExactSimplerRuleWrong : ChangeSpec := { name := "fnExactSimplerRule", fn := fun _ => fun
  | [d] => { results := [.lit (.bool false)], args := [d] }
  | _ => none }
def FnExactSimplerRuleWrongFalsely : Prop := fnExactSimplerRuleRow.holds Try.pinned (OpenSpec.ofChange fnExactSimplerRuleWrong)

/- THE SECOND FORM. 'bulk': how many values and letters a reading holds, each counted each time it is reached (what is shared counts as often as it is met; a slice's spare places count too). A statement '..UptoSaid' is the law's where the arguments, and the package variables that the reading takes, are together of bulk at most 1048576: NARROWER than '..Said'. Prove '..Said' where nothing that the law and all that it calls make is longer than what came in: it says more and counts as full. Else prove '..UptoSaid'. A law counts once. -/
mutual
def uptoBulk {H : Type} : DataW H → Nat
  | .lit (.string bytes) => bytes.length + 1
  | .lit _ => 1
  | .nil => 1
  | .ptr d => uptoBulk d + 1
  | .slice elems spare => uptoBulkAll elems + uptoBulkAll spare + 1
  | .agg parts => uptoBulkAll parts + 1
  | .iface _ d => uptoBulk d + 1
  | .map entries => uptoBulkEntries entries + 1
  | .held _ => 1
def uptoBulkAll {H : Type} : List (DataW H) → Nat
  | [] => 0
  | d :: r => uptoBulk d + uptoBulkAll r
def uptoBulkEntries {H : Type} : List (Lit × DataW H) → Nat
  | [] => 0
  | x :: r => uptoBulkEntry x + uptoBulkEntries r
def uptoBulkEntry {H : Type} : Lit × DataW H → Nat
  | (.string bytes, d) => bytes.length + uptoBulk d + 1
  | (_, d) => uptoBulk d + 1
 end
def uptoSmall : (H : Type) → List (DataW H) → Bool := fun _ ds => decide (uptoBulkAll ds ≤ 1048576)
def OpenSpec.upto (s : _root_.Go.ChangeSpec) : _root_.Go.OpenSpec := { _root_.Go.OpenSpec.ofChange s with cond := some uptoSmall }

/-- 'laws.FnRuleOk', WHERE WHAT IT READS IS OF BULK AT MOST 1048576: true; the input reads as it did. -/
def fnRuleOkUptoRow : OpenClaim := { program := "ytkkdolbbioeknaa", sum := "fa1789388778f95279167421c7aea827f811d3bb274a5552cd9b558ad00b3bf6", func := "loop.example/shortestates/laws.FnRuleOk", spec := "fnRuleOk", inPlace := ["internal/bytealg.IndexByteString"], apart := false, narrowed := true }
def FnRuleOkUptoSaid : Prop := fnRuleOkUptoRow.holds Try.pinned (OpenSpec.upto fnRuleOkSpec)

/-- 'laws.FnRuleAwards', WHERE WHAT IT READS IS OF BULK AT MOST 1048576: true; the input reads as it did. -/
def fnRuleAwardsUptoRow : OpenClaim := { program := "ytkkdolbbioeknaa", sum := "fa1789388778f95279167421c7aea827f811d3bb274a5552cd9b558ad00b3bf6", func := "loop.example/shortestates/laws.FnRuleAwards", spec := "fnRuleAwards", inPlace := ["internal/bytealg.IndexByteString"], unfollowed := true, recurses := true, apart := false, narrowed := true }
def FnRuleAwardsUptoSaid : Prop := fnRuleAwardsUptoRow.holds Try.pinned (OpenSpec.upto fnRuleAwardsSpec)

/-- 'laws.FnSimplerRule', WHERE WHAT IT READS IS OF BULK AT MOST 1048576: true; the input reads as it did. -/
def fnSimplerRuleUptoRow : OpenClaim := { program := "ytkkdolbbioeknaa", sum := "fa1789388778f95279167421c7aea827f811d3bb274a5552cd9b558ad00b3bf6", func := "loop.example/shortestates/laws.FnSimplerRule", spec := "fnSimplerRule", inPlace := ["internal/bytealg.IndexByteString"], unfollowed := true, recurses := true, apart := false, narrowed := true }
def FnSimplerRuleUptoSaid : Prop := fnSimplerRuleUptoRow.holds Try.pinned (OpenSpec.upto fnSimplerRuleSpec)

/-- 'laws.FnRuleShort', WHERE WHAT IT READS IS OF BULK AT MOST 1048576: true; the input reads as it did. -/
def fnRuleShortUptoRow : OpenClaim := { program := "ytkkdolbbioeknaa", sum := "fa1789388778f95279167421c7aea827f811d3bb274a5552cd9b558ad00b3bf6", func := "loop.example/shortestates/laws.FnRuleShort", spec := "fnRuleShort", inPlace := ["internal/bytealg.IndexByteString"], apart := false, narrowed := true }
def FnRuleShortUptoSaid : Prop := fnRuleShortUptoRow.holds Try.pinned (OpenSpec.upto fnRuleShortSpec)

/-- 'laws.FnExactRuleOk', WHERE WHAT IT READS IS OF BULK AT MOST 1048576: true; the input reads as it did. -/
def fnExactRuleOkUptoRow : OpenClaim := { program := "ytkkdolbbioeknaa", sum := "fa1789388778f95279167421c7aea827f811d3bb274a5552cd9b558ad00b3bf6", func := "loop.example/shortestates/laws.FnExactRuleOk", spec := "fnExactRuleOk", inPlace := ["internal/bytealg.IndexByteString"], apart := false, narrowed := true }
def FnExactRuleOkUptoSaid : Prop := fnExactRuleOkUptoRow.holds Try.pinned (OpenSpec.upto fnExactRuleOkSpec)

/-- 'laws.FnExactRuleAwards', WHERE WHAT IT READS IS OF BULK AT MOST 1048576: true; the input reads as it did. -/
def fnExactRuleAwardsUptoRow : OpenClaim := { program := "ytkkdolbbioeknaa", sum := "fa1789388778f95279167421c7aea827f811d3bb274a5552cd9b558ad00b3bf6", func := "loop.example/shortestates/laws.FnExactRuleAwards", spec := "fnExactRuleAwards", inPlace := ["internal/bytealg.IndexByteString"], unfollowed := true, recurses := true, apart := false, narrowed := true }
def FnExactRuleAwardsUptoSaid : Prop := fnExactRuleAwardsUptoRow.holds Try.pinned (OpenSpec.upto fnExactRuleAwardsSpec)

/-- 'laws.FnExactSimplerRule', WHERE WHAT IT READS IS OF BULK AT MOST 1048576: true; the input reads as it did. -/
def fnExactSimplerRuleUptoRow : OpenClaim := { program := "ytkkdolbbioeknaa", sum := "fa1789388778f95279167421c7aea827f811d3bb274a5552cd9b558ad00b3bf6", func := "loop.example/shortestates/laws.FnExactSimplerRule", spec := "fnExactSimplerRule", inPlace := ["internal/bytealg.IndexByteString"], apart := false, narrowed := true }
def FnExactSimplerRuleUptoSaid : Prop := fnExactSimplerRuleUptoRow.holds Try.pinned (OpenSpec.upto fnExactSimplerRuleSpec)

end Rows
end Go.Proofs.Ytkkdolbbioeknaa
