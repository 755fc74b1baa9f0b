/-
  No cell of these rows narrows 'for every input' (looked for: loops, veiled, ifaces, maps, wideKeys, modest, calm, conditions, laid).
  DERIVED. THE GIVEN ROWS OF THIS SEAT. 7 by the template 'for every input the law returns true; each argument reads behind the call as it read before'; 0 by the template 'total and deterministic' (their statements: YtngalomfljoomaaTotals.lean).
  GIVEN WITH THE SEED: the statements are not yours to turn. If you find one false, say at which input.
  Laid BY PROGRAM, IN A SANDBOX (cutbox-rows.mjs): the forced cells as the released guide's own fill.sh prints them over the translation 0db2b0ce0b48a64a… (all of the seat's roots in one cut). By AI agents, Wed Nov 11 2026. No macro, syntax, notation, axiom, sorry.
-/
import Derived.Test.YtngalomfljoomaaChecked
import GoSem.Claim
import GoSem.ClaimJoined
import GoSem.ClaimMapViews
import Derived.JoinedTies
import Derived.KernelRfl
namespace Go.Proofs.Ytngalomfljoomaa
/- THE CELL 'sum', in the pinned program and in every row, IS THE sha256 OF THE DUMP (.gsa) THAT YtngalomfljoomaaProg.lean LOADS. Nothing in Lean hashes anything: it is a label: what it is worth is what the hold of that sum in a sandbox is worth. -/
noncomputable def Try.pinned : Pinned := { name := "ytngalomfljoomaa", sum := "0db2b0ce0b48a64a1e7c33c9261806036850b6b1fb36251ef0035de01f3fcbf5", checked := Try.checked }
namespace Rows
def none {H : Type} : Left H := { results := [], args := [] }

/-- 'laws.FnHalfAwards': WHATEVER THE INPUT: true; the input reads as it did. -/
def fnHalfAwardsSpec : ChangeSpec := { name := "fnHalfAwards", fn := fun _ => fun
  | [d1, d2] => { results := [.lit (.bool true)], args := [d1, d2] }
  | _ => none }
def fnHalfAwardsRow : OpenClaim := { program := "ytngalomfljoomaa", sum := "0db2b0ce0b48a64a1e7c33c9261806036850b6b1fb36251ef0035de01f3fcbf5", func := "loop.example/shortestates/laws.FnHalfAwards", spec := "fnHalfAwards", recurses := true, apart := false }
def FnHalfAwardsSaid : Prop := fnHalfAwardsRow.holds Try.pinned (OpenSpec.ofChange fnHalfAwardsSpec)

/-- ITS FALSE NEIGHBOUR: 'it returns false'. Refute it at one input. -/
def fnHalfAwardsWrong : ChangeSpec := { name := "fnHalfAwards", fn := fun _ => fun
  | [d1, d2] => { results := [.lit (.bool false)], args := [d1, d2] }
  | _ => none }
def FnHalfAwardsWrongFalsely : Prop := fnHalfAwardsRow.holds Try.pinned (OpenSpec.ofChange fnHalfAwardsWrong)

/-- 'laws.FnMidOk': WHATEVER THE INPUT: true; the input reads as it did. -/
def fnMidOkSpec : ChangeSpec := { name := "fnMidOk", fn := fun _ => fun
  | [d] => { results := [.lit (.bool true)], args := [d] }
  | _ => none }
def fnMidOkRow : OpenClaim := { program := "ytngalomfljoomaa", sum := "0db2b0ce0b48a64a1e7c33c9261806036850b6b1fb36251ef0035de01f3fcbf5", func := "loop.example/shortestates/laws.FnMidOk", spec := "fnMidOk", recurses := true, apart := false }
def FnMidOkSaid : Prop := fnMidOkRow.holds Try.pinned (OpenSpec.ofChange fnMidOkSpec)

/-- ITS FALSE NEIGHBOUR: 'it returns false'. Refute it at one input. -/
def fnMidOkWrong : ChangeSpec := { name := "fnMidOk", fn := fun _ => fun
  | [d] => { results := [.lit (.bool false)], args := [d] }
  | _ => none }
def FnMidOkWrongFalsely : Prop := fnMidOkRow.holds Try.pinned (OpenSpec.ofChange fnMidOkWrong)

/-- 'laws.FnHalfCut': WHATEVER THE INPUT: true; the input reads as it did. -/
def fnHalfCutSpec : ChangeSpec := { name := "fnHalfCut", fn := fun _ => fun
  | [d] => { results := [.lit (.bool true)], args := [d] }
  | _ => none }
def fnHalfCutRow : OpenClaim := { program := "ytngalomfljoomaa", sum := "0db2b0ce0b48a64a1e7c33c9261806036850b6b1fb36251ef0035de01f3fcbf5", func := "loop.example/shortestates/laws.FnHalfCut", spec := "fnHalfCut", recurses := true, apart := false }
def FnHalfCutSaid : Prop := fnHalfCutRow.holds Try.pinned (OpenSpec.ofChange fnHalfCutSpec)

/-- ITS FALSE NEIGHBOUR: 'it returns false'. Refute it at one input. -/
def fnHalfCutWrong : ChangeSpec := { name := "fnHalfCut", fn := fun _ => fun
  | [d] => { results := [.lit (.bool false)], args := [d] }
  | _ => none }
def FnHalfCutWrongFalsely : Prop := fnHalfCutRow.holds Try.pinned (OpenSpec.ofChange fnHalfCutWrong)

/-- 'laws.FnHalfLevel': WHATEVER THE INPUT: true; the input reads as it did. -/
def fnHalfLevelSpec : ChangeSpec := { name := "fnHalfLevel", fn := fun _ => fun
  | [d] => { results := [.lit (.bool true)], args := [d] }
  | _ => none }
def fnHalfLevelRow : OpenClaim := { program := "ytngalomfljoomaa", sum := "0db2b0ce0b48a64a1e7c33c9261806036850b6b1fb36251ef0035de01f3fcbf5", func := "loop.example/shortestates/laws.FnHalfLevel", spec := "fnHalfLevel", recurses := true, apart := false }
def FnHalfLevelSaid : Prop := fnHalfLevelRow.holds Try.pinned (OpenSpec.ofChange fnHalfLevelSpec)

/-- ITS FALSE NEIGHBOUR: 'it returns false'. Refute it at one input. -/
def fnHalfLevelWrong : ChangeSpec := { name := "fnHalfLevel", fn := fun _ => fun
  | [d] => { results := [.lit (.bool false)], args := [d] }
  | _ => none }
def FnHalfLevelWrongFalsely : Prop := fnHalfLevelRow.holds Try.pinned (OpenSpec.ofChange fnHalfLevelWrong)

/-- 'laws.FnExactHalfAwards': WHATEVER THE INPUT: true; the input reads as it did. -/
def fnExactHalfAwardsSpec : ChangeSpec := { name := "fnExactHalfAwards", fn := fun _ => fun
  | [d] => { results := [.lit (.bool true)], args := [d] }
  | _ => none }
def fnExactHalfAwardsRow : OpenClaim := { program := "ytngalomfljoomaa", sum := "0db2b0ce0b48a64a1e7c33c9261806036850b6b1fb36251ef0035de01f3fcbf5", func := "loop.example/shortestates/laws.FnExactHalfAwards", spec := "fnExactHalfAwards", recurses := true, apart := false }
def FnExactHalfAwardsSaid : Prop := fnExactHalfAwardsRow.holds Try.pinned (OpenSpec.ofChange fnExactHalfAwardsSpec)

/-- ITS FALSE NEIGHBOUR: 'it returns false'. Refute it at one input. -/
def fnExactHalfAwardsWrong : ChangeSpec := { name := "fnExactHalfAwards", fn := fun _ => fun
  | [d] => { results := [.lit (.bool false)], args := [d] }
  | _ => none }
def FnExactHalfAwardsWrongFalsely : Prop := fnExactHalfAwardsRow.holds Try.pinned (OpenSpec.ofChange fnExactHalfAwardsWrong)

/-- 'laws.FnExactMidOk': WHATEVER THE INPUT: true; the input reads as it did. -/
def fnExactMidOkSpec : ChangeSpec := { name := "fnExactMidOk", fn := fun _ => fun
  | [d1, d2] => { results := [.lit (.bool true)], args := [d1, d2] }
  | _ => none }
def fnExactMidOkRow : OpenClaim := { program := "ytngalomfljoomaa", sum := "0db2b0ce0b48a64a1e7c33c9261806036850b6b1fb36251ef0035de01f3fcbf5", func := "loop.example/shortestates/laws.FnExactMidOk", spec := "fnExactMidOk", apart := false }
def FnExactMidOkSaid : Prop := fnExactMidOkRow.holds Try.pinned (OpenSpec.ofChange fnExactMidOkSpec)

/-- ITS FALSE NEIGHBOUR: 'it returns false'. Refute it at one input. -/
def fnExactMidOkWrong : ChangeSpec := { name := "fnExactMidOk", fn := fun _ => fun
  | [d1, d2] => { results := [.lit (.bool false)], args := [d1, d2] }
  | _ => none }
def FnExactMidOkWrongFalsely : Prop := fnExactMidOkRow.holds Try.pinned (OpenSpec.ofChange fnExactMidOkWrong)

/-- 'laws.FnExactHalfLevel': WHATEVER THE INPUT: true; the input reads as it did. -/
def fnExactHalfLevelSpec : ChangeSpec := { name := "fnExactHalfLevel", fn := fun _ => fun
  | [d] => { results := [.lit (.bool true)], args := [d] }
  | _ => none }
def fnExactHalfLevelRow : OpenClaim := { program := "ytngalomfljoomaa", sum := "0db2b0ce0b48a64a1e7c33c9261806036850b6b1fb36251ef0035de01f3fcbf5", func := "loop.example/shortestates/laws.FnExactHalfLevel", spec := "fnExactHalfLevel", recurses := true, apart := false }
def FnExactHalfLevelSaid : Prop := fnExactHalfLevelRow.holds Try.pinned (OpenSpec.ofChange fnExactHalfLevelSpec)

/-- ITS FALSE NEIGHBOUR: 'it returns false'. Refute it at one input. -/
def fnExactHalfLevelWrong : ChangeSpec := { name := "fnExactHalfLevel", fn := fun _ => fun
  | [d] => { results := [.lit (.bool false)], args := [d] }
  | _ => none }
def FnExactHalfLevelWrongFalsely : Prop := fnExactHalfLevelRow.holds Try.pinned (OpenSpec.ofChange fnExactHalfLevelWrong)

/- THE SECOND FORM. 'bulk': how many values and letters a reading holds, each counted each time it is reached (what is shared counts as often as it is met; a slice's spare places count too). A statement '..UptoSaid' is the law's where the arguments, and the package variables that the reading takes, are together of bulk at most 1048576: NARROWER than '..Said'. Prove '..Said' where nothing that the law and all that it calls make is longer than what came in: it says more and counts as full. Else prove '..UptoSaid'. A law counts once. -/
mutual
def uptoBulk {H : Type} : DataW H → Nat
  | .lit (.string bytes) => bytes.length + 1
  | .lit _ => 1
  | .nil => 1
  | .ptr d => uptoBulk d + 1
  | .slice elems spare => uptoBulkAll elems + uptoBulkAll spare + 1
  | .agg parts => uptoBulkAll parts + 1
  | .iface _ d => uptoBulk d + 1
  | .map entries => uptoBulkEntries entries + 1
  | .held _ => 1
def uptoBulkAll {H : Type} : List (DataW H) → Nat
  | [] => 0
  | d :: r => uptoBulk d + uptoBulkAll r
def uptoBulkEntries {H : Type} : List (Lit × DataW H) → Nat
  | [] => 0
  | x :: r => uptoBulkEntry x + uptoBulkEntries r
def uptoBulkEntry {H : Type} : Lit × DataW H → Nat
  | (.string bytes, d) => bytes.length + uptoBulk d + 1
  | (_, d) => uptoBulk d + 1
 end
def uptoSmall : (H : Type) → List (DataW H) → Bool := fun _ ds => decide (uptoBulkAll ds ≤ 1048576)
def OpenSpec.upto (s : _root_.Go.ChangeSpec) : _root_.Go.OpenSpec := { _root_.Go.OpenSpec.ofChange s with cond := some uptoSmall }

/-- 'laws.FnHalfAwards', WHERE WHAT IT READS IS OF BULK AT MOST 1048576: true; the input reads as it did. -/
def fnHalfAwardsUptoRow : OpenClaim := { program := "ytngalomfljoomaa", sum := "0db2b0ce0b48a64a1e7c33c9261806036850b6b1fb36251ef0035de01f3fcbf5", func := "loop.example/shortestates/laws.FnHalfAwards", spec := "fnHalfAwards", recurses := true, apart := false, narrowed := true }
def FnHalfAwardsUptoSaid : Prop := fnHalfAwardsUptoRow.holds Try.pinned (OpenSpec.upto fnHalfAwardsSpec)

/-- 'laws.FnMidOk', WHERE WHAT IT READS IS OF BULK AT MOST 1048576: true; the input reads as it did. -/
def fnMidOkUptoRow : OpenClaim := { program := "ytngalomfljoomaa", sum := "0db2b0ce0b48a64a1e7c33c9261806036850b6b1fb36251ef0035de01f3fcbf5", func := "loop.example/shortestates/laws.FnMidOk", spec := "fnMidOk", recurses := true, apart := false, narrowed := true }
def FnMidOkUptoSaid : Prop := fnMidOkUptoRow.holds Try.pinned (OpenSpec.upto fnMidOkSpec)

/-- 'laws.FnHalfCut', WHERE WHAT IT READS IS OF BULK AT MOST 1048576: true; the input reads as it did. -/
def fnHalfCutUptoRow : OpenClaim := { program := "ytngalomfljoomaa", sum := "0db2b0ce0b48a64a1e7c33c9261806036850b6b1fb36251ef0035de01f3fcbf5", func := "loop.example/shortestates/laws.FnHalfCut", spec := "fnHalfCut", recurses := true, apart := false, narrowed := true }
def FnHalfCutUptoSaid : Prop := fnHalfCutUptoRow.holds Try.pinned (OpenSpec.upto fnHalfCutSpec)

/-- 'laws.FnHalfLevel', WHERE WHAT IT READS IS OF BULK AT MOST 1048576: true; the input reads as it did. -/
def fnHalfLevelUptoRow : OpenClaim := { program := "ytngalomfljoomaa", sum := "0db2b0ce0b48a64a1e7c33c9261806036850b6b1fb36251ef0035de01f3fcbf5", func := "loop.example/shortestates/laws.FnHalfLevel", spec := "fnHalfLevel", recurses := true, apart := false, narrowed := true }
def FnHalfLevelUptoSaid : Prop := fnHalfLevelUptoRow.holds Try.pinned (OpenSpec.upto fnHalfLevelSpec)

/-- 'laws.FnExactHalfAwards', WHERE WHAT IT READS IS OF BULK AT MOST 1048576: true; the input reads as it did. -/
def fnExactHalfAwardsUptoRow : OpenClaim := { program := "ytngalomfljoomaa", sum := "0db2b0ce0b48a64a1e7c33c9261806036850b6b1fb36251ef0035de01f3fcbf5", func := "loop.example/shortestates/laws.FnExactHalfAwards", spec := "fnExactHalfAwards", recurses := true, apart := false, narrowed := true }
def FnExactHalfAwardsUptoSaid : Prop := fnExactHalfAwardsUptoRow.holds Try.pinned (OpenSpec.upto fnExactHalfAwardsSpec)

/-- 'laws.FnExactMidOk', WHERE WHAT IT READS IS OF BULK AT MOST 1048576: true; the input reads as it did. -/
def fnExactMidOkUptoRow : OpenClaim := { program := "ytngalomfljoomaa", sum := "0db2b0ce0b48a64a1e7c33c9261806036850b6b1fb36251ef0035de01f3fcbf5", func := "loop.example/shortestates/laws.FnExactMidOk", spec := "fnExactMidOk", apart := false, narrowed := true }
def FnExactMidOkUptoSaid : Prop := fnExactMidOkUptoRow.holds Try.pinned (OpenSpec.upto fnExactMidOkSpec)

/-- 'laws.FnExactHalfLevel', WHERE WHAT IT READS IS OF BULK AT MOST 1048576: true; the input reads as it did. -/
def fnExactHalfLevelUptoRow : OpenClaim := { program := "ytngalomfljoomaa", sum := "0db2b0ce0b48a64a1e7c33c9261806036850b6b1fb36251ef0035de01f3fcbf5", func := "loop.example/shortestates/laws.FnExactHalfLevel", spec := "fnExactHalfLevel", recurses := true, apart := false, narrowed := true }
def FnExactHalfLevelUptoSaid : Prop := fnExactHalfLevelUptoRow.holds Try.pinned (OpenSpec.upto fnExactHalfLevelSpec)

end Rows
end Go.Proofs.Ytngalomfljoomaa
