/-
  No cell of these rows narrows 'for every input' (looked for: loops, veiled, ifaces, maps, wideKeys, modest, calm, conditions, laid).
  DERIVED. THE GIVEN ROWS OF THIS SEAT. 11 by the template 'for every input the law returns true; each argument reads behind the call as it read before'; 0 by the template 'total and deterministic' (their statements: YthhcjomfpjopdaaTotals.lean).
  GIVEN WITH THE SEED: the statements are not yours to turn. If you find one false, say at which input.
  Laid BY PROGRAM, IN A SANDBOX (cutbox-rows.mjs): the forced cells as the released guide's own fill.sh prints them over the translation ea14df77eb40c276… (all of the seat's roots in one cut). By AI agents, Wed Nov 11 2026. No macro, syntax, notation, axiom, sorry.
-/
import Derived.Test.YthhcjomfpjopdaaChecked
import GoSem.Claim
import GoSem.ClaimJoined
import GoSem.ClaimMapViews
import Derived.JoinedTies
import Derived.KernelRfl
namespace Go.Proofs.Ythhcjomfpjopdaa
/- THE CELL 'sum', in the pinned program and in every row, IS THE sha256 OF THE DUMP (.gsa) THAT YthhcjomfpjopdaaProg.lean LOADS. Nothing in Lean hashes anything: it is a label: what it is worth is what the hold of that sum in a sandbox is worth. -/
noncomputable def Try.pinned : Pinned := { name := "ythhcjomfpjopdaa", sum := "ea14df77eb40c276122cbb4d0960ac1b6be0b95f5e7fc84e3d79c5d17603a84c", checked := Try.checked }
namespace Rows
def none {H : Type} : Left H := { results := [], args := [] }

/-- 'laws.FnWorthOf': WHATEVER THE INPUT: true; the input reads as it did. -/
def fnWorthOfSpec : ChangeSpec := { name := "fnWorthOf", fn := fun _ => fun
  | [d1, d2] => { results := [.lit (.bool true)], args := [d1, d2] }
  | _ => none }
def fnWorthOfRow : OpenClaim := { program := "ythhcjomfpjopdaa", sum := "ea14df77eb40c276122cbb4d0960ac1b6be0b95f5e7fc84e3d79c5d17603a84c", func := "loop.example/shortestates/laws.FnWorthOf", spec := "fnWorthOf", apart := false }
def FnWorthOfSaid : Prop := fnWorthOfRow.holds Try.pinned (OpenSpec.ofChange fnWorthOfSpec)

/-- ITS FALSE NEIGHBOUR: 'it returns false'. Refute it at one input. -/
def fnWorthOfWrong : ChangeSpec := { name := "fnWorthOf", fn := fun _ => fun
  | [d1, d2] => { results := [.lit (.bool false)], args := [d1, d2] }
  | _ => none }
def FnWorthOfWrongFalsely : Prop := fnWorthOfRow.holds Try.pinned (OpenSpec.ofChange fnWorthOfWrong)

/-- 'laws.FnCoreOk': WHATEVER THE INPUT: true; the input reads as it did. -/
def fnCoreOkSpec : ChangeSpec := { name := "fnCoreOk", fn := fun _ => fun
  | [d] => { results := [.lit (.bool true)], args := [d] }
  | _ => none }
def fnCoreOkRow : OpenClaim := { program := "ythhcjomfpjopdaa", sum := "ea14df77eb40c276122cbb4d0960ac1b6be0b95f5e7fc84e3d79c5d17603a84c", func := "loop.example/shortestates/laws.FnCoreOk", spec := "fnCoreOk", recurses := true, apart := false }
def FnCoreOkSaid : Prop := fnCoreOkRow.holds Try.pinned (OpenSpec.ofChange fnCoreOkSpec)

/-- ITS FALSE NEIGHBOUR: 'it returns false'. Refute it at one input. -/
def fnCoreOkWrong : ChangeSpec := { name := "fnCoreOk", fn := fun _ => fun
  | [d] => { results := [.lit (.bool false)], args := [d] }
  | _ => none }
def FnCoreOkWrongFalsely : Prop := fnCoreOkRow.holds Try.pinned (OpenSpec.ofChange fnCoreOkWrong)

/-- 'laws.FnMissRow': WHATEVER THE INPUT: true; the input reads as it did. -/
def fnMissRowSpec : ChangeSpec := { name := "fnMissRow", fn := fun _ => fun
  | [d] => { results := [.lit (.bool true)], args := [d] }
  | _ => none }
def fnMissRowRow : OpenClaim := { program := "ythhcjomfpjopdaa", sum := "ea14df77eb40c276122cbb4d0960ac1b6be0b95f5e7fc84e3d79c5d17603a84c", func := "loop.example/shortestates/laws.FnMissRow", spec := "fnMissRow", recurses := true, apart := false }
def FnMissRowSaid : Prop := fnMissRowRow.holds Try.pinned (OpenSpec.ofChange fnMissRowSpec)

/-- ITS FALSE NEIGHBOUR: 'it returns false'. Refute it at one input. -/
def fnMissRowWrong : ChangeSpec := { name := "fnMissRow", fn := fun _ => fun
  | [d] => { results := [.lit (.bool false)], args := [d] }
  | _ => none }
def FnMissRowWrongFalsely : Prop := fnMissRowRow.holds Try.pinned (OpenSpec.ofChange fnMissRowWrong)

/-- 'laws.FnRowOrder': WHATEVER THE INPUT: true; the input reads as it did. -/
def fnRowOrderSpec : ChangeSpec := { name := "fnRowOrder", fn := fun _ => fun
  | [d] => { results := [.lit (.bool true)], args := [d] }
  | _ => none }
def fnRowOrderRow : OpenClaim := { program := "ythhcjomfpjopdaa", sum := "ea14df77eb40c276122cbb4d0960ac1b6be0b95f5e7fc84e3d79c5d17603a84c", func := "loop.example/shortestates/laws.FnRowOrder", spec := "fnRowOrder", apart := false }
def FnRowOrderSaid : Prop := fnRowOrderRow.holds Try.pinned (OpenSpec.ofChange fnRowOrderSpec)

/-- ITS FALSE NEIGHBOUR: 'it returns false'. Refute it at one input. -/
def fnRowOrderWrong : ChangeSpec := { name := "fnRowOrder", fn := fun _ => fun
  | [d] => { results := [.lit (.bool false)], args := [d] }
  | _ => none }
def FnRowOrderWrongFalsely : Prop := fnRowOrderRow.holds Try.pinned (OpenSpec.ofChange fnRowOrderWrong)

/-- 'laws.FnWorthRow': WHATEVER THE INPUT: true; the input reads as it did. -/
def fnWorthRowSpec : ChangeSpec := { name := "fnWorthRow", fn := fun _ => fun
  | [d] => { results := [.lit (.bool true)], args := [d] }
  | _ => none }
def fnWorthRowRow : OpenClaim := { program := "ythhcjomfpjopdaa", sum := "ea14df77eb40c276122cbb4d0960ac1b6be0b95f5e7fc84e3d79c5d17603a84c", func := "loop.example/shortestates/laws.FnWorthRow", spec := "fnWorthRow", apart := false }
def FnWorthRowSaid : Prop := fnWorthRowRow.holds Try.pinned (OpenSpec.ofChange fnWorthRowSpec)

/-- ITS FALSE NEIGHBOUR: 'it returns false'. Refute it at one input. -/
def fnWorthRowWrong : ChangeSpec := { name := "fnWorthRow", fn := fun _ => fun
  | [d] => { results := [.lit (.bool false)], args := [d] }
  | _ => none }
def FnWorthRowWrongFalsely : Prop := fnWorthRowRow.holds Try.pinned (OpenSpec.ofChange fnWorthRowWrong)

/-- 'laws.FnWorthOther': WHATEVER THE INPUT: true; the input reads as it did. -/
def fnWorthOtherSpec : ChangeSpec := { name := "fnWorthOther", fn := fun _ => fun
  | [d] => { results := [.lit (.bool true)], args := [d] }
  | _ => none }
def fnWorthOtherRow : OpenClaim := { program := "ythhcjomfpjopdaa", sum := "ea14df77eb40c276122cbb4d0960ac1b6be0b95f5e7fc84e3d79c5d17603a84c", func := "loop.example/shortestates/laws.FnWorthOther", spec := "fnWorthOther", apart := false }
def FnWorthOtherSaid : Prop := fnWorthOtherRow.holds Try.pinned (OpenSpec.ofChange fnWorthOtherSpec)

/-- ITS FALSE NEIGHBOUR: 'it returns false'. Refute it at one input. -/
def fnWorthOtherWrong : ChangeSpec := { name := "fnWorthOther", fn := fun _ => fun
  | [d] => { results := [.lit (.bool false)], args := [d] }
  | _ => none }
def FnWorthOtherWrongFalsely : Prop := fnWorthOtherRow.holds Try.pinned (OpenSpec.ofChange fnWorthOtherWrong)

/-- 'laws.FnExactWorthOf': WHATEVER THE INPUT: true; the input reads as it did. -/
def fnExactWorthOfSpec : ChangeSpec := { name := "fnExactWorthOf", fn := fun _ => fun
  | [d1, d2] => { results := [.lit (.bool true)], args := [d1, d2] }
  | _ => none }
def fnExactWorthOfRow : OpenClaim := { program := "ythhcjomfpjopdaa", sum := "ea14df77eb40c276122cbb4d0960ac1b6be0b95f5e7fc84e3d79c5d17603a84c", func := "loop.example/shortestates/laws.FnExactWorthOf", spec := "fnExactWorthOf", apart := false }
def FnExactWorthOfSaid : Prop := fnExactWorthOfRow.holds Try.pinned (OpenSpec.ofChange fnExactWorthOfSpec)

/-- ITS FALSE NEIGHBOUR: 'it returns false'. Refute it at one input. -/
def fnExactWorthOfWrong : ChangeSpec := { name := "fnExactWorthOf", fn := fun _ => fun
  | [d1, d2] => { results := [.lit (.bool false)], args := [d1, d2] }
  | _ => none }
def FnExactWorthOfWrongFalsely : Prop := fnExactWorthOfRow.holds Try.pinned (OpenSpec.ofChange fnExactWorthOfWrong)

/-- 'laws.FnExactCoreOk': WHATEVER THE INPUT: true; the input reads as it did. -/
def fnExactCoreOkSpec : ChangeSpec := { name := "fnExactCoreOk", fn := fun _ => fun
  | [d1, d2] => { results := [.lit (.bool true)], args := [d1, d2] }
  | _ => none }
def fnExactCoreOkRow : OpenClaim := { program := "ythhcjomfpjopdaa", sum := "ea14df77eb40c276122cbb4d0960ac1b6be0b95f5e7fc84e3d79c5d17603a84c", func := "loop.example/shortestates/laws.FnExactCoreOk", spec := "fnExactCoreOk", apart := false }
def FnExactCoreOkSaid : Prop := fnExactCoreOkRow.holds Try.pinned (OpenSpec.ofChange fnExactCoreOkSpec)

/-- ITS FALSE NEIGHBOUR: 'it returns false'. Refute it at one input. -/
def fnExactCoreOkWrong : ChangeSpec := { name := "fnExactCoreOk", fn := fun _ => fun
  | [d1, d2] => { results := [.lit (.bool false)], args := [d1, d2] }
  | _ => none }
def FnExactCoreOkWrongFalsely : Prop := fnExactCoreOkRow.holds Try.pinned (OpenSpec.ofChange fnExactCoreOkWrong)

/-- 'laws.FnExactMissRow': WHATEVER THE INPUT: true; the input reads as it did. -/
def fnExactMissRowSpec : ChangeSpec := { name := "fnExactMissRow", fn := fun _ => fun
  | [d1, d2] => { results := [.lit (.bool true)], args := [d1, d2] }
  | _ => none }
def fnExactMissRowRow : OpenClaim := { program := "ythhcjomfpjopdaa", sum := "ea14df77eb40c276122cbb4d0960ac1b6be0b95f5e7fc84e3d79c5d17603a84c", func := "loop.example/shortestates/laws.FnExactMissRow", spec := "fnExactMissRow", recurses := true, apart := false }
def FnExactMissRowSaid : Prop := fnExactMissRowRow.holds Try.pinned (OpenSpec.ofChange fnExactMissRowSpec)

/-- ITS FALSE NEIGHBOUR: 'it returns false'. Refute it at one input. -/
def fnExactMissRowWrong : ChangeSpec := { name := "fnExactMissRow", fn := fun _ => fun
  | [d1, d2] => { results := [.lit (.bool false)], args := [d1, d2] }
  | _ => none }
def FnExactMissRowWrongFalsely : Prop := fnExactMissRowRow.holds Try.pinned (OpenSpec.ofChange fnExactMissRowWrong)

/-- 'laws.FnExactRowOrder': WHATEVER THE INPUT: true; the input reads as it did. -/
def fnExactRowOrderSpec : ChangeSpec := { name := "fnExactRowOrder", fn := fun _ => fun
  | [d1, d2] => { results := [.lit (.bool true)], args := [d1, d2] }
  | _ => none }
def fnExactRowOrderRow : OpenClaim := { program := "ythhcjomfpjopdaa", sum := "ea14df77eb40c276122cbb4d0960ac1b6be0b95f5e7fc84e3d79c5d17603a84c", func := "loop.example/shortestates/laws.FnExactRowOrder", spec := "fnExactRowOrder", apart := false }
def FnExactRowOrderSaid : Prop := fnExactRowOrderRow.holds Try.pinned (OpenSpec.ofChange fnExactRowOrderSpec)

/-- ITS FALSE NEIGHBOUR: 'it returns false'. Refute it at one input. -/
def fnExactRowOrderWrong : ChangeSpec := { name := "fnExactRowOrder", fn := fun _ => fun
  | [d1, d2] => { results := [.lit (.bool false)], args := [d1, d2] }
  | _ => none }
def FnExactRowOrderWrongFalsely : Prop := fnExactRowOrderRow.holds Try.pinned (OpenSpec.ofChange fnExactRowOrderWrong)

/-- 'laws.FnExactWorthRow': WHATEVER THE INPUT: true; the input reads as it did. -/
def fnExactWorthRowSpec : ChangeSpec := { name := "fnExactWorthRow", fn := fun _ => fun
  | [d] => { results := [.lit (.bool true)], args := [d] }
  | _ => none }
def fnExactWorthRowRow : OpenClaim := { program := "ythhcjomfpjopdaa", sum := "ea14df77eb40c276122cbb4d0960ac1b6be0b95f5e7fc84e3d79c5d17603a84c", func := "loop.example/shortestates/laws.FnExactWorthRow", spec := "fnExactWorthRow", apart := false }
def FnExactWorthRowSaid : Prop := fnExactWorthRowRow.holds Try.pinned (OpenSpec.ofChange fnExactWorthRowSpec)

/-- ITS FALSE NEIGHBOUR: 'it returns false'. Refute it at one input. -/
def fnExactWorthRowWrong : ChangeSpec := { name := "fnExactWorthRow", fn := fun _ => fun
  | [d] => { results := [.lit (.bool false)], args := [d] }
  | _ => none }
def FnExactWorthRowWrongFalsely : Prop := fnExactWorthRowRow.holds Try.pinned (OpenSpec.ofChange fnExactWorthRowWrong)

/- THE SECOND FORM. 'bulk': how many values and letters a reading holds, each counted each time it is reached (what is shared counts as often as it is met; a slice's spare places count too). A statement '..UptoSaid' is the law's where the arguments, and the package variables that the reading takes, are together of bulk at most 1048576: NARROWER than '..Said'. Prove '..Said' where nothing that the law and all that it calls make is longer than what came in: it says more and counts as full. Else prove '..UptoSaid'. A law counts once. -/
mutual
def uptoBulk {H : Type} : DataW H → Nat
  | .lit (.string bytes) => bytes.length + 1
  | .lit _ => 1
  | .nil => 1
  | .ptr d => uptoBulk d + 1
  | .slice elems spare => uptoBulkAll elems + uptoBulkAll spare + 1
  | .agg parts => uptoBulkAll parts + 1
  | .iface _ d => uptoBulk d + 1
  | .map entries => uptoBulkEntries entries + 1
  | .held _ => 1
def uptoBulkAll {H : Type} : List (DataW H) → Nat
  | [] => 0
  | d :: r => uptoBulk d + uptoBulkAll r
def uptoBulkEntries {H : Type} : List (Lit × DataW H) → Nat
  | [] => 0
  | x :: r => uptoBulkEntry x + uptoBulkEntries r
def uptoBulkEntry {H : Type} : Lit × DataW H → Nat
  | (.string bytes, d) => bytes.length + uptoBulk d + 1
  | (_, d) => uptoBulk d + 1
 end
def uptoSmall : (H : Type) → List (DataW H) → Bool := fun _ ds => decide (uptoBulkAll ds ≤ 1048576)
def OpenSpec.upto (s : _root_.Go.ChangeSpec) : _root_.Go.OpenSpec := { _root_.Go.OpenSpec.ofChange s with cond := some uptoSmall }

/-- 'laws.FnWorthOf', WHERE WHAT IT READS IS OF BULK AT MOST 1048576: true; the input reads as it did. -/
def fnWorthOfUptoRow : OpenClaim := { program := "ythhcjomfpjopdaa", sum := "ea14df77eb40c276122cbb4d0960ac1b6be0b95f5e7fc84e3d79c5d17603a84c", func := "loop.example/shortestates/laws.FnWorthOf", spec := "fnWorthOf", apart := false, narrowed := true }
def FnWorthOfUptoSaid : Prop := fnWorthOfUptoRow.holds Try.pinned (OpenSpec.upto fnWorthOfSpec)

/-- 'laws.FnCoreOk', WHERE WHAT IT READS IS OF BULK AT MOST 1048576: true; the input reads as it did. -/
def fnCoreOkUptoRow : OpenClaim := { program := "ythhcjomfpjopdaa", sum := "ea14df77eb40c276122cbb4d0960ac1b6be0b95f5e7fc84e3d79c5d17603a84c", func := "loop.example/shortestates/laws.FnCoreOk", spec := "fnCoreOk", recurses := true, apart := false, narrowed := true }
def FnCoreOkUptoSaid : Prop := fnCoreOkUptoRow.holds Try.pinned (OpenSpec.upto fnCoreOkSpec)

/-- 'laws.FnMissRow', WHERE WHAT IT READS IS OF BULK AT MOST 1048576: true; the input reads as it did. -/
def fnMissRowUptoRow : OpenClaim := { program := "ythhcjomfpjopdaa", sum := "ea14df77eb40c276122cbb4d0960ac1b6be0b95f5e7fc84e3d79c5d17603a84c", func := "loop.example/shortestates/laws.FnMissRow", spec := "fnMissRow", recurses := true, apart := false, narrowed := true }
def FnMissRowUptoSaid : Prop := fnMissRowUptoRow.holds Try.pinned (OpenSpec.upto fnMissRowSpec)

/-- 'laws.FnRowOrder', WHERE WHAT IT READS IS OF BULK AT MOST 1048576: true; the input reads as it did. -/
def fnRowOrderUptoRow : OpenClaim := { program := "ythhcjomfpjopdaa", sum := "ea14df77eb40c276122cbb4d0960ac1b6be0b95f5e7fc84e3d79c5d17603a84c", func := "loop.example/shortestates/laws.FnRowOrder", spec := "fnRowOrder", apart := false, narrowed := true }
def FnRowOrderUptoSaid : Prop := fnRowOrderUptoRow.holds Try.pinned (OpenSpec.upto fnRowOrderSpec)

/-- 'laws.FnWorthRow', WHERE WHAT IT READS IS OF BULK AT MOST 1048576: true; the input reads as it did. -/
def fnWorthRowUptoRow : OpenClaim := { program := "ythhcjomfpjopdaa", sum := "ea14df77eb40c276122cbb4d0960ac1b6be0b95f5e7fc84e3d79c5d17603a84c", func := "loop.example/shortestates/laws.FnWorthRow", spec := "fnWorthRow", apart := false, narrowed := true }
def FnWorthRowUptoSaid : Prop := fnWorthRowUptoRow.holds Try.pinned (OpenSpec.upto fnWorthRowSpec)

/-- 'laws.FnWorthOther', WHERE WHAT IT READS IS OF BULK AT MOST 1048576: true; the input reads as it did. -/
def fnWorthOtherUptoRow : OpenClaim := { program := "ythhcjomfpjopdaa", sum := "ea14df77eb40c276122cbb4d0960ac1b6be0b95f5e7fc84e3d79c5d17603a84c", func := "loop.example/shortestates/laws.FnWorthOther", spec := "fnWorthOther", apart := false, narrowed := true }
def FnWorthOtherUptoSaid : Prop := fnWorthOtherUptoRow.holds Try.pinned (OpenSpec.upto fnWorthOtherSpec)

/-- 'laws.FnExactWorthOf', WHERE WHAT IT READS IS OF BULK AT MOST 1048576: true; the input reads as it did. -/
def fnExactWorthOfUptoRow : OpenClaim := { program := "ythhcjomfpjopdaa", sum := "ea14df77eb40c276122cbb4d0960ac1b6be0b95f5e7fc84e3d79c5d17603a84c", func := "loop.example/shortestates/laws.FnExactWorthOf", spec := "fnExactWorthOf", apart := false, narrowed := true }
def FnExactWorthOfUptoSaid : Prop := fnExactWorthOfUptoRow.holds Try.pinned (OpenSpec.upto fnExactWorthOfSpec)

/-- 'laws.FnExactCoreOk', WHERE WHAT IT READS IS OF BULK AT MOST 1048576: true; the input reads as it did. -/
def fnExactCoreOkUptoRow : OpenClaim := { program := "ythhcjomfpjopdaa", sum := "ea14df77eb40c276122cbb4d0960ac1b6be0b95f5e7fc84e3d79c5d17603a84c", func := "loop.example/shortestates/laws.FnExactCoreOk", spec := "fnExactCoreOk", apart := false, narrowed := true }
def FnExactCoreOkUptoSaid : Prop := fnExactCoreOkUptoRow.holds Try.pinned (OpenSpec.upto fnExactCoreOkSpec)

/-- 'laws.FnExactMissRow', WHERE WHAT IT READS IS OF BULK AT MOST 1048576: true; the input reads as it did. -/
def fnExactMissRowUptoRow : OpenClaim := { program := "ythhcjomfpjopdaa", sum := "ea14df77eb40c276122cbb4d0960ac1b6be0b95f5e7fc84e3d79c5d17603a84c", func := "loop.example/shortestates/laws.FnExactMissRow", spec := "fnExactMissRow", recurses := true, apart := false, narrowed := true }
def FnExactMissRowUptoSaid : Prop := fnExactMissRowUptoRow.holds Try.pinned (OpenSpec.upto fnExactMissRowSpec)

/-- 'laws.FnExactRowOrder', WHERE WHAT IT READS IS OF BULK AT MOST 1048576: true; the input reads as it did. -/
def fnExactRowOrderUptoRow : OpenClaim := { program := "ythhcjomfpjopdaa", sum := "ea14df77eb40c276122cbb4d0960ac1b6be0b95f5e7fc84e3d79c5d17603a84c", func := "loop.example/shortestates/laws.FnExactRowOrder", spec := "fnExactRowOrder", apart := false, narrowed := true }
def FnExactRowOrderUptoSaid : Prop := fnExactRowOrderUptoRow.holds Try.pinned (OpenSpec.upto fnExactRowOrderSpec)

/-- 'laws.FnExactWorthRow', WHERE WHAT IT READS IS OF BULK AT MOST 1048576: true; the input reads as it did. -/
def fnExactWorthRowUptoRow : OpenClaim := { program := "ythhcjomfpjopdaa", sum := "ea14df77eb40c276122cbb4d0960ac1b6be0b95f5e7fc84e3d79c5d17603a84c", func := "loop.example/shortestates/laws.FnExactWorthRow", spec := "fnExactWorthRow", apart := false, narrowed := true }
def FnExactWorthRowUptoSaid : Prop := fnExactWorthRowUptoRow.holds Try.pinned (OpenSpec.upto fnExactWorthRowSpec)

end Rows
end Go.Proofs.Ythhcjomfpjopdaa
