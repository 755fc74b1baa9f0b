/-
  No cell of these rows narrows 'for every input' (looked for: loops, veiled, ifaces, maps, wideKeys, modest, calm, conditions, laid).
  DERIVED. THE GIVEN ROWS OF THIS SEAT. 12 by the template 'for every input the law returns true; each argument reads behind the call as it read before'; 0 by the template 'total and deterministic' (their statements: YtmkmipgboecdaaaTotals.lean).
  GIVEN WITH THE SEED: the statements are not yours to turn. If you find one false, say at which input.
  Laid BY PROGRAM, IN A SANDBOX (cutbox-rows.mjs): the forced cells as the released guide's own fill.sh prints them over the translation 085f08635de9ff54… (all of the seat's roots in one cut). By AI agents, Wed Nov 11 2026. No macro, syntax, notation, axiom, sorry.
-/
import Derived.Test.YtmkmipgboecdaaaChecked
import GoSem.Claim
import GoSem.ClaimJoined
import GoSem.ClaimMapViews
import Derived.JoinedTies
import Derived.KernelRfl
namespace Go.Proofs.Ytmkmipgboecdaaa
/- THE CELL 'sum', in the pinned program and in every row, IS THE sha256 OF THE DUMP (.gsa) THAT YtmkmipgboecdaaaProg.lean LOADS. Nothing in Lean hashes anything: it is a label: what it is worth is what the hold of that sum in a sandbox is worth. -/
noncomputable def Try.pinned : Pinned := { name := "ytmkmipgboecdaaa", sum := "085f08635de9ff54f12713ffe3ecca1f300b08e325a3e48ab197bff5b8bf190c", checked := Try.checked }
namespace Rows
def none {H : Type} : Left H := { results := [], args := [] }

/-- 'laws.FnOrderAwards': WHATEVER THE INPUT: true; the input reads as it did. -/
def fnOrderAwardsSpec : ChangeSpec := { name := "fnOrderAwards", fn := fun _ => fun
  | [d] => { results := [.lit (.bool true)], args := [d] }
  | _ => none }
def fnOrderAwardsRow : OpenClaim := { program := "ytmkmipgboecdaaa", sum := "085f08635de9ff54f12713ffe3ecca1f300b08e325a3e48ab197bff5b8bf190c", func := "loop.example/shortestates/laws.FnOrderAwards", spec := "fnOrderAwards", apart := false }
def FnOrderAwardsSaid : Prop := fnOrderAwardsRow.holds Try.pinned (OpenSpec.ofChange fnOrderAwardsSpec)

/-- ITS FALSE NEIGHBOUR: 'it returns false'. Refute it at one input. -/
def fnOrderAwardsWrong : ChangeSpec := { name := "fnOrderAwards", fn := fun _ => fun
  | [d] => { results := [.lit (.bool false)], args := [d] }
  | _ => none }
def FnOrderAwardsWrongFalsely : Prop := fnOrderAwardsRow.holds Try.pinned (OpenSpec.ofChange fnOrderAwardsWrong)

/-- 'laws.FnArrivalAwards': WHATEVER THE INPUT: true; the input reads as it did. -/
def fnArrivalAwardsSpec : ChangeSpec := { name := "fnArrivalAwards", fn := fun _ => fun
  | [d] => { results := [.lit (.bool true)], args := [d] }
  | _ => none }
def fnArrivalAwardsRow : OpenClaim := { program := "ytmkmipgboecdaaa", sum := "085f08635de9ff54f12713ffe3ecca1f300b08e325a3e48ab197bff5b8bf190c", func := "loop.example/shortestates/laws.FnArrivalAwards", spec := "fnArrivalAwards", unfollowed := true, recurses := true, apart := false }
def FnArrivalAwardsSaid : Prop := fnArrivalAwardsRow.holds Try.pinned (OpenSpec.ofChange fnArrivalAwardsSpec)

/-- ITS FALSE NEIGHBOUR: 'it returns false'. Refute it at one input. -/
def fnArrivalAwardsWrong : ChangeSpec := { name := "fnArrivalAwards", fn := fun _ => fun
  | [d] => { results := [.lit (.bool false)], args := [d] }
  | _ => none }
def FnArrivalAwardsWrongFalsely : Prop := fnArrivalAwardsRow.holds Try.pinned (OpenSpec.ofChange fnArrivalAwardsWrong)

/-- 'laws.FnBringsOf': WHATEVER THE INPUT: true; the input reads as it did. -/
def fnBringsOfSpec : ChangeSpec := { name := "fnBringsOf", fn := fun _ => fun
  | [d1, d2] => { results := [.lit (.bool true)], args := [d1, d2] }
  | _ => none }
def fnBringsOfRow : OpenClaim := { program := "ytmkmipgboecdaaa", sum := "085f08635de9ff54f12713ffe3ecca1f300b08e325a3e48ab197bff5b8bf190c", func := "loop.example/shortestates/laws.FnBringsOf", spec := "fnBringsOf", apart := false }
def FnBringsOfSaid : Prop := fnBringsOfRow.holds Try.pinned (OpenSpec.ofChange fnBringsOfSpec)

/-- ITS FALSE NEIGHBOUR: 'it returns false'. Refute it at one input. -/
def fnBringsOfWrong : ChangeSpec := { name := "fnBringsOf", fn := fun _ => fun
  | [d1, d2] => { results := [.lit (.bool false)], args := [d1, d2] }
  | _ => none }
def FnBringsOfWrongFalsely : Prop := fnBringsOfRow.holds Try.pinned (OpenSpec.ofChange fnBringsOfWrong)

/-- 'laws.FnGameShares': WHATEVER THE INPUT: true; the input reads as it did. -/
def fnGameSharesSpec : ChangeSpec := { name := "fnGameShares", fn := fun _ => fun
  | [d] => { results := [.lit (.bool true)], args := [d] }
  | _ => none }
def fnGameSharesRow : OpenClaim := { program := "ytmkmipgboecdaaa", sum := "085f08635de9ff54f12713ffe3ecca1f300b08e325a3e48ab197bff5b8bf190c", func := "loop.example/shortestates/laws.FnGameShares", spec := "fnGameShares", apart := false }
def FnGameSharesSaid : Prop := fnGameSharesRow.holds Try.pinned (OpenSpec.ofChange fnGameSharesSpec)

/-- ITS FALSE NEIGHBOUR: 'it returns false'. Refute it at one input. -/
def fnGameSharesWrong : ChangeSpec := { name := "fnGameShares", fn := fun _ => fun
  | [d] => { results := [.lit (.bool false)], args := [d] }
  | _ => none }
def FnGameSharesWrongFalsely : Prop := fnGameSharesRow.holds Try.pinned (OpenSpec.ofChange fnGameSharesWrong)

/-- 'laws.FnArrivalCut': WHATEVER THE INPUT: true; the input reads as it did. -/
def fnArrivalCutSpec : ChangeSpec := { name := "fnArrivalCut", fn := fun _ => fun
  | [d] => { results := [.lit (.bool true)], args := [d] }
  | _ => none }
def fnArrivalCutRow : OpenClaim := { program := "ytmkmipgboecdaaa", sum := "085f08635de9ff54f12713ffe3ecca1f300b08e325a3e48ab197bff5b8bf190c", func := "loop.example/shortestates/laws.FnArrivalCut", spec := "fnArrivalCut", unfollowed := true, recurses := true, apart := false }
def FnArrivalCutSaid : Prop := fnArrivalCutRow.holds Try.pinned (OpenSpec.ofChange fnArrivalCutSpec)

/-- ITS FALSE NEIGHBOUR: 'it returns false'. Refute it at one input. -/
def fnArrivalCutWrong : ChangeSpec := { name := "fnArrivalCut", fn := fun _ => fun
  | [d] => { results := [.lit (.bool false)], args := [d] }
  | _ => none }
def FnArrivalCutWrongFalsely : Prop := fnArrivalCutRow.holds Try.pinned (OpenSpec.ofChange fnArrivalCutWrong)

/-- 'laws.FnArrivalNamed': WHATEVER THE INPUT: true; the input reads as it did. -/
def fnArrivalNamedSpec : ChangeSpec := { name := "fnArrivalNamed", fn := fun _ => fun
  | [d] => { results := [.lit (.bool true)], args := [d] }
  | _ => none }
def fnArrivalNamedRow : OpenClaim := { program := "ytmkmipgboecdaaa", sum := "085f08635de9ff54f12713ffe3ecca1f300b08e325a3e48ab197bff5b8bf190c", func := "loop.example/shortestates/laws.FnArrivalNamed", spec := "fnArrivalNamed", unfollowed := true, recurses := true, apart := false }
def FnArrivalNamedSaid : Prop := fnArrivalNamedRow.holds Try.pinned (OpenSpec.ofChange fnArrivalNamedSpec)

/-- ITS FALSE NEIGHBOUR: 'it returns false'. Refute it at one input. -/
def fnArrivalNamedWrong : ChangeSpec := { name := "fnArrivalNamed", fn := fun _ => fun
  | [d] => { results := [.lit (.bool false)], args := [d] }
  | _ => none }
def FnArrivalNamedWrongFalsely : Prop := fnArrivalNamedRow.holds Try.pinned (OpenSpec.ofChange fnArrivalNamedWrong)

/-- 'laws.FnLeastEven': WHATEVER THE INPUT: true; the input reads as it did. -/
def fnLeastEvenSpec : ChangeSpec := { name := "fnLeastEven", fn := fun _ => fun
  | [d1, d2] => { results := [.lit (.bool true)], args := [d1, d2] }
  | _ => none }
def fnLeastEvenRow : OpenClaim := { program := "ytmkmipgboecdaaa", sum := "085f08635de9ff54f12713ffe3ecca1f300b08e325a3e48ab197bff5b8bf190c", func := "loop.example/shortestates/laws.FnLeastEven", spec := "fnLeastEven", unfollowed := true, recurses := true, apart := false }
def FnLeastEvenSaid : Prop := fnLeastEvenRow.holds Try.pinned (OpenSpec.ofChange fnLeastEvenSpec)

/-- ITS FALSE NEIGHBOUR: 'it returns false'. Refute it at one input. -/
def fnLeastEvenWrong : ChangeSpec := { name := "fnLeastEven", fn := fun _ => fun
  | [d1, d2] => { results := [.lit (.bool false)], args := [d1, d2] }
  | _ => none }
def FnLeastEvenWrongFalsely : Prop := fnLeastEvenRow.holds Try.pinned (OpenSpec.ofChange fnLeastEvenWrong)

/-- 'laws.FnHalfTwo': WHATEVER THE INPUT: true; the input reads as it did. -/
def fnHalfTwoSpec : ChangeSpec := { name := "fnHalfTwo", fn := fun _ => fun
  | [d] => { results := [.lit (.bool true)], args := [d] }
  | _ => none }
def fnHalfTwoRow : OpenClaim := { program := "ytmkmipgboecdaaa", sum := "085f08635de9ff54f12713ffe3ecca1f300b08e325a3e48ab197bff5b8bf190c", func := "loop.example/shortestates/laws.FnHalfTwo", spec := "fnHalfTwo", unfollowed := true, recurses := true, apart := false }
def FnHalfTwoSaid : Prop := fnHalfTwoRow.holds Try.pinned (OpenSpec.ofChange fnHalfTwoSpec)

/-- ITS FALSE NEIGHBOUR: 'it returns false'. Refute it at one input. -/
def fnHalfTwoWrong : ChangeSpec := { name := "fnHalfTwo", fn := fun _ => fun
  | [d] => { results := [.lit (.bool false)], args := [d] }
  | _ => none }
def FnHalfTwoWrongFalsely : Prop := fnHalfTwoRow.holds Try.pinned (OpenSpec.ofChange fnHalfTwoWrong)

/-- 'laws.FnExactOrderAwards': WHATEVER THE INPUT: true; the input reads as it did. -/
def fnExactOrderAwardsSpec : ChangeSpec := { name := "fnExactOrderAwards", fn := fun _ => fun
  | [d1, d2] => { results := [.lit (.bool true)], args := [d1, d2] }
  | _ => none }
def fnExactOrderAwardsRow : OpenClaim := { program := "ytmkmipgboecdaaa", sum := "085f08635de9ff54f12713ffe3ecca1f300b08e325a3e48ab197bff5b8bf190c", func := "loop.example/shortestates/laws.FnExactOrderAwards", spec := "fnExactOrderAwards", apart := false }
def FnExactOrderAwardsSaid : Prop := fnExactOrderAwardsRow.holds Try.pinned (OpenSpec.ofChange fnExactOrderAwardsSpec)

/-- ITS FALSE NEIGHBOUR: 'it returns false'. Refute it at one input. -/
def fnExactOrderAwardsWrong : ChangeSpec := { name := "fnExactOrderAwards", fn := fun _ => fun
  | [d1, d2] => { results := [.lit (.bool false)], args := [d1, d2] }
  | _ => none }
def FnExactOrderAwardsWrongFalsely : Prop := fnExactOrderAwardsRow.holds Try.pinned (OpenSpec.ofChange fnExactOrderAwardsWrong)

/-- 'laws.FnExactArrivalAwards': WHATEVER THE INPUT: true; the input reads as it did. -/
def fnExactArrivalAwardsSpec : ChangeSpec := { name := "fnExactArrivalAwards", fn := fun _ => fun
  | [d] => { results := [.lit (.bool true)], args := [d] }
  | _ => none }
def fnExactArrivalAwardsRow : OpenClaim := { program := "ytmkmipgboecdaaa", sum := "085f08635de9ff54f12713ffe3ecca1f300b08e325a3e48ab197bff5b8bf190c", func := "loop.example/shortestates/laws.FnExactArrivalAwards", spec := "fnExactArrivalAwards", unfollowed := true, recurses := true, apart := false }
def FnExactArrivalAwardsSaid : Prop := fnExactArrivalAwardsRow.holds Try.pinned (OpenSpec.ofChange fnExactArrivalAwardsSpec)

/-- ITS FALSE NEIGHBOUR: 'it returns false'. Refute it at one input. -/
def fnExactArrivalAwardsWrong : ChangeSpec := { name := "fnExactArrivalAwards", fn := fun _ => fun
  | [d] => { results := [.lit (.bool false)], args := [d] }
  | _ => none }
def FnExactArrivalAwardsWrongFalsely : Prop := fnExactArrivalAwardsRow.holds Try.pinned (OpenSpec.ofChange fnExactArrivalAwardsWrong)

/-- 'laws.FnExactBringsOf': WHATEVER THE INPUT: true; the input reads as it did. -/
def fnExactBringsOfSpec : ChangeSpec := { name := "fnExactBringsOf", fn := fun _ => fun
  | [d1, d2, d3] => { results := [.lit (.bool true)], args := [d1, d2, d3] }
  | _ => none }
def fnExactBringsOfRow : OpenClaim := { program := "ytmkmipgboecdaaa", sum := "085f08635de9ff54f12713ffe3ecca1f300b08e325a3e48ab197bff5b8bf190c", func := "loop.example/shortestates/laws.FnExactBringsOf", spec := "fnExactBringsOf", apart := false }
def FnExactBringsOfSaid : Prop := fnExactBringsOfRow.holds Try.pinned (OpenSpec.ofChange fnExactBringsOfSpec)

/-- ITS FALSE NEIGHBOUR: 'it returns false'. Refute it at one input. -/
def fnExactBringsOfWrong : ChangeSpec := { name := "fnExactBringsOf", fn := fun _ => fun
  | [d1, d2, d3] => { results := [.lit (.bool false)], args := [d1, d2, d3] }
  | _ => none }
def FnExactBringsOfWrongFalsely : Prop := fnExactBringsOfRow.holds Try.pinned (OpenSpec.ofChange fnExactBringsOfWrong)

/-- 'laws.FnExactGameShares': WHATEVER THE INPUT: true; the input reads as it did. -/
def fnExactGameSharesSpec : ChangeSpec := { name := "fnExactGameShares", fn := fun _ => fun
  | [d] => { results := [.lit (.bool true)], args := [d] }
  | _ => none }
def fnExactGameSharesRow : OpenClaim := { program := "ytmkmipgboecdaaa", sum := "085f08635de9ff54f12713ffe3ecca1f300b08e325a3e48ab197bff5b8bf190c", func := "loop.example/shortestates/laws.FnExactGameShares", spec := "fnExactGameShares", apart := false }
def FnExactGameSharesSaid : Prop := fnExactGameSharesRow.holds Try.pinned (OpenSpec.ofChange fnExactGameSharesSpec)

/-- ITS FALSE NEIGHBOUR: 'it returns false'. Refute it at one input. -/
def fnExactGameSharesWrong : ChangeSpec := { name := "fnExactGameShares", fn := fun _ => fun
  | [d] => { results := [.lit (.bool false)], args := [d] }
  | _ => none }
def FnExactGameSharesWrongFalsely : Prop := fnExactGameSharesRow.holds Try.pinned (OpenSpec.ofChange fnExactGameSharesWrong)

/- THE SECOND FORM. 'bulk': how many values and letters a reading holds, each counted each time it is reached (what is shared counts as often as it is met; a slice's spare places count too). A statement '..UptoSaid' is the law's where the arguments, and the package variables that the reading takes, are together of bulk at most 1048576: NARROWER than '..Said'. Prove '..Said' where nothing that the law and all that it calls make is longer than what came in: it says more and counts as full. Else prove '..UptoSaid'. A law counts once. -/
mutual
def uptoBulk {H : Type} : DataW H → Nat
  | .lit (.string bytes) => bytes.length + 1
  | .lit _ => 1
  | .nil => 1
  | .ptr d => uptoBulk d + 1
  | .slice elems spare => uptoBulkAll elems + uptoBulkAll spare + 1
  | .agg parts => uptoBulkAll parts + 1
  | .iface _ d => uptoBulk d + 1
  | .map entries => uptoBulkEntries entries + 1
  | .held _ => 1
def uptoBulkAll {H : Type} : List (DataW H) → Nat
  | [] => 0
  | d :: r => uptoBulk d + uptoBulkAll r
def uptoBulkEntries {H : Type} : List (Lit × DataW H) → Nat
  | [] => 0
  | x :: r => uptoBulkEntry x + uptoBulkEntries r
def uptoBulkEntry {H : Type} : Lit × DataW H → Nat
  | (.string bytes, d) => bytes.length + uptoBulk d + 1
  | (_, d) => uptoBulk d + 1
 end
def uptoSmall : (H : Type) → List (DataW H) → Bool := fun _ ds => decide (uptoBulkAll ds ≤ 1048576)
def OpenSpec.upto (s : _root_.Go.ChangeSpec) : _root_.Go.OpenSpec := { _root_.Go.OpenSpec.ofChange s with cond := some uptoSmall }

/-- 'laws.FnOrderAwards', WHERE WHAT IT READS IS OF BULK AT MOST 1048576: true; the input reads as it did. -/
def fnOrderAwardsUptoRow : OpenClaim := { program := "ytmkmipgboecdaaa", sum := "085f08635de9ff54f12713ffe3ecca1f300b08e325a3e48ab197bff5b8bf190c", func := "loop.example/shortestates/laws.FnOrderAwards", spec := "fnOrderAwards", apart := false, narrowed := true }
def FnOrderAwardsUptoSaid : Prop := fnOrderAwardsUptoRow.holds Try.pinned (OpenSpec.upto fnOrderAwardsSpec)

/-- 'laws.FnArrivalAwards', WHERE WHAT IT READS IS OF BULK AT MOST 1048576: true; the input reads as it did. -/
def fnArrivalAwardsUptoRow : OpenClaim := { program := "ytmkmipgboecdaaa", sum := "085f08635de9ff54f12713ffe3ecca1f300b08e325a3e48ab197bff5b8bf190c", func := "loop.example/shortestates/laws.FnArrivalAwards", spec := "fnArrivalAwards", unfollowed := true, recurses := true, apart := false, narrowed := true }
def FnArrivalAwardsUptoSaid : Prop := fnArrivalAwardsUptoRow.holds Try.pinned (OpenSpec.upto fnArrivalAwardsSpec)

/-- 'laws.FnBringsOf', WHERE WHAT IT READS IS OF BULK AT MOST 1048576: true; the input reads as it did. -/
def fnBringsOfUptoRow : OpenClaim := { program := "ytmkmipgboecdaaa", sum := "085f08635de9ff54f12713ffe3ecca1f300b08e325a3e48ab197bff5b8bf190c", func := "loop.example/shortestates/laws.FnBringsOf", spec := "fnBringsOf", apart := false, narrowed := true }
def FnBringsOfUptoSaid : Prop := fnBringsOfUptoRow.holds Try.pinned (OpenSpec.upto fnBringsOfSpec)

/-- 'laws.FnGameShares', WHERE WHAT IT READS IS OF BULK AT MOST 1048576: true; the input reads as it did. -/
def fnGameSharesUptoRow : OpenClaim := { program := "ytmkmipgboecdaaa", sum := "085f08635de9ff54f12713ffe3ecca1f300b08e325a3e48ab197bff5b8bf190c", func := "loop.example/shortestates/laws.FnGameShares", spec := "fnGameShares", apart := false, narrowed := true }
def FnGameSharesUptoSaid : Prop := fnGameSharesUptoRow.holds Try.pinned (OpenSpec.upto fnGameSharesSpec)

/-- 'laws.FnArrivalCut', WHERE WHAT IT READS IS OF BULK AT MOST 1048576: true; the input reads as it did. -/
def fnArrivalCutUptoRow : OpenClaim := { program := "ytmkmipgboecdaaa", sum := "085f08635de9ff54f12713ffe3ecca1f300b08e325a3e48ab197bff5b8bf190c", func := "loop.example/shortestates/laws.FnArrivalCut", spec := "fnArrivalCut", unfollowed := true, recurses := true, apart := false, narrowed := true }
def FnArrivalCutUptoSaid : Prop := fnArrivalCutUptoRow.holds Try.pinned (OpenSpec.upto fnArrivalCutSpec)

/-- 'laws.FnArrivalNamed', WHERE WHAT IT READS IS OF BULK AT MOST 1048576: true; the input reads as it did. -/
def fnArrivalNamedUptoRow : OpenClaim := { program := "ytmkmipgboecdaaa", sum := "085f08635de9ff54f12713ffe3ecca1f300b08e325a3e48ab197bff5b8bf190c", func := "loop.example/shortestates/laws.FnArrivalNamed", spec := "fnArrivalNamed", unfollowed := true, recurses := true, apart := false, narrowed := true }
def FnArrivalNamedUptoSaid : Prop := fnArrivalNamedUptoRow.holds Try.pinned (OpenSpec.upto fnArrivalNamedSpec)

/-- 'laws.FnLeastEven', WHERE WHAT IT READS IS OF BULK AT MOST 1048576: true; the input reads as it did. -/
def fnLeastEvenUptoRow : OpenClaim := { program := "ytmkmipgboecdaaa", sum := "085f08635de9ff54f12713ffe3ecca1f300b08e325a3e48ab197bff5b8bf190c", func := "loop.example/shortestates/laws.FnLeastEven", spec := "fnLeastEven", unfollowed := true, recurses := true, apart := false, narrowed := true }
def FnLeastEvenUptoSaid : Prop := fnLeastEvenUptoRow.holds Try.pinned (OpenSpec.upto fnLeastEvenSpec)

/-- 'laws.FnHalfTwo', WHERE WHAT IT READS IS OF BULK AT MOST 1048576: true; the input reads as it did. -/
def fnHalfTwoUptoRow : OpenClaim := { program := "ytmkmipgboecdaaa", sum := "085f08635de9ff54f12713ffe3ecca1f300b08e325a3e48ab197bff5b8bf190c", func := "loop.example/shortestates/laws.FnHalfTwo", spec := "fnHalfTwo", unfollowed := true, recurses := true, apart := false, narrowed := true }
def FnHalfTwoUptoSaid : Prop := fnHalfTwoUptoRow.holds Try.pinned (OpenSpec.upto fnHalfTwoSpec)

/-- 'laws.FnExactOrderAwards', WHERE WHAT IT READS IS OF BULK AT MOST 1048576: true; the input reads as it did. -/
def fnExactOrderAwardsUptoRow : OpenClaim := { program := "ytmkmipgboecdaaa", sum := "085f08635de9ff54f12713ffe3ecca1f300b08e325a3e48ab197bff5b8bf190c", func := "loop.example/shortestates/laws.FnExactOrderAwards", spec := "fnExactOrderAwards", apart := false, narrowed := true }
def FnExactOrderAwardsUptoSaid : Prop := fnExactOrderAwardsUptoRow.holds Try.pinned (OpenSpec.upto fnExactOrderAwardsSpec)

/-- 'laws.FnExactArrivalAwards', WHERE WHAT IT READS IS OF BULK AT MOST 1048576: true; the input reads as it did. -/
def fnExactArrivalAwardsUptoRow : OpenClaim := { program := "ytmkmipgboecdaaa", sum := "085f08635de9ff54f12713ffe3ecca1f300b08e325a3e48ab197bff5b8bf190c", func := "loop.example/shortestates/laws.FnExactArrivalAwards", spec := "fnExactArrivalAwards", unfollowed := true, recurses := true, apart := false, narrowed := true }
def FnExactArrivalAwardsUptoSaid : Prop := fnExactArrivalAwardsUptoRow.holds Try.pinned (OpenSpec.upto fnExactArrivalAwardsSpec)

/-- 'laws.FnExactBringsOf', WHERE WHAT IT READS IS OF BULK AT MOST 1048576: true; the input reads as it did. -/
def fnExactBringsOfUptoRow : OpenClaim := { program := "ytmkmipgboecdaaa", sum := "085f08635de9ff54f12713ffe3ecca1f300b08e325a3e48ab197bff5b8bf190c", func := "loop.example/shortestates/laws.FnExactBringsOf", spec := "fnExactBringsOf", apart := false, narrowed := true }
def FnExactBringsOfUptoSaid : Prop := fnExactBringsOfUptoRow.holds Try.pinned (OpenSpec.upto fnExactBringsOfSpec)

/-- 'laws.FnExactGameShares', WHERE WHAT IT READS IS OF BULK AT MOST 1048576: true; the input reads as it did. -/
def fnExactGameSharesUptoRow : OpenClaim := { program := "ytmkmipgboecdaaa", sum := "085f08635de9ff54f12713ffe3ecca1f300b08e325a3e48ab197bff5b8bf190c", func := "loop.example/shortestates/laws.FnExactGameShares", spec := "fnExactGameShares", apart := false, narrowed := true }
def FnExactGameSharesUptoSaid : Prop := fnExactGameSharesUptoRow.holds Try.pinned (OpenSpec.upto fnExactGameSharesSpec)

end Rows
end Go.Proofs.Ytmkmipgboecdaaa
