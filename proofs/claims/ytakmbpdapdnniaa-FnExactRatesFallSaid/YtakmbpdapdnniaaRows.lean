/-
  No cell of these rows narrows 'for every input' (looked for: loops, veiled, ifaces, maps, wideKeys, modest, calm, conditions, laid).
  DERIVED. THE GIVEN ROWS OF THIS SEAT. 4 by the template 'for every input the law returns true; each argument reads behind the call as it read before'; 0 by the template 'total and deterministic' (their statements: YtakmbpdapdnniaaTotals.lean).
  GIVEN WITH THE SEED: the statements are not yours to turn. If you find one false, say at which input.
  Laid BY PROGRAM, IN A SANDBOX (cutbox-rows.mjs): the forced cells as the released guide's own fill.sh prints them over the translation 63d6c7fbfd413b33… (all of the seat's roots in one cut). By AI agents, Wed Nov 11 2026. No macro, syntax, notation, axiom, sorry.
-/
import Derived.Test.YtakmbpdapdnniaaChecked
import GoSem.Claim
import GoSem.ClaimJoined
import GoSem.ClaimMapViews
import Derived.JoinedTies
import Derived.KernelRfl
namespace Go.Proofs.Ytakmbpdapdnniaa
/- THE CELL 'sum', in the pinned program and in every row, IS THE sha256 OF THE DUMP (.gsa) THAT YtakmbpdapdnniaaProg.lean LOADS. Nothing in Lean hashes anything: it is a label: what it is worth is what the hold of that sum in a sandbox is worth. -/
noncomputable def Try.pinned : Pinned := { name := "ytakmbpdapdnniaa", sum := "63d6c7fbfd413b337e6d2b2e0e4693c25cbfc799ba04b0a50d27521033060c19", checked := Try.checked }
namespace Rows
def none {H : Type} : Left H := { results := [], args := [] }

/-- 'laws.FnRatesRise': WHATEVER THE INPUT: true; the input reads as it did. -/
def fnRatesRiseSpec : ChangeSpec := { name := "fnRatesRise", fn := fun _ => fun
  | [d] => { results := [.lit (.bool true)], args := [d] }
  | _ => none }
def fnRatesRiseRow : OpenClaim := { program := "ytakmbpdapdnniaa", sum := "63d6c7fbfd413b337e6d2b2e0e4693c25cbfc799ba04b0a50d27521033060c19", func := "loop.example/shortestates/laws.FnRatesRise", spec := "fnRatesRise", recurses := true, apart := false }
def FnRatesRiseSaid : Prop := fnRatesRiseRow.holds Try.pinned (OpenSpec.ofChange fnRatesRiseSpec)

/-- ITS FALSE NEIGHBOUR: 'it returns false'. Refute it at one input. -/
def fnRatesRiseWrong : ChangeSpec := { name := "fnRatesRise", fn := fun _ => fun
  | [d] => { results := [.lit (.bool false)], args := [d] }
  | _ => none }
def FnRatesRiseWrongFalsely : Prop := fnRatesRiseRow.holds Try.pinned (OpenSpec.ofChange fnRatesRiseWrong)

/-- 'laws.FnRatesFall': WHATEVER THE INPUT: true; the input reads as it did. -/
def fnRatesFallSpec : ChangeSpec := { name := "fnRatesFall", fn := fun _ => fun
  | [d] => { results := [.lit (.bool true)], args := [d] }
  | _ => none }
def fnRatesFallRow : OpenClaim := { program := "ytakmbpdapdnniaa", sum := "63d6c7fbfd413b337e6d2b2e0e4693c25cbfc799ba04b0a50d27521033060c19", func := "loop.example/shortestates/laws.FnRatesFall", spec := "fnRatesFall", recurses := true, apart := false }
def FnRatesFallSaid : Prop := fnRatesFallRow.holds Try.pinned (OpenSpec.ofChange fnRatesFallSpec)

/-- ITS FALSE NEIGHBOUR: 'it returns false'. Refute it at one input. -/
def fnRatesFallWrong : ChangeSpec := { name := "fnRatesFall", fn := fun _ => fun
  | [d] => { results := [.lit (.bool false)], args := [d] }
  | _ => none }
def FnRatesFallWrongFalsely : Prop := fnRatesFallRow.holds Try.pinned (OpenSpec.ofChange fnRatesFallWrong)

/-- 'laws.FnExactRatesRise': WHATEVER THE INPUT: true; the input reads as it did. -/
def fnExactRatesRiseSpec : ChangeSpec := { name := "fnExactRatesRise", fn := fun _ => fun
  | [d1, d2] => { results := [.lit (.bool true)], args := [d1, d2] }
  | _ => none }
def fnExactRatesRiseRow : OpenClaim := { program := "ytakmbpdapdnniaa", sum := "63d6c7fbfd413b337e6d2b2e0e4693c25cbfc799ba04b0a50d27521033060c19", func := "loop.example/shortestates/laws.FnExactRatesRise", spec := "fnExactRatesRise", apart := false }
def FnExactRatesRiseSaid : Prop := fnExactRatesRiseRow.holds Try.pinned (OpenSpec.ofChange fnExactRatesRiseSpec)

/-- ITS FALSE NEIGHBOUR: 'it returns false'. Refute it at one input. -/
def fnExactRatesRiseWrong : ChangeSpec := { name := "fnExactRatesRise", fn := fun _ => fun
  | [d1, d2] => { results := [.lit (.bool false)], args := [d1, d2] }
  | _ => none }
def FnExactRatesRiseWrongFalsely : Prop := fnExactRatesRiseRow.holds Try.pinned (OpenSpec.ofChange fnExactRatesRiseWrong)

/-- 'laws.FnExactRatesFall': WHATEVER THE INPUT: true; the input reads as it did. -/
def fnExactRatesFallSpec : ChangeSpec := { name := "fnExactRatesFall", fn := fun _ => fun
  | [d1, d2] => { results := [.lit (.bool true)], args := [d1, d2] }
  | _ => none }
def fnExactRatesFallRow : OpenClaim := { program := "ytakmbpdapdnniaa", sum := "63d6c7fbfd413b337e6d2b2e0e4693c25cbfc799ba04b0a50d27521033060c19", func := "loop.example/shortestates/laws.FnExactRatesFall", spec := "fnExactRatesFall", apart := false }
def FnExactRatesFallSaid : Prop := fnExactRatesFallRow.holds Try.pinned (OpenSpec.ofChange fnExactRatesFallSpec)

/-- ITS FALSE NEIGHBOUR: 'it returns false'. Refute it at one input. -/
def fnExactRatesFallWrong : ChangeSpec := { name := "fnExactRatesFall", fn := fun _ => fun
  | [d1, d2] => { results := [.lit (.bool false)], args := [d1, d2] }
  | _ => none }
def FnExactRatesFallWrongFalsely : Prop := fnExactRatesFallRow.holds Try.pinned (OpenSpec.ofChange fnExactRatesFallWrong)

/- THE SECOND FORM. 'bulk': how many values and letters a reading holds, each counted each time it is reached (what is shared counts as often as it is met; a slice's spare places count too). A statement '..UptoSaid' is the law's where the arguments, and the package variables that the reading takes, are together of bulk at most 1048576: NARROWER than '..Said'. Prove '..Said' where nothing that the law and all that it calls make is longer than what came in: it says more and counts as full. Else prove '..UptoSaid'. A law counts once. -/
mutual
def uptoBulk {H : Type} : DataW H → Nat
  | .lit (.string bytes) => bytes.length + 1
  | .lit _ => 1
  | .nil => 1
  | .ptr d => uptoBulk d + 1
  | .slice elems spare => uptoBulkAll elems + uptoBulkAll spare + 1
  | .agg parts => uptoBulkAll parts + 1
  | .iface _ d => uptoBulk d + 1
  | .map entries => uptoBulkEntries entries + 1
  | .held _ => 1
def uptoBulkAll {H : Type} : List (DataW H) → Nat
  | [] => 0
  | d :: r => uptoBulk d + uptoBulkAll r
def uptoBulkEntries {H : Type} : List (Lit × DataW H) → Nat
  | [] => 0
  | x :: r => uptoBulkEntry x + uptoBulkEntries r
def uptoBulkEntry {H : Type} : Lit × DataW H → Nat
  | (.string bytes, d) => bytes.length + uptoBulk d + 1
  | (_, d) => uptoBulk d + 1
 end
def uptoSmall : (H : Type) → List (DataW H) → Bool := fun _ ds => decide (uptoBulkAll ds ≤ 1048576)
def OpenSpec.upto (s : _root_.Go.ChangeSpec) : _root_.Go.OpenSpec := { _root_.Go.OpenSpec.ofChange s with cond := some uptoSmall }

/-- 'laws.FnRatesRise', WHERE WHAT IT READS IS OF BULK AT MOST 1048576: true; the input reads as it did. -/
def fnRatesRiseUptoRow : OpenClaim := { program := "ytakmbpdapdnniaa", sum := "63d6c7fbfd413b337e6d2b2e0e4693c25cbfc799ba04b0a50d27521033060c19", func := "loop.example/shortestates/laws.FnRatesRise", spec := "fnRatesRise", recurses := true, apart := false, narrowed := true }
def FnRatesRiseUptoSaid : Prop := fnRatesRiseUptoRow.holds Try.pinned (OpenSpec.upto fnRatesRiseSpec)

/-- 'laws.FnRatesFall', WHERE WHAT IT READS IS OF BULK AT MOST 1048576: true; the input reads as it did. -/
def fnRatesFallUptoRow : OpenClaim := { program := "ytakmbpdapdnniaa", sum := "63d6c7fbfd413b337e6d2b2e0e4693c25cbfc799ba04b0a50d27521033060c19", func := "loop.example/shortestates/laws.FnRatesFall", spec := "fnRatesFall", recurses := true, apart := false, narrowed := true }
def FnRatesFallUptoSaid : Prop := fnRatesFallUptoRow.holds Try.pinned (OpenSpec.upto fnRatesFallSpec)

/-- 'laws.FnExactRatesRise', WHERE WHAT IT READS IS OF BULK AT MOST 1048576: true; the input reads as it did. -/
def fnExactRatesRiseUptoRow : OpenClaim := { program := "ytakmbpdapdnniaa", sum := "63d6c7fbfd413b337e6d2b2e0e4693c25cbfc799ba04b0a50d27521033060c19", func := "loop.example/shortestates/laws.FnExactRatesRise", spec := "fnExactRatesRise", apart := false, narrowed := true }
def FnExactRatesRiseUptoSaid : Prop := fnExactRatesRiseUptoRow.holds Try.pinned (OpenSpec.upto fnExactRatesRiseSpec)

/-- 'laws.FnExactRatesFall', WHERE WHAT IT READS IS OF BULK AT MOST 1048576: true; the input reads as it did. -/
def fnExactRatesFallUptoRow : OpenClaim := { program := "ytakmbpdapdnniaa", sum := "63d6c7fbfd413b337e6d2b2e0e4693c25cbfc799ba04b0a50d27521033060c19", func := "loop.example/shortestates/laws.FnExactRatesFall", spec := "fnExactRatesFall", apart := false, narrowed := true }
def FnExactRatesFallUptoSaid : Prop := fnExactRatesFallUptoRow.holds Try.pinned (OpenSpec.upto fnExactRatesFallSpec)

end Rows
end Go.Proofs.Ytakmbpdapdnniaa
