/-
  No cell of these rows narrows 'for every input' (looked for: loops, veiled, ifaces, maps, wideKeys, modest, calm, conditions, laid).
  DERIVED. THE GIVEN ROWS OF THIS SEAT. 9 by the template 'for every input the law returns true; each argument reads behind the call as it read before'; 0 by the template 'total and deterministic' (their statements: YtdbohnaohinieaaTotals.lean).
  GIVEN WITH THE SEED: the statements are not yours to turn. If you find one false, say at which input.
  Laid BY PROGRAM, IN A SANDBOX (cutbox-rows.mjs): the forced cells as the released guide's own fill.sh prints them over the translation 1f23008660c6a669… (all of the seat's roots in one cut). By AI agents, Wed Nov 11 2026. No macro, syntax, notation, axiom, sorry.
-/
import Derived.Test.YtdbohnaohinieaaChecked
import GoSem.Claim
import GoSem.ClaimJoined
import GoSem.ClaimMapViews
import Derived.JoinedTies
import Derived.KernelRfl
namespace Go.Proofs.Ytdbohnaohinieaa
/- THE CELL 'sum', in the pinned program and in every row, IS THE sha256 OF THE DUMP (.gsa) THAT YtdbohnaohinieaaProg.lean LOADS. Nothing in Lean hashes anything: it is a label: what it is worth is what the hold of that sum in a sandbox is worth. -/
noncomputable def Try.pinned : Pinned := { name := "ytdbohnaohinieaa", sum := "1f23008660c6a669d6901615bc2978c8de806f5ee010ebcd9bb93b4fc3cabbad", checked := Try.checked }
namespace Rows
def none {H : Type} : Left H := { results := [], args := [] }

/-- 'laws.FnVisitsOk': WHATEVER THE INPUT: true; the input reads as it did. -/
def fnVisitsOkSpec : ChangeSpec := { name := "fnVisitsOk", fn := fun _ => fun
  | [d] => { results := [.lit (.bool true)], args := [d] }
  | _ => none }
def fnVisitsOkRow : OpenClaim := { program := "ytdbohnaohinieaa", sum := "1f23008660c6a669d6901615bc2978c8de806f5ee010ebcd9bb93b4fc3cabbad", func := "loop.example/shortestates/laws.FnVisitsOk", spec := "fnVisitsOk", apart := false }
def FnVisitsOkSaid : Prop := fnVisitsOkRow.holds Try.pinned (OpenSpec.ofChange fnVisitsOkSpec)

/-- ITS FALSE NEIGHBOUR: 'it returns false'. Refute it at one input. -/
def fnVisitsOkWrong : ChangeSpec := { name := "fnVisitsOk", fn := fun _ => fun
  | [d] => { results := [.lit (.bool false)], args := [d] }
  | _ => none }
def FnVisitsOkWrongFalsely : Prop := fnVisitsOkRow.holds Try.pinned (OpenSpec.ofChange fnVisitsOkWrong)

/-- 'laws.FnPassShares': WHATEVER THE INPUT: true; the input reads as it did. -/
def fnPassSharesSpec : ChangeSpec := { name := "fnPassShares", fn := fun _ => fun
  | [d] => { results := [.lit (.bool true)], args := [d] }
  | _ => none }
def fnPassSharesRow : OpenClaim := { program := "ytdbohnaohinieaa", sum := "1f23008660c6a669d6901615bc2978c8de806f5ee010ebcd9bb93b4fc3cabbad", func := "loop.example/shortestates/laws.FnPassShares", spec := "fnPassShares", unfollowed := true, recurses := true, apart := false }
def FnPassSharesSaid : Prop := fnPassSharesRow.holds Try.pinned (OpenSpec.ofChange fnPassSharesSpec)

/-- ITS FALSE NEIGHBOUR: 'it returns false'. Refute it at one input. -/
def fnPassSharesWrong : ChangeSpec := { name := "fnPassShares", fn := fun _ => fun
  | [d] => { results := [.lit (.bool false)], args := [d] }
  | _ => none }
def FnPassSharesWrongFalsely : Prop := fnPassSharesRow.holds Try.pinned (OpenSpec.ofChange fnPassSharesWrong)

/-- 'laws.FnPassWorth': WHATEVER THE INPUT: true; the input reads as it did. -/
def fnPassWorthSpec : ChangeSpec := { name := "fnPassWorth", fn := fun _ => fun
  | [d1, d2] => { results := [.lit (.bool true)], args := [d1, d2] }
  | _ => none }
def fnPassWorthRow : OpenClaim := { program := "ytdbohnaohinieaa", sum := "1f23008660c6a669d6901615bc2978c8de806f5ee010ebcd9bb93b4fc3cabbad", func := "loop.example/shortestates/laws.FnPassWorth", spec := "fnPassWorth", apart := false }
def FnPassWorthSaid : Prop := fnPassWorthRow.holds Try.pinned (OpenSpec.ofChange fnPassWorthSpec)

/-- ITS FALSE NEIGHBOUR: 'it returns false'. Refute it at one input. -/
def fnPassWorthWrong : ChangeSpec := { name := "fnPassWorth", fn := fun _ => fun
  | [d1, d2] => { results := [.lit (.bool false)], args := [d1, d2] }
  | _ => none }
def FnPassWorthWrongFalsely : Prop := fnPassWorthRow.holds Try.pinned (OpenSpec.ofChange fnPassWorthWrong)

/-- 'laws.FnPassOrders': WHATEVER THE INPUT: true; the input reads as it did. -/
def fnPassOrdersSpec : ChangeSpec := { name := "fnPassOrders", fn := fun _ => fun
  | [d] => { results := [.lit (.bool true)], args := [d] }
  | _ => none }
def fnPassOrdersRow : OpenClaim := { program := "ytdbohnaohinieaa", sum := "1f23008660c6a669d6901615bc2978c8de806f5ee010ebcd9bb93b4fc3cabbad", func := "loop.example/shortestates/laws.FnPassOrders", spec := "fnPassOrders", unfollowed := true, recurses := true, apart := false }
def FnPassOrdersSaid : Prop := fnPassOrdersRow.holds Try.pinned (OpenSpec.ofChange fnPassOrdersSpec)

/-- ITS FALSE NEIGHBOUR: 'it returns false'. Refute it at one input. -/
def fnPassOrdersWrong : ChangeSpec := { name := "fnPassOrders", fn := fun _ => fun
  | [d] => { results := [.lit (.bool false)], args := [d] }
  | _ => none }
def FnPassOrdersWrongFalsely : Prop := fnPassOrdersRow.holds Try.pinned (OpenSpec.ofChange fnPassOrdersWrong)

/-- 'laws.FnPassPrice': WHATEVER THE INPUT: true; the input reads as it did. -/
def fnPassPriceSpec : ChangeSpec := { name := "fnPassPrice", fn := fun _ => fun
  | [d] => { results := [.lit (.bool true)], args := [d] }
  | _ => none }
def fnPassPriceRow : OpenClaim := { program := "ytdbohnaohinieaa", sum := "1f23008660c6a669d6901615bc2978c8de806f5ee010ebcd9bb93b4fc3cabbad", func := "loop.example/shortestates/laws.FnPassPrice", spec := "fnPassPrice", apart := false }
def FnPassPriceSaid : Prop := fnPassPriceRow.holds Try.pinned (OpenSpec.ofChange fnPassPriceSpec)

/-- ITS FALSE NEIGHBOUR: 'it returns false'. Refute it at one input. -/
def fnPassPriceWrong : ChangeSpec := { name := "fnPassPrice", fn := fun _ => fun
  | [d] => { results := [.lit (.bool false)], args := [d] }
  | _ => none }
def FnPassPriceWrongFalsely : Prop := fnPassPriceRow.holds Try.pinned (OpenSpec.ofChange fnPassPriceWrong)

/-- 'laws.FnExactVisitsOk': WHATEVER THE INPUT: true; the input reads as it did. -/
def fnExactVisitsOkSpec : ChangeSpec := { name := "fnExactVisitsOk", fn := fun _ => fun
  | [d1, d2] => { results := [.lit (.bool true)], args := [d1, d2] }
  | _ => none }
def fnExactVisitsOkRow : OpenClaim := { program := "ytdbohnaohinieaa", sum := "1f23008660c6a669d6901615bc2978c8de806f5ee010ebcd9bb93b4fc3cabbad", func := "loop.example/shortestates/laws.FnExactVisitsOk", spec := "fnExactVisitsOk", apart := false }
def FnExactVisitsOkSaid : Prop := fnExactVisitsOkRow.holds Try.pinned (OpenSpec.ofChange fnExactVisitsOkSpec)

/-- ITS FALSE NEIGHBOUR: 'it returns false'. Refute it at one input. -/
def fnExactVisitsOkWrong : ChangeSpec := { name := "fnExactVisitsOk", fn := fun _ => fun
  | [d1, d2] => { results := [.lit (.bool false)], args := [d1, d2] }
  | _ => none }
def FnExactVisitsOkWrongFalsely : Prop := fnExactVisitsOkRow.holds Try.pinned (OpenSpec.ofChange fnExactVisitsOkWrong)

/-- 'laws.FnExactPassShares': WHATEVER THE INPUT: true; the input reads as it did. -/
def fnExactPassSharesSpec : ChangeSpec := { name := "fnExactPassShares", fn := fun _ => fun
  | [d1, d2, d3] => { results := [.lit (.bool true)], args := [d1, d2, d3] }
  | _ => none }
def fnExactPassSharesRow : OpenClaim := { program := "ytdbohnaohinieaa", sum := "1f23008660c6a669d6901615bc2978c8de806f5ee010ebcd9bb93b4fc3cabbad", func := "loop.example/shortestates/laws.FnExactPassShares", spec := "fnExactPassShares", apart := false }
def FnExactPassSharesSaid : Prop := fnExactPassSharesRow.holds Try.pinned (OpenSpec.ofChange fnExactPassSharesSpec)

/-- ITS FALSE NEIGHBOUR: 'it returns false'. Refute it at one input. -/
def fnExactPassSharesWrong : ChangeSpec := { name := "fnExactPassShares", fn := fun _ => fun
  | [d1, d2, d3] => { results := [.lit (.bool false)], args := [d1, d2, d3] }
  | _ => none }
def FnExactPassSharesWrongFalsely : Prop := fnExactPassSharesRow.holds Try.pinned (OpenSpec.ofChange fnExactPassSharesWrong)

/-- 'laws.FnExactPassWorth': WHATEVER THE INPUT: true; the input reads as it did. -/
def fnExactPassWorthSpec : ChangeSpec := { name := "fnExactPassWorth", fn := fun _ => fun
  | [d1, d2, d3] => { results := [.lit (.bool true)], args := [d1, d2, d3] }
  | _ => none }
def fnExactPassWorthRow : OpenClaim := { program := "ytdbohnaohinieaa", sum := "1f23008660c6a669d6901615bc2978c8de806f5ee010ebcd9bb93b4fc3cabbad", func := "loop.example/shortestates/laws.FnExactPassWorth", spec := "fnExactPassWorth", apart := false }
def FnExactPassWorthSaid : Prop := fnExactPassWorthRow.holds Try.pinned (OpenSpec.ofChange fnExactPassWorthSpec)

/-- ITS FALSE NEIGHBOUR: 'it returns false'. Refute it at one input. -/
def fnExactPassWorthWrong : ChangeSpec := { name := "fnExactPassWorth", fn := fun _ => fun
  | [d1, d2, d3] => { results := [.lit (.bool false)], args := [d1, d2, d3] }
  | _ => none }
def FnExactPassWorthWrongFalsely : Prop := fnExactPassWorthRow.holds Try.pinned (OpenSpec.ofChange fnExactPassWorthWrong)

/-- 'laws.FnExactPassOrders': WHATEVER THE INPUT: true; the input reads as it did. -/
def fnExactPassOrdersSpec : ChangeSpec := { name := "fnExactPassOrders", fn := fun _ => fun
  | [d1, d2, d3] => { results := [.lit (.bool true)], args := [d1, d2, d3] }
  | _ => none }
def fnExactPassOrdersRow : OpenClaim := { program := "ytdbohnaohinieaa", sum := "1f23008660c6a669d6901615bc2978c8de806f5ee010ebcd9bb93b4fc3cabbad", func := "loop.example/shortestates/laws.FnExactPassOrders", spec := "fnExactPassOrders", unfollowed := true, recurses := true, apart := false }
def FnExactPassOrdersSaid : Prop := fnExactPassOrdersRow.holds Try.pinned (OpenSpec.ofChange fnExactPassOrdersSpec)

/-- ITS FALSE NEIGHBOUR: 'it returns false'. Refute it at one input. -/
def fnExactPassOrdersWrong : ChangeSpec := { name := "fnExactPassOrders", fn := fun _ => fun
  | [d1, d2, d3] => { results := [.lit (.bool false)], args := [d1, d2, d3] }
  | _ => none }
def FnExactPassOrdersWrongFalsely : Prop := fnExactPassOrdersRow.holds Try.pinned (OpenSpec.ofChange fnExactPassOrdersWrong)

/- THE SECOND FORM. 'bulk': how many values and letters a reading holds, each counted each time it is reached (what is shared counts as often as it is met; a slice's spare places count too). A statement '..UptoSaid' is the law's where the arguments, and the package variables that the reading takes, are together of bulk at most 1048576: NARROWER than '..Said'. Prove '..Said' where nothing that the law and all that it calls make is longer than what came in: it says more and counts as full. Else prove '..UptoSaid'. A law counts once. -/
mutual
def uptoBulk {H : Type} : DataW H → Nat
  | .lit (.string bytes) => bytes.length + 1
  | .lit _ => 1
  | .nil => 1
  | .ptr d => uptoBulk d + 1
  | .slice elems spare => uptoBulkAll elems + uptoBulkAll spare + 1
  | .agg parts => uptoBulkAll parts + 1
  | .iface _ d => uptoBulk d + 1
  | .map entries => uptoBulkEntries entries + 1
  | .held _ => 1
def uptoBulkAll {H : Type} : List (DataW H) → Nat
  | [] => 0
  | d :: r => uptoBulk d + uptoBulkAll r
def uptoBulkEntries {H : Type} : List (Lit × DataW H) → Nat
  | [] => 0
  | x :: r => uptoBulkEntry x + uptoBulkEntries r
def uptoBulkEntry {H : Type} : Lit × DataW H → Nat
  | (.string bytes, d) => bytes.length + uptoBulk d + 1
  | (_, d) => uptoBulk d + 1
 end
def uptoSmall : (H : Type) → List (DataW H) → Bool := fun _ ds => decide (uptoBulkAll ds ≤ 1048576)
def OpenSpec.upto (s : _root_.Go.ChangeSpec) : _root_.Go.OpenSpec := { _root_.Go.OpenSpec.ofChange s with cond := some uptoSmall }

/-- 'laws.FnVisitsOk', WHERE WHAT IT READS IS OF BULK AT MOST 1048576: true; the input reads as it did. -/
def fnVisitsOkUptoRow : OpenClaim := { program := "ytdbohnaohinieaa", sum := "1f23008660c6a669d6901615bc2978c8de806f5ee010ebcd9bb93b4fc3cabbad", func := "loop.example/shortestates/laws.FnVisitsOk", spec := "fnVisitsOk", apart := false, narrowed := true }
def FnVisitsOkUptoSaid : Prop := fnVisitsOkUptoRow.holds Try.pinned (OpenSpec.upto fnVisitsOkSpec)

/-- 'laws.FnPassShares', WHERE WHAT IT READS IS OF BULK AT MOST 1048576: true; the input reads as it did. -/
def fnPassSharesUptoRow : OpenClaim := { program := "ytdbohnaohinieaa", sum := "1f23008660c6a669d6901615bc2978c8de806f5ee010ebcd9bb93b4fc3cabbad", func := "loop.example/shortestates/laws.FnPassShares", spec := "fnPassShares", unfollowed := true, recurses := true, apart := false, narrowed := true }
def FnPassSharesUptoSaid : Prop := fnPassSharesUptoRow.holds Try.pinned (OpenSpec.upto fnPassSharesSpec)

/-- 'laws.FnPassWorth', WHERE WHAT IT READS IS OF BULK AT MOST 1048576: true; the input reads as it did. -/
def fnPassWorthUptoRow : OpenClaim := { program := "ytdbohnaohinieaa", sum := "1f23008660c6a669d6901615bc2978c8de806f5ee010ebcd9bb93b4fc3cabbad", func := "loop.example/shortestates/laws.FnPassWorth", spec := "fnPassWorth", apart := false, narrowed := true }
def FnPassWorthUptoSaid : Prop := fnPassWorthUptoRow.holds Try.pinned (OpenSpec.upto fnPassWorthSpec)

/-- 'laws.FnPassOrders', WHERE WHAT IT READS IS OF BULK AT MOST 1048576: true; the input reads as it did. -/
def fnPassOrdersUptoRow : OpenClaim := { program := "ytdbohnaohinieaa", sum := "1f23008660c6a669d6901615bc2978c8de806f5ee010ebcd9bb93b4fc3cabbad", func := "loop.example/shortestates/laws.FnPassOrders", spec := "fnPassOrders", unfollowed := true, recurses := true, apart := false, narrowed := true }
def FnPassOrdersUptoSaid : Prop := fnPassOrdersUptoRow.holds Try.pinned (OpenSpec.upto fnPassOrdersSpec)

/-- 'laws.FnPassPrice', WHERE WHAT IT READS IS OF BULK AT MOST 1048576: true; the input reads as it did. -/
def fnPassPriceUptoRow : OpenClaim := { program := "ytdbohnaohinieaa", sum := "1f23008660c6a669d6901615bc2978c8de806f5ee010ebcd9bb93b4fc3cabbad", func := "loop.example/shortestates/laws.FnPassPrice", spec := "fnPassPrice", apart := false, narrowed := true }
def FnPassPriceUptoSaid : Prop := fnPassPriceUptoRow.holds Try.pinned (OpenSpec.upto fnPassPriceSpec)

/-- 'laws.FnExactVisitsOk', WHERE WHAT IT READS IS OF BULK AT MOST 1048576: true; the input reads as it did. -/
def fnExactVisitsOkUptoRow : OpenClaim := { program := "ytdbohnaohinieaa", sum := "1f23008660c6a669d6901615bc2978c8de806f5ee010ebcd9bb93b4fc3cabbad", func := "loop.example/shortestates/laws.FnExactVisitsOk", spec := "fnExactVisitsOk", apart := false, narrowed := true }
def FnExactVisitsOkUptoSaid : Prop := fnExactVisitsOkUptoRow.holds Try.pinned (OpenSpec.upto fnExactVisitsOkSpec)

/-- 'laws.FnExactPassShares', WHERE WHAT IT READS IS OF BULK AT MOST 1048576: true; the input reads as it did. -/
def fnExactPassSharesUptoRow : OpenClaim := { program := "ytdbohnaohinieaa", sum := "1f23008660c6a669d6901615bc2978c8de806f5ee010ebcd9bb93b4fc3cabbad", func := "loop.example/shortestates/laws.FnExactPassShares", spec := "fnExactPassShares", apart := false, narrowed := true }
def FnExactPassSharesUptoSaid : Prop := fnExactPassSharesUptoRow.holds Try.pinned (OpenSpec.upto fnExactPassSharesSpec)

/-- 'laws.FnExactPassWorth', WHERE WHAT IT READS IS OF BULK AT MOST 1048576: true; the input reads as it did. -/
def fnExactPassWorthUptoRow : OpenClaim := { program := "ytdbohnaohinieaa", sum := "1f23008660c6a669d6901615bc2978c8de806f5ee010ebcd9bb93b4fc3cabbad", func := "loop.example/shortestates/laws.FnExactPassWorth", spec := "fnExactPassWorth", apart := false, narrowed := true }
def FnExactPassWorthUptoSaid : Prop := fnExactPassWorthUptoRow.holds Try.pinned (OpenSpec.upto fnExactPassWorthSpec)

/-- 'laws.FnExactPassOrders', WHERE WHAT IT READS IS OF BULK AT MOST 1048576: true; the input reads as it did. -/
def fnExactPassOrdersUptoRow : OpenClaim := { program := "ytdbohnaohinieaa", sum := "1f23008660c6a669d6901615bc2978c8de806f5ee010ebcd9bb93b4fc3cabbad", func := "loop.example/shortestates/laws.FnExactPassOrders", spec := "fnExactPassOrders", unfollowed := true, recurses := true, apart := false, narrowed := true }
def FnExactPassOrdersUptoSaid : Prop := fnExactPassOrdersUptoRow.holds Try.pinned (OpenSpec.upto fnExactPassOrdersSpec)

end Rows
end Go.Proofs.Ytdbohnaohinieaa
