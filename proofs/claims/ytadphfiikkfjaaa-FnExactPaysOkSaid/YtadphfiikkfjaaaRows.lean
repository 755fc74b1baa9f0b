/-
  No cell of these rows narrows 'for every input' (looked for: loops, veiled, ifaces, maps, wideKeys, modest, calm, conditions, laid).
  DERIVED. THE GIVEN ROWS OF THIS SEAT. 11 by the template 'for every input the law returns true; each argument reads behind the call as it read before'; 0 by the template 'total and deterministic' (their statements: YtadphfiikkfjaaaTotals.lean).
  GIVEN WITH THE SEED: the statements are not yours to turn. If you find one false, say at which input.
  Laid BY PROGRAM, IN A SANDBOX (cutbox-rows.mjs): the forced cells as the released guide's own fill.sh prints them over the translation 8fa14c42ba1263a3… (all of the seat's roots in one cut). By AI agents, Wed Nov 11 2026. No macro, syntax, notation, axiom, sorry.
-/
import Derived.Test.YtadphfiikkfjaaaChecked
import GoSem.Claim
import GoSem.ClaimJoined
import GoSem.ClaimMapViews
import Derived.JoinedTies
import Derived.KernelRfl
namespace Go.Proofs.Ytadphfiikkfjaaa
/- THE CELL 'sum', in the pinned program and in every row, IS THE sha256 OF THE DUMP (.gsa) THAT YtadphfiikkfjaaaProg.lean LOADS. Nothing in Lean hashes anything: it is a label: what it is worth is what the hold of that sum in a sandbox is worth. -/
noncomputable def Try.pinned : Pinned := { name := "ytadphfiikkfjaaa", sum := "8fa14c42ba1263a3ca97fb1d6ce3c40a2c91415df842cffb863cd2ee4923e897", checked := Try.checked }
namespace Rows
def none {H : Type} : Left H := { results := [], args := [] }

/-- 'laws.FnNeedsOk': WHATEVER THE INPUT: true; the input reads as it did. -/
def fnNeedsOkSpec : ChangeSpec := { name := "fnNeedsOk", fn := fun _ => fun
  | [d] => { results := [.lit (.bool true)], args := [d] }
  | _ => none }
def fnNeedsOkRow : OpenClaim := { program := "ytadphfiikkfjaaa", sum := "8fa14c42ba1263a3ca97fb1d6ce3c40a2c91415df842cffb863cd2ee4923e897", func := "loop.example/shortestates/laws.FnNeedsOk", spec := "fnNeedsOk", apart := false }
def FnNeedsOkSaid : Prop := fnNeedsOkRow.holds Try.pinned (OpenSpec.ofChange fnNeedsOkSpec)

/-- ITS FALSE NEIGHBOUR: 'it returns false'. Refute it at one input. -/
def fnNeedsOkWrong : ChangeSpec := { name := "fnNeedsOk", fn := fun _ => fun
  | [d] => { results := [.lit (.bool false)], args := [d] }
  | _ => none }
def FnNeedsOkWrongFalsely : Prop := fnNeedsOkRow.holds Try.pinned (OpenSpec.ofChange fnNeedsOkWrong)

/-- 'laws.FnRunwayCost': WHATEVER THE INPUT: true; the input reads as it did. -/
def fnRunwayCostSpec : ChangeSpec := { name := "fnRunwayCost", fn := fun _ => fun
  | [d1, d2] => { results := [.lit (.bool true)], args := [d1, d2] }
  | _ => none }
def fnRunwayCostRow : OpenClaim := { program := "ytadphfiikkfjaaa", sum := "8fa14c42ba1263a3ca97fb1d6ce3c40a2c91415df842cffb863cd2ee4923e897", func := "loop.example/shortestates/laws.FnRunwayCost", spec := "fnRunwayCost", apart := false }
def FnRunwayCostSaid : Prop := fnRunwayCostRow.holds Try.pinned (OpenSpec.ofChange fnRunwayCostSpec)

/-- ITS FALSE NEIGHBOUR: 'it returns false'. Refute it at one input. -/
def fnRunwayCostWrong : ChangeSpec := { name := "fnRunwayCost", fn := fun _ => fun
  | [d1, d2] => { results := [.lit (.bool false)], args := [d1, d2] }
  | _ => none }
def FnRunwayCostWrongFalsely : Prop := fnRunwayCostRow.holds Try.pinned (OpenSpec.ofChange fnRunwayCostWrong)

/-- 'laws.FnRunwayShares': WHATEVER THE INPUT: true; the input reads as it did. -/
def fnRunwaySharesSpec : ChangeSpec := { name := "fnRunwayShares", fn := fun _ => fun
  | [d] => { results := [.lit (.bool true)], args := [d] }
  | _ => none }
def fnRunwaySharesRow : OpenClaim := { program := "ytadphfiikkfjaaa", sum := "8fa14c42ba1263a3ca97fb1d6ce3c40a2c91415df842cffb863cd2ee4923e897", func := "loop.example/shortestates/laws.FnRunwayShares", spec := "fnRunwayShares", unfollowed := true, recurses := true, apart := false }
def FnRunwaySharesSaid : Prop := fnRunwaySharesRow.holds Try.pinned (OpenSpec.ofChange fnRunwaySharesSpec)

/-- ITS FALSE NEIGHBOUR: 'it returns false'. Refute it at one input. -/
def fnRunwaySharesWrong : ChangeSpec := { name := "fnRunwayShares", fn := fun _ => fun
  | [d] => { results := [.lit (.bool false)], args := [d] }
  | _ => none }
def FnRunwaySharesWrongFalsely : Prop := fnRunwaySharesRow.holds Try.pinned (OpenSpec.ofChange fnRunwaySharesWrong)

/-- 'laws.FnRunwayOrders': WHATEVER THE INPUT: true; the input reads as it did. -/
def fnRunwayOrdersSpec : ChangeSpec := { name := "fnRunwayOrders", fn := fun _ => fun
  | [d] => { results := [.lit (.bool true)], args := [d] }
  | _ => none }
def fnRunwayOrdersRow : OpenClaim := { program := "ytadphfiikkfjaaa", sum := "8fa14c42ba1263a3ca97fb1d6ce3c40a2c91415df842cffb863cd2ee4923e897", func := "loop.example/shortestates/laws.FnRunwayOrders", spec := "fnRunwayOrders", unfollowed := true, recurses := true, apart := false }
def FnRunwayOrdersSaid : Prop := fnRunwayOrdersRow.holds Try.pinned (OpenSpec.ofChange fnRunwayOrdersSpec)

/-- ITS FALSE NEIGHBOUR: 'it returns false'. Refute it at one input. -/
def fnRunwayOrdersWrong : ChangeSpec := { name := "fnRunwayOrders", fn := fun _ => fun
  | [d] => { results := [.lit (.bool false)], args := [d] }
  | _ => none }
def FnRunwayOrdersWrongFalsely : Prop := fnRunwayOrdersRow.holds Try.pinned (OpenSpec.ofChange fnRunwayOrdersWrong)

/-- 'laws.FnPaysOk': WHATEVER THE INPUT: true; the input reads as it did. -/
def fnPaysOkSpec : ChangeSpec := { name := "fnPaysOk", fn := fun _ => fun
  | [d] => { results := [.lit (.bool true)], args := [d] }
  | _ => none }
def fnPaysOkRow : OpenClaim := { program := "ytadphfiikkfjaaa", sum := "8fa14c42ba1263a3ca97fb1d6ce3c40a2c91415df842cffb863cd2ee4923e897", func := "loop.example/shortestates/laws.FnPaysOk", spec := "fnPaysOk", apart := false }
def FnPaysOkSaid : Prop := fnPaysOkRow.holds Try.pinned (OpenSpec.ofChange fnPaysOkSpec)

/-- ITS FALSE NEIGHBOUR: 'it returns false'. Refute it at one input. -/
def fnPaysOkWrong : ChangeSpec := { name := "fnPaysOk", fn := fun _ => fun
  | [d] => { results := [.lit (.bool false)], args := [d] }
  | _ => none }
def FnPaysOkWrongFalsely : Prop := fnPaysOkRow.holds Try.pinned (OpenSpec.ofChange fnPaysOkWrong)

/-- 'laws.FnRunwayLonger': WHATEVER THE INPUT: true; the input reads as it did. -/
def fnRunwayLongerSpec : ChangeSpec := { name := "fnRunwayLonger", fn := fun _ => fun
  | [d] => { results := [.lit (.bool true)], args := [d] }
  | _ => none }
def fnRunwayLongerRow : OpenClaim := { program := "ytadphfiikkfjaaa", sum := "8fa14c42ba1263a3ca97fb1d6ce3c40a2c91415df842cffb863cd2ee4923e897", func := "loop.example/shortestates/laws.FnRunwayLonger", spec := "fnRunwayLonger", recurses := true, apart := false }
def FnRunwayLongerSaid : Prop := fnRunwayLongerRow.holds Try.pinned (OpenSpec.ofChange fnRunwayLongerSpec)

/-- ITS FALSE NEIGHBOUR: 'it returns false'. Refute it at one input. -/
def fnRunwayLongerWrong : ChangeSpec := { name := "fnRunwayLonger", fn := fun _ => fun
  | [d] => { results := [.lit (.bool false)], args := [d] }
  | _ => none }
def FnRunwayLongerWrongFalsely : Prop := fnRunwayLongerRow.holds Try.pinned (OpenSpec.ofChange fnRunwayLongerWrong)

/-- 'laws.FnExactNeedsOk': WHATEVER THE INPUT: true; the input reads as it did. -/
def fnExactNeedsOkSpec : ChangeSpec := { name := "fnExactNeedsOk", fn := fun _ => fun
  | [d] => { results := [.lit (.bool true)], args := [d] }
  | _ => none }
def fnExactNeedsOkRow : OpenClaim := { program := "ytadphfiikkfjaaa", sum := "8fa14c42ba1263a3ca97fb1d6ce3c40a2c91415df842cffb863cd2ee4923e897", func := "loop.example/shortestates/laws.FnExactNeedsOk", spec := "fnExactNeedsOk", apart := false }
def FnExactNeedsOkSaid : Prop := fnExactNeedsOkRow.holds Try.pinned (OpenSpec.ofChange fnExactNeedsOkSpec)

/-- ITS FALSE NEIGHBOUR: 'it returns false'. Refute it at one input. -/
def fnExactNeedsOkWrong : ChangeSpec := { name := "fnExactNeedsOk", fn := fun _ => fun
  | [d] => { results := [.lit (.bool false)], args := [d] }
  | _ => none }
def FnExactNeedsOkWrongFalsely : Prop := fnExactNeedsOkRow.holds Try.pinned (OpenSpec.ofChange fnExactNeedsOkWrong)

/-- 'laws.FnExactRunwayCost': WHATEVER THE INPUT: true; the input reads as it did. -/
def fnExactRunwayCostSpec : ChangeSpec := { name := "fnExactRunwayCost", fn := fun _ => fun
  | [d1, d2] => { results := [.lit (.bool true)], args := [d1, d2] }
  | _ => none }
def fnExactRunwayCostRow : OpenClaim := { program := "ytadphfiikkfjaaa", sum := "8fa14c42ba1263a3ca97fb1d6ce3c40a2c91415df842cffb863cd2ee4923e897", func := "loop.example/shortestates/laws.FnExactRunwayCost", spec := "fnExactRunwayCost", apart := false }
def FnExactRunwayCostSaid : Prop := fnExactRunwayCostRow.holds Try.pinned (OpenSpec.ofChange fnExactRunwayCostSpec)

/-- ITS FALSE NEIGHBOUR: 'it returns false'. Refute it at one input. -/
def fnExactRunwayCostWrong : ChangeSpec := { name := "fnExactRunwayCost", fn := fun _ => fun
  | [d1, d2] => { results := [.lit (.bool false)], args := [d1, d2] }
  | _ => none }
def FnExactRunwayCostWrongFalsely : Prop := fnExactRunwayCostRow.holds Try.pinned (OpenSpec.ofChange fnExactRunwayCostWrong)

/-- 'laws.FnExactRunwayShares': WHATEVER THE INPUT: true; the input reads as it did. -/
def fnExactRunwaySharesSpec : ChangeSpec := { name := "fnExactRunwayShares", fn := fun _ => fun
  | [d] => { results := [.lit (.bool true)], args := [d] }
  | _ => none }
def fnExactRunwaySharesRow : OpenClaim := { program := "ytadphfiikkfjaaa", sum := "8fa14c42ba1263a3ca97fb1d6ce3c40a2c91415df842cffb863cd2ee4923e897", func := "loop.example/shortestates/laws.FnExactRunwayShares", spec := "fnExactRunwayShares", recurses := true, apart := false }
def FnExactRunwaySharesSaid : Prop := fnExactRunwaySharesRow.holds Try.pinned (OpenSpec.ofChange fnExactRunwaySharesSpec)

/-- ITS FALSE NEIGHBOUR: 'it returns false'. Refute it at one input. -/
def fnExactRunwaySharesWrong : ChangeSpec := { name := "fnExactRunwayShares", fn := fun _ => fun
  | [d] => { results := [.lit (.bool false)], args := [d] }
  | _ => none }
def FnExactRunwaySharesWrongFalsely : Prop := fnExactRunwaySharesRow.holds Try.pinned (OpenSpec.ofChange fnExactRunwaySharesWrong)

/-- 'laws.FnExactRunwayOrders': WHATEVER THE INPUT: true; the input reads as it did. -/
def fnExactRunwayOrdersSpec : ChangeSpec := { name := "fnExactRunwayOrders", fn := fun _ => fun
  | [d] => { results := [.lit (.bool true)], args := [d] }
  | _ => none }
def fnExactRunwayOrdersRow : OpenClaim := { program := "ytadphfiikkfjaaa", sum := "8fa14c42ba1263a3ca97fb1d6ce3c40a2c91415df842cffb863cd2ee4923e897", func := "loop.example/shortestates/laws.FnExactRunwayOrders", spec := "fnExactRunwayOrders", unfollowed := true, recurses := true, apart := false }
def FnExactRunwayOrdersSaid : Prop := fnExactRunwayOrdersRow.holds Try.pinned (OpenSpec.ofChange fnExactRunwayOrdersSpec)

/-- ITS FALSE NEIGHBOUR: 'it returns false'. Refute it at one input. -/
def fnExactRunwayOrdersWrong : ChangeSpec := { name := "fnExactRunwayOrders", fn := fun _ => fun
  | [d] => { results := [.lit (.bool false)], args := [d] }
  | _ => none }
def FnExactRunwayOrdersWrongFalsely : Prop := fnExactRunwayOrdersRow.holds Try.pinned (OpenSpec.ofChange fnExactRunwayOrdersWrong)

/-- 'laws.FnExactPaysOk': WHATEVER THE INPUT: true; the input reads as it did. -/
def fnExactPaysOkSpec : ChangeSpec := { name := "fnExactPaysOk", fn := fun _ => fun
  | [d1, d2] => { results := [.lit (.bool true)], args := [d1, d2] }
  | _ => none }
def fnExactPaysOkRow : OpenClaim := { program := "ytadphfiikkfjaaa", sum := "8fa14c42ba1263a3ca97fb1d6ce3c40a2c91415df842cffb863cd2ee4923e897", func := "loop.example/shortestates/laws.FnExactPaysOk", spec := "fnExactPaysOk", apart := false }
def FnExactPaysOkSaid : Prop := fnExactPaysOkRow.holds Try.pinned (OpenSpec.ofChange fnExactPaysOkSpec)

/-- ITS FALSE NEIGHBOUR: 'it returns false'. Refute it at one input. -/
def fnExactPaysOkWrong : ChangeSpec := { name := "fnExactPaysOk", fn := fun _ => fun
  | [d1, d2] => { results := [.lit (.bool false)], args := [d1, d2] }
  | _ => none }
def FnExactPaysOkWrongFalsely : Prop := fnExactPaysOkRow.holds Try.pinned (OpenSpec.ofChange fnExactPaysOkWrong)

/- THE SECOND FORM. 'bulk': how many values and letters a reading holds, each counted each time it is reached (what is shared counts as often as it is met; a slice's spare places count too). A statement '..UptoSaid' is the law's where the arguments, and the package variables that the reading takes, are together of bulk at most 1048576: NARROWER than '..Said'. Prove '..Said' where nothing that the law and all that it calls make is longer than what came in: it says more and counts as full. Else prove '..UptoSaid'. A law counts once. -/
mutual
def uptoBulk {H : Type} : DataW H → Nat
  | .lit (.string bytes) => bytes.length + 1
  | .lit _ => 1
  | .nil => 1
  | .ptr d => uptoBulk d + 1
  | .slice elems spare => uptoBulkAll elems + uptoBulkAll spare + 1
  | .agg parts => uptoBulkAll parts + 1
  | .iface _ d => uptoBulk d + 1
  | .map entries => uptoBulkEntries entries + 1
  | .held _ => 1
def uptoBulkAll {H : Type} : List (DataW H) → Nat
  | [] => 0
  | d :: r => uptoBulk d + uptoBulkAll r
def uptoBulkEntries {H : Type} : List (Lit × DataW H) → Nat
  | [] => 0
  | x :: r => uptoBulkEntry x + uptoBulkEntries r
def uptoBulkEntry {H : Type} : Lit × DataW H → Nat
  | (.string bytes, d) => bytes.length + uptoBulk d + 1
  | (_, d) => uptoBulk d + 1
 end
def uptoSmall : (H : Type) → List (DataW H) → Bool := fun _ ds => decide (uptoBulkAll ds ≤ 1048576)
def OpenSpec.upto (s : _root_.Go.ChangeSpec) : _root_.Go.OpenSpec := { _root_.Go.OpenSpec.ofChange s with cond := some uptoSmall }

/-- 'laws.FnNeedsOk', WHERE WHAT IT READS IS OF BULK AT MOST 1048576: true; the input reads as it did. -/
def fnNeedsOkUptoRow : OpenClaim := { program := "ytadphfiikkfjaaa", sum := "8fa14c42ba1263a3ca97fb1d6ce3c40a2c91415df842cffb863cd2ee4923e897", func := "loop.example/shortestates/laws.FnNeedsOk", spec := "fnNeedsOk", apart := false, narrowed := true }
def FnNeedsOkUptoSaid : Prop := fnNeedsOkUptoRow.holds Try.pinned (OpenSpec.upto fnNeedsOkSpec)

/-- 'laws.FnRunwayCost', WHERE WHAT IT READS IS OF BULK AT MOST 1048576: true; the input reads as it did. -/
def fnRunwayCostUptoRow : OpenClaim := { program := "ytadphfiikkfjaaa", sum := "8fa14c42ba1263a3ca97fb1d6ce3c40a2c91415df842cffb863cd2ee4923e897", func := "loop.example/shortestates/laws.FnRunwayCost", spec := "fnRunwayCost", apart := false, narrowed := true }
def FnRunwayCostUptoSaid : Prop := fnRunwayCostUptoRow.holds Try.pinned (OpenSpec.upto fnRunwayCostSpec)

/-- 'laws.FnRunwayShares', WHERE WHAT IT READS IS OF BULK AT MOST 1048576: true; the input reads as it did. -/
def fnRunwaySharesUptoRow : OpenClaim := { program := "ytadphfiikkfjaaa", sum := "8fa14c42ba1263a3ca97fb1d6ce3c40a2c91415df842cffb863cd2ee4923e897", func := "loop.example/shortestates/laws.FnRunwayShares", spec := "fnRunwayShares", unfollowed := true, recurses := true, apart := false, narrowed := true }
def FnRunwaySharesUptoSaid : Prop := fnRunwaySharesUptoRow.holds Try.pinned (OpenSpec.upto fnRunwaySharesSpec)

/-- 'laws.FnRunwayOrders', WHERE WHAT IT READS IS OF BULK AT MOST 1048576: true; the input reads as it did. -/
def fnRunwayOrdersUptoRow : OpenClaim := { program := "ytadphfiikkfjaaa", sum := "8fa14c42ba1263a3ca97fb1d6ce3c40a2c91415df842cffb863cd2ee4923e897", func := "loop.example/shortestates/laws.FnRunwayOrders", spec := "fnRunwayOrders", unfollowed := true, recurses := true, apart := false, narrowed := true }
def FnRunwayOrdersUptoSaid : Prop := fnRunwayOrdersUptoRow.holds Try.pinned (OpenSpec.upto fnRunwayOrdersSpec)

/-- 'laws.FnPaysOk', WHERE WHAT IT READS IS OF BULK AT MOST 1048576: true; the input reads as it did. -/
def fnPaysOkUptoRow : OpenClaim := { program := "ytadphfiikkfjaaa", sum := "8fa14c42ba1263a3ca97fb1d6ce3c40a2c91415df842cffb863cd2ee4923e897", func := "loop.example/shortestates/laws.FnPaysOk", spec := "fnPaysOk", apart := false, narrowed := true }
def FnPaysOkUptoSaid : Prop := fnPaysOkUptoRow.holds Try.pinned (OpenSpec.upto fnPaysOkSpec)

/-- 'laws.FnRunwayLonger', WHERE WHAT IT READS IS OF BULK AT MOST 1048576: true; the input reads as it did. -/
def fnRunwayLongerUptoRow : OpenClaim := { program := "ytadphfiikkfjaaa", sum := "8fa14c42ba1263a3ca97fb1d6ce3c40a2c91415df842cffb863cd2ee4923e897", func := "loop.example/shortestates/laws.FnRunwayLonger", spec := "fnRunwayLonger", recurses := true, apart := false, narrowed := true }
def FnRunwayLongerUptoSaid : Prop := fnRunwayLongerUptoRow.holds Try.pinned (OpenSpec.upto fnRunwayLongerSpec)

/-- 'laws.FnExactNeedsOk', WHERE WHAT IT READS IS OF BULK AT MOST 1048576: true; the input reads as it did. -/
def fnExactNeedsOkUptoRow : OpenClaim := { program := "ytadphfiikkfjaaa", sum := "8fa14c42ba1263a3ca97fb1d6ce3c40a2c91415df842cffb863cd2ee4923e897", func := "loop.example/shortestates/laws.FnExactNeedsOk", spec := "fnExactNeedsOk", apart := false, narrowed := true }
def FnExactNeedsOkUptoSaid : Prop := fnExactNeedsOkUptoRow.holds Try.pinned (OpenSpec.upto fnExactNeedsOkSpec)

/-- 'laws.FnExactRunwayCost', WHERE WHAT IT READS IS OF BULK AT MOST 1048576: true; the input reads as it did. -/
def fnExactRunwayCostUptoRow : OpenClaim := { program := "ytadphfiikkfjaaa", sum := "8fa14c42ba1263a3ca97fb1d6ce3c40a2c91415df842cffb863cd2ee4923e897", func := "loop.example/shortestates/laws.FnExactRunwayCost", spec := "fnExactRunwayCost", apart := false, narrowed := true }
def FnExactRunwayCostUptoSaid : Prop := fnExactRunwayCostUptoRow.holds Try.pinned (OpenSpec.upto fnExactRunwayCostSpec)

/-- 'laws.FnExactRunwayShares', WHERE WHAT IT READS IS OF BULK AT MOST 1048576: true; the input reads as it did. -/
def fnExactRunwaySharesUptoRow : OpenClaim := { program := "ytadphfiikkfjaaa", sum := "8fa14c42ba1263a3ca97fb1d6ce3c40a2c91415df842cffb863cd2ee4923e897", func := "loop.example/shortestates/laws.FnExactRunwayShares", spec := "fnExactRunwayShares", recurses := true, apart := false, narrowed := true }
def FnExactRunwaySharesUptoSaid : Prop := fnExactRunwaySharesUptoRow.holds Try.pinned (OpenSpec.upto fnExactRunwaySharesSpec)

/-- 'laws.FnExactRunwayOrders', WHERE WHAT IT READS IS OF BULK AT MOST 1048576: true; the input reads as it did. -/
def fnExactRunwayOrdersUptoRow : OpenClaim := { program := "ytadphfiikkfjaaa", sum := "8fa14c42ba1263a3ca97fb1d6ce3c40a2c91415df842cffb863cd2ee4923e897", func := "loop.example/shortestates/laws.FnExactRunwayOrders", spec := "fnExactRunwayOrders", unfollowed := true, recurses := true, apart := false, narrowed := true }
def FnExactRunwayOrdersUptoSaid : Prop := fnExactRunwayOrdersUptoRow.holds Try.pinned (OpenSpec.upto fnExactRunwayOrdersSpec)

/-- 'laws.FnExactPaysOk', WHERE WHAT IT READS IS OF BULK AT MOST 1048576: true; the input reads as it did. -/
def fnExactPaysOkUptoRow : OpenClaim := { program := "ytadphfiikkfjaaa", sum := "8fa14c42ba1263a3ca97fb1d6ce3c40a2c91415df842cffb863cd2ee4923e897", func := "loop.example/shortestates/laws.FnExactPaysOk", spec := "fnExactPaysOk", apart := false, narrowed := true }
def FnExactPaysOkUptoSaid : Prop := fnExactPaysOkUptoRow.holds Try.pinned (OpenSpec.upto fnExactPaysOkSpec)

end Rows
end Go.Proofs.Ytadphfiikkfjaaa
