/-
  No cell of these rows narrows 'for every input' (looked for: loops, veiled, ifaces, maps, wideKeys, modest, calm, conditions, laid).
  DERIVED. THE GIVEN ROWS OF THIS SEAT. 8 by the template 'for every input the law returns true; each argument reads behind the call as it read before'; 0 by the template 'total and deterministic' (their statements: YtdhbeodgebdjjaaTotals.lean).
  GIVEN WITH THE SEED: the statements are not yours to turn. If you find one false, say at which input.
  Laid BY PROGRAM, IN A SANDBOX (cutbox-rows.mjs): the forced cells as the released guide's own fill.sh prints them over the translation 4de61a1936ccb3f9… (all of the seat's roots in one cut). By AI agents, Wed Nov 11 2026. No macro, syntax, notation, axiom, sorry.
-/
import Derived.Test.YtdhbeodgebdjjaaChecked
import GoSem.Claim
import GoSem.ClaimJoined
import GoSem.ClaimMapViews
import Derived.JoinedTies
import Derived.KernelRfl
namespace Go.Proofs.Ytdhbeodgebdjjaa
/- THE CELL 'sum', in the pinned program and in every row, IS THE sha256 OF THE DUMP (.gsa) THAT YtdhbeodgebdjjaaProg.lean LOADS. Nothing in Lean hashes anything: it is a label: what it is worth is what the hold of that sum in a sandbox is worth. -/
noncomputable def Try.pinned : Pinned := { name := "ytdhbeodgebdjjaa", sum := "4de61a1936ccb3f99421ebac4c3617908d694bc779ac879b1107760d83f73b37", checked := Try.checked }
namespace Rows
def none {H : Type} : Left H := { results := [], args := [] }

/-- 'laws.FnShareRow': WHATEVER THE INPUT: true; the input reads as it did. -/
def fnShareRowSpec : ChangeSpec := { name := "fnShareRow", fn := fun _ => fun
  | [d] => { results := [.lit (.bool true)], args := [d] }
  | _ => none }
def fnShareRowRow : OpenClaim := { program := "ytdhbeodgebdjjaa", sum := "4de61a1936ccb3f99421ebac4c3617908d694bc779ac879b1107760d83f73b37", func := "loop.example/shortestates/laws.FnShareRow", spec := "fnShareRow", apart := false }
def FnShareRowSaid : Prop := fnShareRowRow.holds Try.pinned (OpenSpec.ofChange fnShareRowSpec)

/-- ITS FALSE NEIGHBOUR: 'it returns false'. Refute it at one input. -/
def fnShareRowWrong : ChangeSpec := { name := "fnShareRow", fn := fun _ => fun
  | [d] => { results := [.lit (.bool false)], args := [d] }
  | _ => none }
def FnShareRowWrongFalsely : Prop := fnShareRowRow.holds Try.pinned (OpenSpec.ofChange fnShareRowWrong)

/-- 'laws.FnKeepsOrder': WHATEVER THE INPUT: true; the input reads as it did. -/
def fnKeepsOrderSpec : ChangeSpec := { name := "fnKeepsOrder", fn := fun _ => fun
  | [d] => { results := [.lit (.bool true)], args := [d] }
  | _ => none }
def fnKeepsOrderRow : OpenClaim := { program := "ytdhbeodgebdjjaa", sum := "4de61a1936ccb3f99421ebac4c3617908d694bc779ac879b1107760d83f73b37", func := "loop.example/shortestates/laws.FnKeepsOrder", spec := "fnKeepsOrder", recurses := true, apart := false }
def FnKeepsOrderSaid : Prop := fnKeepsOrderRow.holds Try.pinned (OpenSpec.ofChange fnKeepsOrderSpec)

/-- ITS FALSE NEIGHBOUR: 'it returns false'. Refute it at one input. -/
def fnKeepsOrderWrong : ChangeSpec := { name := "fnKeepsOrder", fn := fun _ => fun
  | [d] => { results := [.lit (.bool false)], args := [d] }
  | _ => none }
def FnKeepsOrderWrongFalsely : Prop := fnKeepsOrderRow.holds Try.pinned (OpenSpec.ofChange fnKeepsOrderWrong)

/-- 'laws.FnWholeAwards': WHATEVER THE INPUT: true; the input reads as it did. -/
def fnWholeAwardsSpec : ChangeSpec := { name := "fnWholeAwards", fn := fun _ => fun
  | [d] => { results := [.lit (.bool true)], args := [d] }
  | _ => none }
def fnWholeAwardsRow : OpenClaim := { program := "ytdhbeodgebdjjaa", sum := "4de61a1936ccb3f99421ebac4c3617908d694bc779ac879b1107760d83f73b37", func := "loop.example/shortestates/laws.FnWholeAwards", spec := "fnWholeAwards", unfollowed := true, recurses := true, apart := false }
def FnWholeAwardsSaid : Prop := fnWholeAwardsRow.holds Try.pinned (OpenSpec.ofChange fnWholeAwardsSpec)

/-- ITS FALSE NEIGHBOUR: 'it returns false'. Refute it at one input. -/
def fnWholeAwardsWrong : ChangeSpec := { name := "fnWholeAwards", fn := fun _ => fun
  | [d] => { results := [.lit (.bool false)], args := [d] }
  | _ => none }
def FnWholeAwardsWrongFalsely : Prop := fnWholeAwardsRow.holds Try.pinned (OpenSpec.ofChange fnWholeAwardsWrong)

/-- 'laws.FnWholeShares': WHATEVER THE INPUT: true; the input reads as it did. -/
def fnWholeSharesSpec : ChangeSpec := { name := "fnWholeShares", fn := fun _ => fun
  | [d] => { results := [.lit (.bool true)], args := [d] }
  | _ => none }
def fnWholeSharesRow : OpenClaim := { program := "ytdhbeodgebdjjaa", sum := "4de61a1936ccb3f99421ebac4c3617908d694bc779ac879b1107760d83f73b37", func := "loop.example/shortestates/laws.FnWholeShares", spec := "fnWholeShares", unfollowed := true, recurses := true, apart := false }
def FnWholeSharesSaid : Prop := fnWholeSharesRow.holds Try.pinned (OpenSpec.ofChange fnWholeSharesSpec)

/-- ITS FALSE NEIGHBOUR: 'it returns false'. Refute it at one input. -/
def fnWholeSharesWrong : ChangeSpec := { name := "fnWholeShares", fn := fun _ => fun
  | [d] => { results := [.lit (.bool false)], args := [d] }
  | _ => none }
def FnWholeSharesWrongFalsely : Prop := fnWholeSharesRow.holds Try.pinned (OpenSpec.ofChange fnWholeSharesWrong)

/-- 'laws.FnExactShareRow': WHATEVER THE INPUT: true; the input reads as it did. -/
def fnExactShareRowSpec : ChangeSpec := { name := "fnExactShareRow", fn := fun _ => fun
  | [d] => { results := [.lit (.bool true)], args := [d] }
  | _ => none }
def fnExactShareRowRow : OpenClaim := { program := "ytdhbeodgebdjjaa", sum := "4de61a1936ccb3f99421ebac4c3617908d694bc779ac879b1107760d83f73b37", func := "loop.example/shortestates/laws.FnExactShareRow", spec := "fnExactShareRow", apart := false }
def FnExactShareRowSaid : Prop := fnExactShareRowRow.holds Try.pinned (OpenSpec.ofChange fnExactShareRowSpec)

/-- ITS FALSE NEIGHBOUR: 'it returns false'. Refute it at one input. -/
def fnExactShareRowWrong : ChangeSpec := { name := "fnExactShareRow", fn := fun _ => fun
  | [d] => { results := [.lit (.bool false)], args := [d] }
  | _ => none }
def FnExactShareRowWrongFalsely : Prop := fnExactShareRowRow.holds Try.pinned (OpenSpec.ofChange fnExactShareRowWrong)

/-- 'laws.FnExactKeepsOrder': WHATEVER THE INPUT: true; the input reads as it did. -/
def fnExactKeepsOrderSpec : ChangeSpec := { name := "fnExactKeepsOrder", fn := fun _ => fun
  | [d1, d2] => { results := [.lit (.bool true)], args := [d1, d2] }
  | _ => none }
def fnExactKeepsOrderRow : OpenClaim := { program := "ytdhbeodgebdjjaa", sum := "4de61a1936ccb3f99421ebac4c3617908d694bc779ac879b1107760d83f73b37", func := "loop.example/shortestates/laws.FnExactKeepsOrder", spec := "fnExactKeepsOrder", apart := false }
def FnExactKeepsOrderSaid : Prop := fnExactKeepsOrderRow.holds Try.pinned (OpenSpec.ofChange fnExactKeepsOrderSpec)

/-- ITS FALSE NEIGHBOUR: 'it returns false'. Refute it at one input. -/
def fnExactKeepsOrderWrong : ChangeSpec := { name := "fnExactKeepsOrder", fn := fun _ => fun
  | [d1, d2] => { results := [.lit (.bool false)], args := [d1, d2] }
  | _ => none }
def FnExactKeepsOrderWrongFalsely : Prop := fnExactKeepsOrderRow.holds Try.pinned (OpenSpec.ofChange fnExactKeepsOrderWrong)

/-- 'laws.FnExactWholeAwards': WHATEVER THE INPUT: true; the input reads as it did. -/
def fnExactWholeAwardsSpec : ChangeSpec := { name := "fnExactWholeAwards", fn := fun _ => fun
  | [d1, d2] => { results := [.lit (.bool true)], args := [d1, d2] }
  | _ => none }
def fnExactWholeAwardsRow : OpenClaim := { program := "ytdhbeodgebdjjaa", sum := "4de61a1936ccb3f99421ebac4c3617908d694bc779ac879b1107760d83f73b37", func := "loop.example/shortestates/laws.FnExactWholeAwards", spec := "fnExactWholeAwards", unfollowed := true, recurses := true, apart := false }
def FnExactWholeAwardsSaid : Prop := fnExactWholeAwardsRow.holds Try.pinned (OpenSpec.ofChange fnExactWholeAwardsSpec)

/-- ITS FALSE NEIGHBOUR: 'it returns false'. Refute it at one input. -/
def fnExactWholeAwardsWrong : ChangeSpec := { name := "fnExactWholeAwards", fn := fun _ => fun
  | [d1, d2] => { results := [.lit (.bool false)], args := [d1, d2] }
  | _ => none }
def FnExactWholeAwardsWrongFalsely : Prop := fnExactWholeAwardsRow.holds Try.pinned (OpenSpec.ofChange fnExactWholeAwardsWrong)

/-- 'laws.FnExactWholeShares': WHATEVER THE INPUT: true; the input reads as it did. -/
def fnExactWholeSharesSpec : ChangeSpec := { name := "fnExactWholeShares", fn := fun _ => fun
  | [d] => { results := [.lit (.bool true)], args := [d] }
  | _ => none }
def fnExactWholeSharesRow : OpenClaim := { program := "ytdhbeodgebdjjaa", sum := "4de61a1936ccb3f99421ebac4c3617908d694bc779ac879b1107760d83f73b37", func := "loop.example/shortestates/laws.FnExactWholeShares", spec := "fnExactWholeShares", unfollowed := true, recurses := true, apart := false }
def FnExactWholeSharesSaid : Prop := fnExactWholeSharesRow.holds Try.pinned (OpenSpec.ofChange fnExactWholeSharesSpec)

/-- ITS FALSE NEIGHBOUR: 'it returns false'. Refute it at one input. -/
def fnExactWholeSharesWrong : ChangeSpec := { name := "fnExactWholeShares", fn := fun _ => fun
  | [d] => { results := [.lit (.bool false)], args := [d] }
  | _ => none }
def FnExactWholeSharesWrongFalsely : Prop := fnExactWholeSharesRow.holds Try.pinned (OpenSpec.ofChange fnExactWholeSharesWrong)

/- THE SECOND FORM. 'bulk': how many values and letters a reading holds, each counted each time it is reached (what is shared counts as often as it is met; a slice's spare places count too). A statement '..UptoSaid' is the law's where the arguments, and the package variables that the reading takes, are together of bulk at most 1048576: NARROWER than '..Said'. Prove '..Said' where nothing that the law and all that it calls make is longer than what came in: it says more and counts as full. Else prove '..UptoSaid'. A law counts once. -/
mutual
def uptoBulk {H : Type} : DataW H → Nat
  | .lit (.string bytes) => bytes.length + 1
  | .lit _ => 1
  | .nil => 1
  | .ptr d => uptoBulk d + 1
  | .slice elems spare => uptoBulkAll elems + uptoBulkAll spare + 1
  | .agg parts => uptoBulkAll parts + 1
  | .iface _ d => uptoBulk d + 1
  | .map entries => uptoBulkEntries entries + 1
  | .held _ => 1
def uptoBulkAll {H : Type} : List (DataW H) → Nat
  | [] => 0
  | d :: r => uptoBulk d + uptoBulkAll r
def uptoBulkEntries {H : Type} : List (Lit × DataW H) → Nat
  | [] => 0
  | x :: r => uptoBulkEntry x + uptoBulkEntries r
def uptoBulkEntry {H : Type} : Lit × DataW H → Nat
  | (.string bytes, d) => bytes.length + uptoBulk d + 1
  | (_, d) => uptoBulk d + 1
 end
def uptoSmall : (H : Type) → List (DataW H) → Bool := fun _ ds => decide (uptoBulkAll ds ≤ 1048576)
def OpenSpec.upto (s : _root_.Go.ChangeSpec) : _root_.Go.OpenSpec := { _root_.Go.OpenSpec.ofChange s with cond := some uptoSmall }

/-- 'laws.FnShareRow', WHERE WHAT IT READS IS OF BULK AT MOST 1048576: true; the input reads as it did. -/
def fnShareRowUptoRow : OpenClaim := { program := "ytdhbeodgebdjjaa", sum := "4de61a1936ccb3f99421ebac4c3617908d694bc779ac879b1107760d83f73b37", func := "loop.example/shortestates/laws.FnShareRow", spec := "fnShareRow", apart := false, narrowed := true }
def FnShareRowUptoSaid : Prop := fnShareRowUptoRow.holds Try.pinned (OpenSpec.upto fnShareRowSpec)

/-- 'laws.FnKeepsOrder', WHERE WHAT IT READS IS OF BULK AT MOST 1048576: true; the input reads as it did. -/
def fnKeepsOrderUptoRow : OpenClaim := { program := "ytdhbeodgebdjjaa", sum := "4de61a1936ccb3f99421ebac4c3617908d694bc779ac879b1107760d83f73b37", func := "loop.example/shortestates/laws.FnKeepsOrder", spec := "fnKeepsOrder", recurses := true, apart := false, narrowed := true }
def FnKeepsOrderUptoSaid : Prop := fnKeepsOrderUptoRow.holds Try.pinned (OpenSpec.upto fnKeepsOrderSpec)

/-- 'laws.FnWholeAwards', WHERE WHAT IT READS IS OF BULK AT MOST 1048576: true; the input reads as it did. -/
def fnWholeAwardsUptoRow : OpenClaim := { program := "ytdhbeodgebdjjaa", sum := "4de61a1936ccb3f99421ebac4c3617908d694bc779ac879b1107760d83f73b37", func := "loop.example/shortestates/laws.FnWholeAwards", spec := "fnWholeAwards", unfollowed := true, recurses := true, apart := false, narrowed := true }
def FnWholeAwardsUptoSaid : Prop := fnWholeAwardsUptoRow.holds Try.pinned (OpenSpec.upto fnWholeAwardsSpec)

/-- 'laws.FnWholeShares', WHERE WHAT IT READS IS OF BULK AT MOST 1048576: true; the input reads as it did. -/
def fnWholeSharesUptoRow : OpenClaim := { program := "ytdhbeodgebdjjaa", sum := "4de61a1936ccb3f99421ebac4c3617908d694bc779ac879b1107760d83f73b37", func := "loop.example/shortestates/laws.FnWholeShares", spec := "fnWholeShares", unfollowed := true, recurses := true, apart := false, narrowed := true }
def FnWholeSharesUptoSaid : Prop := fnWholeSharesUptoRow.holds Try.pinned (OpenSpec.upto fnWholeSharesSpec)

/-- 'laws.FnExactShareRow', WHERE WHAT IT READS IS OF BULK AT MOST 1048576: true; the input reads as it did. -/
def fnExactShareRowUptoRow : OpenClaim := { program := "ytdhbeodgebdjjaa", sum := "4de61a1936ccb3f99421ebac4c3617908d694bc779ac879b1107760d83f73b37", func := "loop.example/shortestates/laws.FnExactShareRow", spec := "fnExactShareRow", apart := false, narrowed := true }
def FnExactShareRowUptoSaid : Prop := fnExactShareRowUptoRow.holds Try.pinned (OpenSpec.upto fnExactShareRowSpec)

/-- 'laws.FnExactKeepsOrder', WHERE WHAT IT READS IS OF BULK AT MOST 1048576: true; the input reads as it did. -/
def fnExactKeepsOrderUptoRow : OpenClaim := { program := "ytdhbeodgebdjjaa", sum := "4de61a1936ccb3f99421ebac4c3617908d694bc779ac879b1107760d83f73b37", func := "loop.example/shortestates/laws.FnExactKeepsOrder", spec := "fnExactKeepsOrder", apart := false, narrowed := true }
def FnExactKeepsOrderUptoSaid : Prop := fnExactKeepsOrderUptoRow.holds Try.pinned (OpenSpec.upto fnExactKeepsOrderSpec)

/-- 'laws.FnExactWholeAwards', WHERE WHAT IT READS IS OF BULK AT MOST 1048576: true; the input reads as it did. -/
def fnExactWholeAwardsUptoRow : OpenClaim := { program := "ytdhbeodgebdjjaa", sum := "4de61a1936ccb3f99421ebac4c3617908d694bc779ac879b1107760d83f73b37", func := "loop.example/shortestates/laws.FnExactWholeAwards", spec := "fnExactWholeAwards", unfollowed := true, recurses := true, apart := false, narrowed := true }
def FnExactWholeAwardsUptoSaid : Prop := fnExactWholeAwardsUptoRow.holds Try.pinned (OpenSpec.upto fnExactWholeAwardsSpec)

/-- 'laws.FnExactWholeShares', WHERE WHAT IT READS IS OF BULK AT MOST 1048576: true; the input reads as it did. -/
def fnExactWholeSharesUptoRow : OpenClaim := { program := "ytdhbeodgebdjjaa", sum := "4de61a1936ccb3f99421ebac4c3617908d694bc779ac879b1107760d83f73b37", func := "loop.example/shortestates/laws.FnExactWholeShares", spec := "fnExactWholeShares", unfollowed := true, recurses := true, apart := false, narrowed := true }
def FnExactWholeSharesUptoSaid : Prop := fnExactWholeSharesUptoRow.holds Try.pinned (OpenSpec.upto fnExactWholeSharesSpec)

end Rows
end Go.Proofs.Ytdhbeodgebdjjaa
