/-
  A row that is nil or grown by append, and appends in regions that draw their order. Premises: lengths that fit.
-/
import Derived.Test.YtbegdcnljafloaaGrow
namespace Go.Proofs.Ytbegdcnljafloaa
open Go.RowKit

/-- A row of N numbers that is nil, or lies in a block of the call's own. -/
def Gro (w : World) (lb : Nat) (A : Option Addr) (c N : Nat) (xs : List Int) : Prop :=
  (A = none ∧ c = 0 ∧ N = 0 ∧ xs = []) ∨ ∃ g, A = some ⟨g, 0, none⟩ ∧ lb ≤ g ∧ xs.length = N ∧ 0 < N ∧ Grow w g c xs
section
variable {ops : Array Oper} {rest : List Oper} {o : Oper} {a : Act} {Q : Exit → Act → World → Prop} {w : World}
/-- At a step of a region that draws its order: append to nil. -/
theorem step_gr_nil {K : Act → World → Prop} {E : Prop} (hgd : o.guard = none) (s x : Operand) (ho : o.op = .call { callee := .builtin .append, args := #[s, x], argTypes := #[29, 29] })
    {ys : List Int} (hs : a.eval s = .slice none 0 0) {b f m d : Nat} (hx : a.eval x = .slice (some ⟨b, f, none⟩) m d) (hm : ys.length = m) (h0 : 0 < m)
    (hc : ∀ j, j < ys.length → w.cell? ⟨b, f + j, none⟩ = some (.int .i64 (ys.getD j 0))) (hl : m ≤ 1000000)
    (h : ∀ g' c' w', g' = w.heap.size → Grow w' g' c' ys → Below w.heap.size w w' → K (a.put o.dst (.slice (some ⟨g', 0, none⟩) m c')) w') :
    if Region.wanted o (yielded ops a.tmps) = true then Oper.wp Try.prog o a w K Q else E := by
  have hw : Region.wanted o (yielded ops a.tmps) = true := by simp [Region.wanted, hgd]
  rw [if_pos hw]
  obtain ⟨c', w', hr, h1, h2⟩ := append_nil_run (w := w) (b := b) (f := f) (d := d) hm h0 hc hl o.type
  unfold Oper.wp execOp
  simp only [ho, resolve, invoke, builtin, Sem.run_bind, Sem.run_pure, Result.andThen_ok, List.map_toArray, List.map_cons, List.map_nil, hs, hx, hr]
  exact h _ c' w' rfl h1 h2
end
theorem Chg.wide {lo hi l h : Nat} {w w' : World} (c : Chg lo hi w w') (h1 : l ≤ lo) (h2 : hi ≤ h) : Chg l h w w' := ⟨c.os, c.tape, c.output, c.size, fun k hk hn => c.block k hk (fun e => hn (by omega))⟩
/-- What a row out of a nil or a grown one hands back. -/
theorem retInts_nil {w w' : World} {xs : List Int} (h : xs = []) (hB : Below w.heap.size w w') : RetInts w xs (.returned (.slice none 0 0)) w' := by
  subst h; exact ⟨none, 0, rfl, Own.nil, hB⟩

end Go.Proofs.Ytbegdcnljafloaa
