/-
  Appends to a grown row under a guard that is met. No condition.
-/
import Derived.Test.YtbegdcnljafloaaGrid
import Derived.BigFrame
namespace Go.Proofs.Ytbegdcnljafloaa
open Go.RowKit

/-- A grown row's append under a guard that is met. -/
theorem step_grW {ops : Array Oper} {o : Oper} {a : Act} {w : World} {Q : Exit → Act → World → Prop} {K : Act → World → Prop} {E : Prop} (hw : Region.wanted o (yielded ops a.tmps) = true) (s x : Operand) (ho : o.op = .call { callee := .builtin .append, args := #[s, x], argTypes := #[29, 29] })
    {g n c : Nat} {xs ys : List Int} (hs : a.eval s = .slice (some ⟨g, 0, none⟩) n c) (hn : xs.length = n) (hG : Grow w g c xs) {b f m d : Nat} (hx : a.eval x = .slice (some ⟨b, f, none⟩) m d) (hm : ys.length = m)
    (hc : ∀ j, j < ys.length → w.cell? ⟨b, f + j, none⟩ = some (.int .i64 (ys.getD j 0))) (hl : n + m ≤ 1000000)
    (h : ∀ g' c' w', Grow w' g' c' (xs ++ ys) → Chg g (g + 1) w w' → (g' = g ∨ g' = w.heap.size) → K (a.put o.dst (.slice (some ⟨g', 0, none⟩) (n + m) c')) w') :
    if Region.wanted o (yielded ops a.tmps) = true then Oper.wp Try.prog o a w K Q else E := by
  rw [if_pos hw]
  obtain ⟨g', c', w', hr, h1, h2, h3⟩ := append_run (w := w) hn hG (b := b) (f := f) (d := d) hm hc hl o.type
  unfold Oper.wp execOp
  simp only [ho, resolve, invoke, builtin, Sem.run_bind, Sem.run_pure, Result.andThen_ok, List.map_toArray, List.map_cons, List.map_nil, hs, hx, hr]
  exact h g' c' w' h1 h2 h3
theorem append_grLW {ops : Array Oper} {rest : List Oper} {o : Oper} {a : Act} {Q : Exit → Act → World → Prop} {w : World} (hw : Region.wanted o (yielded ops a.tmps) = true) (s x : Operand) (ho : o.op = .call { callee := .builtin .append, args := #[s, x], argTypes := #[29, 29] })
    {g n c : Nat} {xs ys : List Int} (hs : a.eval s = .slice (some ⟨g, 0, none⟩) n c) (hn : xs.length = n) (hG : Grow w g c xs) {b f m d : Nat} (hx : a.eval x = .slice (some ⟨b, f, none⟩) m d) (hm : ys.length = m)
    (hc : ∀ j, j < ys.length → w.cell? ⟨b, f + j, none⟩ = some (.int .i64 (ys.getD j 0))) (hl : n + m ≤ 1000000)
    (h : ∀ g' c' L w', Hid ((xs ++ ys).length = L) → L ≤ n + m → n + m ≤ L → Grow w' g' c' (xs ++ ys) → Chg g (g + 1) w w' → (g' = g ∨ g' = w.heap.size) → wpList Try.prog ops Q rest (a.put o.dst (.slice (some ⟨g', 0, none⟩) L c')) w') : wpList Try.prog ops Q (o :: rest) a w := by
  refine BigFrame.wpList_want hw fun K hK => ?_
  obtain ⟨g', c', w', hr, h1, h2, h3⟩ := append_run (w := w) hn hG (b := b) (f := f) (d := d) hm hc hl o.type
  unfold Oper.wp execOp
  simp only [ho, resolve, invoke, builtin, Sem.run_bind, Sem.run_pure, Result.andThen_ok, List.map_toArray, List.map_cons, List.map_nil, hs, hx, hr]
  exact hK _ _ (h g' c' _ w' (by show _ = _; rw [List.length_append, hn, hm]) (Nat.le_refl _) (Nat.le_refl _) h1 h2 h3)

end Go.Proofs.Ytbegdcnljafloaa
