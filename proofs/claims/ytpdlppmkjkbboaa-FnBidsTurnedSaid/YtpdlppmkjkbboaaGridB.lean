/-
  Rows of rows appended to rows of rows; two rows written out. Premises: lengths that fit, and that the ones lie below the others.
-/
import Derived.Test.YtpdlppmkjkbboaaGridA
namespace Go.Proofs.Ytpdlppmkjkbboaa
open Go.RowKit

section
variable {w w' : World} {nn : Bool} {lb hi g c lb2 hi2 g2 c2 l : Nat} {xss yss : List (List Int)}
theorem rows_append_all_run {n m : Nat} (hn : xss.length = n) (hm : yss.length = m) (hG : Rows w nn lb hi g c xss) (hS : Rows w nn lb2 hi2 g2 c2 yss) (hd : hi2 ≤ g) (hl1 : l ≤ lb) (hl2 : l ≤ lb2) (hl : n + m ≤ 1000000) (ty : TypeId) :
    ∃ g' c' w', (Builtin.append_ #[23, 23] ty #[.slice (some ⟨g, 0, none⟩) n c, .slice (some ⟨g2, 0, none⟩) m c2]).run Try.prog w = .ok (.slice (some ⟨g', 0, none⟩) (n + m) c') w' ∧
      Rows w' nn l w'.heap.size g' c' (xss ++ yss) ∧ Chg g (g + 1) w w' ∧ (g' = g ∨ g' = w.heap.size) := by
  obtain ⟨i0, hi0, hz0, hz1, hz2⟩ : ∃ i, Try.prog.info? 26 = some i ∧ i.zero = some (.slice none 0 0) ∧ i.size = 1 ∧ i.bytes = 24 := by
    have e := info_row
    cases h : Try.prog.info? 26 with
    | none => rw [h] at e; cases e
    | some i => rw [h] at e; simp only [Option.map_some, Option.some.injEq, Prod.mk.injEq] at e; exact ⟨i, rfl, e.1, e.2.1, e.2.2⟩
  subst hn hm
  obtain ⟨h1, h2, h3, vs, h4, h5, h6⟩ := hG
  obtain ⟨s1, s2, s3, us, s4, s5, s6⟩ := hS
  obtain ⟨v', w', hr, q2, q3, _, q5⟩ := run_append_own_at (P := Try.prog) w g 23 ty 26 i0 (.slice none 0 0) 1 24 Try.underlying23 hi0 hz0 hz1 hz2 rfl (by decide) (.slice (some ⟨g, 0, none⟩) xss.length c) xss.length vs h5 ⟨g2, 0, none⟩ yss.length c2 us (by rw [s4]; omega)
    (fun j u hu => by
      have hj : j < us.length := (List.getElem?_eq_some_iff.1 hu).1
      rw [addr_add, Nat.zero_add, s5.cellAt j (by omega)]; exact hu) (fun u hu => by
        obtain ⟨j, hj, rfl⟩ := List.mem_iff_getElem.1 hu
        obtain ⟨B, d, e1, _⟩ := s6 j (by omega)
        rw [List.getElem?_eq_getElem hj] at e1
        injection e1 with e1; rw [e1]; rfl) (by unfold maxLen; omega) (by omega) (by omega)
  have hC := chg_of_grown q3
  rcases q2.2 with ⟨hv, _⟩ | ⟨g', cap, cur, hv, hb, hg, hr2⟩
  · rw [hv] at q5
    rcases q5 with q5 | q5 <;> cases q5
  · subst hv
    have hlt' : g' < w'.heap.size := by
      rcases Nat.lt_or_ge g' w'.heap.size with e | e
      · exact e
      · rw [Array.getElem?_eq_none e] at hg; cases hg
    have hgg : g' = g ∨ g' = w.heap.size := by
      rcases q5 with q5 | q5
      · left; injection q5
      · right; injection q5
    have hsz := hC.size
    have el : (xss ++ yss).length = xss.length + yss.length := by simp
    refine ⟨g', cap, w', hr, ⟨by omega, hlt', Nat.le_refl _, vs ++ us, by simp [h4, s4], ?_, fun j hj => ?_⟩, hC, hgg⟩
    · rw [el]
      exact ⟨q2.1, .inr ⟨g', cap, cur, rfl, Nat.le_refl _, hg, hr2⟩⟩
    · rcases Nat.lt_or_ge j xss.length with hj' | hj'
      · obtain ⟨B', d2, e1, e2, e3, e8, e9⟩ := h6 j hj'
        have ej : (xss ++ yss).getD j [] = xss.getD j [] := by simp [List.getD, List.getElem?_append_left hj']
        rw [ej]
        refine ⟨B', d2, by rw [List.getElem?_append_left (by omega)]; exact e1, ?_, fun b2 o2 e4 hp => ?_, e8, e9⟩
        · intro hp
          obtain ⟨b2, o2, e4, e5, e6, e7⟩ := e2 hp
          have hne := e3 b2 o2 e4 hp
          exact ⟨b2, o2, e4, by omega, by omega, fun i hi => (hC.cell (p := ⟨b2, o2 + i, none⟩) (by show b2 < _; omega) (by show ¬ (g ≤ b2 ∧ b2 < g + 1); omega)).trans (e7 i hi)⟩
        · obtain ⟨b3, o3, e5, e6, e7, _⟩ := e2 hp
          have hne := e3 b2 o2 e4 hp
          rw [e4] at e5; cases e5
          rcases hgg with e | e <;> omega
      · obtain ⟨i, rfl⟩ : ∃ i, j = xss.length + i := ⟨j - xss.length, by omega⟩
        obtain ⟨B', d2, e1, e2, e3, e8, e9⟩ := s6 i (by omega)
        have ej : (xss ++ yss).getD (xss.length + i) [] = yss.getD i [] := by simp only [List.getD_eq_getElem?_getD]; rw [List.getElem?_append_right (by omega), Nat.add_sub_cancel_left]
        rw [ej]
        refine ⟨B', d2, by rw [List.getElem?_append_right (by omega), h4, Nat.add_sub_cancel_left]; exact e1, ?_, fun b2 o2 e4 hp => ?_, e8, e9⟩
        · intro hp
          obtain ⟨b2, o2, e4, e5, e6, e7⟩ := e2 hp
          exact ⟨b2, o2, e4, by omega, by omega, fun i hi => (hC.cell (p := ⟨b2, o2 + i, none⟩) (by show b2 < _; omega) (by show ¬ (g ≤ b2 ∧ b2 < g + 1); omega)).trans (e7 i hi)⟩
        · obtain ⟨b3, o3, e5, e6, e7, _⟩ := e2 hp
          rw [e4] at e5; cases e5
          rcases hgg with e | e <;> omega
/-- Two rows written out. -/
theorem grid_lit2 (w : World) {lo hi lo' hi' l n m d e : Nat} {A B : Option Addr} {xs ys : List Int} (h : Ints w lo hi A xs) (hn : xs.length = n) (hd : n ≤ d) (h' : Ints w lo' hi' B ys) (hm : ys.length = m) (he : m ≤ e) (h1 : l ≤ lo) (h2 : l ≤ lo') (h3 : hi ≤ w.heap.size) (h4 : hi' ≤ w.heap.size) (h5 : l ≤ w.heap.size) :
    Grid (w.alloc (.cells #[.slice A n d, .slice B m e] 26)) l (w.heap.size + 1) (some ⟨w.heap.size, 0, none⟩) [xs, ys] := fun _ => by
  subst hn hm
  refine ⟨w.heap.size, 0, rfl, h5, Nat.lt_succ_self _, fun k hk => ?_⟩
  rcases (show k = 0 ∨ k = 1 from by simp at hk; omega) with rfl | rfl
  · exact ⟨A, d, by simp [go_sem], (h.alloc h3 _).more h1 (by omega), hd⟩
  · exact ⟨B, e, by simp [go_sem], (h'.alloc h4 _).more h2 (by omega), he⟩
end
section
variable {ops : Array Oper} {rest : List Oper} {o : Oper} {a : Act} {Q : Exit → Act → World → Prop} {w : World}
set_option maxRecDepth 100000 in
theorem append_rows_allL (hgd : o.guard = none) (s x : Operand) (ho : o.op = .call { callee := .builtin .append, args := #[s, x], argTypes := #[23, 23] })
    {nn : Bool} {g n c lb hi g2 m c2 lb2 hi2 l : Nat} {xss yss : List (List Int)} (hs : a.eval s = .slice (some ⟨g, 0, none⟩) n c) (hn : xss.length = n) (hG : Rows w nn lb hi g c xss) (hx : a.eval x = .slice (some ⟨g2, 0, none⟩) m c2) (hm : yss.length = m) (hS : Rows w nn lb2 hi2 g2 c2 yss)
    (hd : hi2 ≤ g) (hl1 : l ≤ lb) (hl2 : l ≤ lb2) (hl : n + m ≤ 1000000)
    (h : ∀ g' c' L w', Hid (L = n + m) → L ≤ n + m → n + m ≤ L → Rows w' nn l w'.heap.size g' c' (xss ++ yss) → Chg g (g + 1) w w' → (g' = g ∨ g' = w.heap.size) → wpList Try.prog ops Q rest (a.put o.dst (.slice (some ⟨g', 0, none⟩) L c')) w') : wpList Try.prog ops Q (o :: rest) a w := by
  refine wpList_plain hgd fun K hK => ?_
  obtain ⟨g', c', w', hr, h1, h2, h3⟩ := rows_append_all_run (w := w) hn hm hG hS hd hl1 hl2 hl o.type
  unfold Oper.wp execOp
  simp only [ho, resolve, invoke, builtin, Sem.run_bind, Sem.run_pure, Result.andThen_ok, List.map_toArray, List.map_cons, List.map_nil, hs, hx]
  rw [hr]
  exact hK _ _ (h g' c' _ w' rfl (Nat.le_refl _) (Nat.le_refl _) h1 h2 h3)
/-- append of one row, at a step of a region that draws its order. -/
theorem step_rows {K : Act → World → Prop} {E : Prop} (hgd : o.guard = none) (s x : Operand) (ho : o.op = .call { callee := .builtin .append, args := #[s, x], argTypes := #[23, 23] })
    {nn : Bool} {g n c lb hi : Nat} {xss : List (List Int)} (hs : a.eval s = .slice (some ⟨g, 0, none⟩) n c) (hn : xss.length = n) (hG : Rows w nn lb hi g c xss) {b f d d' k lo hi' : Nat} {B : Option Addr} {xs : List Int} (hx : a.eval x = .slice (some ⟨b, f, none⟩) 1 d)
    (hc : w.cell? ⟨b, f, none⟩ = some (.slice B k d')) (hk : xs.length = k) (hi1 : Ints w lo hi' B xs) (hap : g < lo) (hh : hi' ≤ w.heap.size) (hd : k ≤ d') (hnn : nn = true → ∃ b o, B = some ⟨b, o, none⟩) (hl : n + 1 ≤ 1000000)
    (h : ∀ g' c' w', Rows w' nn lb w'.heap.size g' c' (xss ++ [xs]) → Chg g (g + 1) w w' → (g' = g ∨ g' = w.heap.size) → K (a.put o.dst (.slice (some ⟨g', 0, none⟩) (n + 1) c')) w') :
    if Region.wanted o (yielded ops a.tmps) = true then Oper.wp Try.prog o a w K Q else E := by
  have hw : Region.wanted o (yielded ops a.tmps) = true := by simp [Region.wanted, hgd]
  rw [if_pos hw]
  obtain ⟨g', c', w', hr, h1, h2, h3⟩ := rows_append_run (w := w) hn hG hc hk hi1 hap hh hd hnn hl o.type
  unfold Oper.wp execOp
  simp only [ho, resolve, invoke, builtin, Sem.run_bind, Sem.run_pure, Result.andThen_ok, List.map_toArray, List.map_cons, List.map_nil, hs, hx]
  rw [hr]
  exact h g' c' w' h1 h2 h3
end

end Go.Proofs.Ytpdlppmkjkbboaa
