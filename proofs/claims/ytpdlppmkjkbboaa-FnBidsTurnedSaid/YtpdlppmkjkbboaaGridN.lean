/-
  Two tables that grow side by side: the rows of the one don't lie in the other's own block. Premises: lengths that fit.
-/
import Derived.Test.YtpdlppmkjkbboaaGridS
import Derived.Test.YtpdlppmkjkbboaaGridB
namespace Go.Proofs.Ytpdlppmkjkbboaa
open Go.RowKit

section
variable {w w' : World} {nn : Bool} {lb hi g c lb2 hi2 g2 c2 l x x' : Nat} {xss yss : List (List Int)}
theorem rows_append_all_run2 {n m : Nat} (hn : xss.length = n) (hm : yss.length = m) (hG : Rows w nn lb hi g c xss) (hS : Rows w nn lb2 hi2 g2 c2 yss) (hd : hi2 ≤ g) (hl1 : l ≤ lb) (hl2 : l ≤ lb2) (hl : n + m ≤ 1000000) (ty : TypeId) :
    ∃ g' c' w', (Builtin.append_ #[23, 23] ty #[.slice (some ⟨g, 0, none⟩) n c, .slice (some ⟨g2, 0, none⟩) m c2]).run Try.prog w = .ok (.slice (some ⟨g', 0, none⟩) (n + m) c') w' ∧
      Rows w' nn l w'.heap.size g' c' (xss ++ yss) ∧ Chg g (g + 1) w w' ∧ (g' = g ∨ g' = w.heap.size) ∧ (∀ j, j < xss.length → w'.cell? ⟨g', j, none⟩ = w.cell? ⟨g, j, none⟩) ∧ (∀ j, j < yss.length → w'.cell? ⟨g', xss.length + j, none⟩ = w.cell? ⟨g2, j, none⟩) := by
  obtain ⟨i0, hi0, hz0, hz1, hz2⟩ : ∃ i, Try.prog.info? 26 = some i ∧ i.zero = some (.slice none 0 0) ∧ i.size = 1 ∧ i.bytes = 24 := by
    have e := info_row
    cases h : Try.prog.info? 26 with
    | none => rw [h] at e; cases e
    | some i => rw [h] at e; simp only [Option.map_some, Option.some.injEq, Prod.mk.injEq] at e; exact ⟨i, rfl, e.1, e.2.1, e.2.2⟩
  subst hn hm
  obtain ⟨h1, h2, h3, vs, h4, h5, h6⟩ := hG
  obtain ⟨s1, s2, s3, us, s4, s5, s6⟩ := hS
  obtain ⟨v', w', hr, q2, q3, _, q5⟩ := run_append_own_at (P := Try.prog) w g 23 ty 26 i0 (.slice none 0 0) 1 24 Try.underlying23 hi0 hz0 hz1 hz2 rfl (by decide) (.slice (some ⟨g, 0, none⟩) xss.length c) xss.length vs h5 ⟨g2, 0, none⟩ yss.length c2 us (by rw [s4]; omega)
    (fun j u hu => by
      have hj : j < us.length := (List.getElem?_eq_some_iff.1 hu).1
      rw [addr_add, Nat.zero_add, s5.cellAt j (by omega)]; exact hu) (fun u hu => by
        obtain ⟨j, hj, rfl⟩ := List.mem_iff_getElem.1 hu
        obtain ⟨B, d, e1, _⟩ := s6 j (by omega)
        rw [List.getElem?_eq_getElem hj] at e1
        injection e1 with e1; rw [e1]; rfl) (by unfold maxLen; omega) (by omega) (by omega)
  have hC := chg_of_grown q3
  rcases q2.2 with ⟨hv, _⟩ | ⟨g', cap, cur, hv, hb, hg, hr2⟩
  · rw [hv] at q5
    rcases q5 with q5 | q5 <;> cases q5
  · subst hv
    have hlt' : g' < w'.heap.size := by
      rcases Nat.lt_or_ge g' w'.heap.size with e | e
      · exact e
      · rw [Array.getElem?_eq_none e] at hg; cases hg
    have hgg : g' = g ∨ g' = w.heap.size := by
      rcases q5 with q5 | q5
      · left; injection q5
      · right; injection q5
    have hsz := hC.size
    have el : (xss ++ yss).length = xss.length + yss.length := by simp
    refine ⟨g', cap, w', hr, ⟨by omega, hlt', Nat.le_refl _, vs ++ us, by simp [h4, s4], ?_, fun j hj => ?_⟩, hC, hgg, fun j hj => ?_, fun j hj => ?_⟩
    · rw [el]
      exact ⟨q2.1, .inr ⟨g', cap, cur, rfl, Nat.le_refl _, hg, hr2⟩⟩
    · rcases Nat.lt_or_ge j xss.length with hj' | hj'
      · obtain ⟨B', d2, e1, e2, e3, e8, e9⟩ := h6 j hj'
        have ej : (xss ++ yss).getD j [] = xss.getD j [] := by simp [List.getD, List.getElem?_append_left hj']
        rw [ej]
        refine ⟨B', d2, by rw [List.getElem?_append_left (by omega)]; exact e1, ?_, fun b2 o2 e4 hp => ?_, e8, e9⟩
        · intro hp
          obtain ⟨b2, o2, e4, e5, e6, e7⟩ := e2 hp
          have hne := e3 b2 o2 e4 hp
          exact ⟨b2, o2, e4, by omega, by omega, fun i hi => (hC.cell (p := ⟨b2, o2 + i, none⟩) (by show b2 < _; omega) (by show ¬ (g ≤ b2 ∧ b2 < g + 1); omega)).trans (e7 i hi)⟩
        · obtain ⟨b3, o3, e5, e6, e7, _⟩ := e2 hp
          have hne := e3 b2 o2 e4 hp
          rw [e4] at e5; cases e5
          rcases hgg with e | e <;> omega
      · obtain ⟨i, rfl⟩ : ∃ i, j = xss.length + i := ⟨j - xss.length, by omega⟩
        obtain ⟨B', d2, e1, e2, e3, e8, e9⟩ := s6 i (by omega)
        have ej : (xss ++ yss).getD (xss.length + i) [] = yss.getD i [] := by simp only [List.getD_eq_getElem?_getD]; rw [List.getElem?_append_right (by omega), Nat.add_sub_cancel_left]
        rw [ej]
        refine ⟨B', d2, by rw [List.getElem?_append_right (by omega), h4, Nat.add_sub_cancel_left]; exact e1, ?_, fun b2 o2 e4 hp => ?_, e8, e9⟩
        · intro hp
          obtain ⟨b2, o2, e4, e5, e6, e7⟩ := e2 hp
          exact ⟨b2, o2, e4, by omega, by omega, fun i hi => (hC.cell (p := ⟨b2, o2 + i, none⟩) (by show b2 < _; omega) (by show ¬ (g ≤ b2 ∧ b2 < g + 1); omega)).trans (e7 i hi)⟩
        · obtain ⟨b3, o3, e5, e6, e7, _⟩ := e2 hp
          rw [e4] at e5; cases e5
          rcases hgg with e | e <;> omega
    · rw [q2.cellAt j (by omega), h5.cellAt j (by omega), List.getElem?_append_left (by omega)]
    · rw [q2.cellAt (xss.length + j) (by omega), s5.cellAt j (by omega), List.getElem?_append_right (by omega), h4, Nat.add_sub_cancel_left]
/-- A table none of whose rows lies in block x. -/
def RowsN (w : World) (lb hi g c : Nat) (xss : List (List Int)) (x : Nat) : Prop :=
  Rows w true lb hi g c xss ∧ x < w.heap.size ∧ g ≠ x ∧ ∀ j, j < xss.length → ∀ b o d, w.cell? ⟨g, j, none⟩ = some (.slice (some ⟨b, o, none⟩) (xss.getD j []).length d) → 0 < (xss.getD j []).length → b ≠ x
theorem RowsN.lt (h : RowsN w lb hi g c xss x) : g < hi := h.1.lt
theorem RowsN.ge (h : RowsN w lb hi g c xss x) : lb ≤ g := h.1.ge
theorem RowsN.grid (h : RowsN w lb hi g c xss x) : Grid w lb hi (some ⟨g, 0, none⟩) xss := h.1.grid
theorem rowsN_nil (h : Rows w true lb hi g c []) (hx : x < w.heap.size) (hg : g ≠ x) : RowsN w lb hi g c [] x := ⟨h, hx, hg, fun j hj => absurd hj (by simp)⟩
theorem RowsN.below {B : Nat} (h : RowsN w lb hi g c xss x) (hb : Below B w w') (hB : hi ≤ B) : RowsN w' lb hi g c xss x := by
  have hg := h.1.lt
  have hs := hb.size
  exact ⟨h.1.below hb hB, by have e := h.2.1; omega, h.2.2.1, fun j hj b o d hc hp => h.2.2.2 j hj b o d ((hb.cell (p := ⟨g, j, none⟩) (by show g < B; omega)).symm.trans hc) hp⟩
theorem RowsN.chg {l r : Nat} (h : RowsN w lb hi g c xss x) (hc : Chg l r w w') (hd : hi ≤ l ∨ r ≤ lb) : RowsN w' lb hi g c xss x := by
  have hg := h.1.lt
  have hg2 := h.1.ge
  have hs := h.1.size
  have hz := hc.size
  exact ⟨h.1.chg hc hd, by have e := h.2.1; omega, h.2.2.1, fun j hj b o d he hp => h.2.2.2 j hj b o d ((hc.cell (p := ⟨g, j, none⟩) (by show g < _; omega) (by show ¬ (l ≤ g ∧ g < r); omega)).symm.trans he) hp⟩
theorem RowsN.alloc (h : RowsN w lb hi g c xss x) (o : Obj) : RowsN (w.alloc o) lb hi g c xss x := h.below ((Below.refl _ _).alloc (Nat.le_refl _) o) h.1.size
theorem RowsN.drew (h : RowsN w lb hi g c xss x) : RowsN w.drew lb hi g c xss x := ⟨h.1.drew, h.2⟩
theorem RowsN.more {lb' hi' : Nat} (h : RowsN w lb hi g c xss x) (hl : lb' ≤ lb) (hh : hi ≤ hi') (hs : hi' ≤ w.heap.size) : RowsN w lb' hi' g c xss x := ⟨h.1.more hl hh hs, h.2⟩
theorem RowsN.row_lt (h : Rows w true lb hi g c xss) {j b o d : Nat} (hj : j < xss.length) (hc : w.cell? ⟨g, j, none⟩ = some (.slice (some ⟨b, o, none⟩) (xss.getD j []).length d)) (hp : 0 < (xss.getD j []).length) : b < hi := by
  obtain ⟨B, d', e1, e2, _⟩ := h.at_ j hj
  rw [hc] at e1
  injection e1 with e1
  injection e1 with e1 _ _
  subst e1
  obtain ⟨_, _, e3, _, e4, _⟩ := e2 hp
  cases e3; exact e4
theorem RowsN.other (h : RowsN w lb hi g c xss x) (h1 : hi ≤ x') (h2 : x' < w.heap.size) : RowsN w lb hi g c xss x' := by
  have hg := h.1.lt
  exact ⟨h.1, h2, by omega, fun j hj b o d hc hp => by have e := RowsN.row_lt h.1 hj hc hp; omega⟩
/-- What the other table's growing leaves. -/
theorem RowsN.chgx (h : RowsN w lb hi g c xss x) (hc : Chg x (x + 1) w w') (h1 : x' = x ∨ x' = w.heap.size) (h2 : x' < w'.heap.size) : RowsN w' lb hi g c xss x' := by
  have hz := hc.size
  have hgl := h.1.lt
  obtain ⟨⟨r1, r2, r3, vs, r4, r5, r6⟩, hx, hgx, hr⟩ := h
  have hcell : w'.heap[g]? = w.heap[g]? := hc.block g (by omega) (by omega)
  have hck : ∀ j, w'.cell? ⟨g, j, none⟩ = w.cell? ⟨g, j, none⟩ := fun j => hc.cell (p := ⟨g, j, none⟩) (by show g < _; omega) (by show ¬ (x ≤ g ∧ g < x + 1); omega)
  refine ⟨⟨r1, r2, by omega, vs, r4, owns_block r5 hcell, fun j hj => ?_⟩, h2, by omega, fun j hj b o d he hp => ?_⟩
  · obtain ⟨B, d, e1, e2, e3, e4, e5⟩ := r6 j hj
    refine ⟨B, d, e1, fun hp => ?_, e3, e4, e5⟩
    obtain ⟨b, o, q1, q2, q3, q4⟩ := e2 hp
    have hb : b ≠ x := hr j hj b o d (by rw [r5.cellAt j (by omega), e1, q1]) hp
    exact ⟨b, o, q1, q2, q3, fun i hi => (hc.cell (p := ⟨b, o + i, none⟩) (by show b < _; omega) (by show ¬ (x ≤ b ∧ b < x + 1); omega)).trans (q4 i hi)⟩
  · rw [hck] at he
    have e := hr j hj b o d he hp
    have e2 := RowsN.row_lt (⟨r1, r2, r3, vs, r4, r5, r6⟩ : Rows w true lb hi g c xss) hj he hp
    omega
end
section
variable {ops : Array Oper} {rest : List Oper} {o : Oper} {a : Act} {Q : Exit → Act → World → Prop} {w : World}
set_option maxRecDepth 100000 in
theorem append_rowsN (hgd : o.guard = none) (s x : Operand) (ho : o.op = .call { callee := .builtin .append, args := #[s, x], argTypes := #[23, 23] })
    {g n c lb hi y : Nat} {xss : List (List Int)} (hs : a.eval s = .slice (some ⟨g, 0, none⟩) n c) (hn : xss.length = n) (hG : RowsN w lb hi g c xss y) {b f d d' k b2 : Nat} {xs : List Int} (hx : a.eval x = .slice (some ⟨b, f, none⟩) 1 d)
    (hc : w.cell? ⟨b, f, none⟩ = some (.slice (some ⟨b2, 0, none⟩) k d')) (hk : xs.length = k) (hr : Grow w b2 d' xs) (hb : g < b2) (hby : b2 ≠ y) (hl : n + 1 ≤ 1000000)
    (h : ∀ g' c' L w', Hid (L = n + 1) → L ≤ n + 1 → n + 1 ≤ L → RowsN w' lb w'.heap.size g' c' (xss ++ [xs]) y → Chg g (g + 1) w w' → (g' = g ∨ g' = w.heap.size) → wpList Try.prog ops Q rest (a.put o.dst (.slice (some ⟨g', 0, none⟩) L c')) w') : wpList Try.prog ops Q (o :: rest) a w := by
  refine wpList_plain hgd fun K hK => ?_
  obtain ⟨g', c', w', hr2, h1, h2, h3, h4, h5⟩ := rows_append_run2 (w := w) hn hG.1 hc hk hr.ints hb hr.lt (by rw [← hk]; exact hr.room) (fun _ => ⟨_, _, rfl⟩) hl o.type
  unfold Oper.wp execOp
  simp only [ho, resolve, invoke, builtin, Sem.run_bind, Sem.run_pure, Result.andThen_ok, List.map_toArray, List.map_cons, List.map_nil, hs, hx]
  rw [hr2]
  have hz := h2.size
  have hy := hG.2.1
  have hgy := hG.2.2.1
  refine hK _ _ (h g' c' _ w' rfl (Nat.le_refl _) (Nat.le_refl _) ⟨h1, by omega, by omega, fun j hj b' o' e he hp => ?_⟩ h2 h3)
  rcases Nat.lt_or_ge j xss.length with q | q
  · have ej : (xss ++ [xs]).getD j [] = xss.getD j [] := by simp [List.getD, List.getElem?_append_left q]
    rw [ej] at he hp
    rw [h4 j q] at he
    exact hG.2.2.2 j q b' o' e he hp
  · have hj2 : j = xss.length := by simp at hj; omega
    subst hj2
    rw [h5] at he
    injection he with he
    injection he with he _ _
    injection he with he
    injection he with he _ _
    omega
set_option maxRecDepth 100000 in
theorem append_rows_allN (hgd : o.guard = none) (s x : Operand) (ho : o.op = .call { callee := .builtin .append, args := #[s, x], argTypes := #[23, 23] })
    {g c lb hi g2 m c2 lb2 hi2 l y b2 k d' : Nat} {xs : List Int} {yss : List (List Int)} (hs : a.eval s = .slice (some ⟨g, 0, none⟩) 1 c) (hG : Rows w true lb hi g c [xs]) (hc : w.cell? ⟨g, 0, none⟩ = some (.slice (some ⟨b2, 0, none⟩) k d')) (hx : a.eval x = .slice (some ⟨g2, 0, none⟩) m c2) (hm : yss.length = m) (hS : RowsN w lb2 hi2 g2 c2 yss y)
    (hd : hi2 ≤ g) (hl1 : l ≤ lb) (hl2 : l ≤ lb2) (hgy : g ≠ y) (hby : b2 ≠ y) (hl : 1 + m ≤ 1000000)
    (h : ∀ g' c' L w', Hid (L = 1 + m) → L ≤ 1 + m → 1 + m ≤ L → RowsN w' l w'.heap.size g' c' ([xs] ++ yss) y → Chg g (g + 1) w w' → (g' = g ∨ g' = w.heap.size) → wpList Try.prog ops Q rest (a.put o.dst (.slice (some ⟨g', 0, none⟩) L c')) w') : wpList Try.prog ops Q (o :: rest) a w := by
  refine wpList_plain hgd fun K hK => ?_
  obtain ⟨g', c', w', hr, h1, h2, h3, h4, h5⟩ := rows_append_all_run2 (w := w) (show [xs].length = 1 from rfl) hm hG hS.1 hd hl1 hl2 hl o.type
  unfold Oper.wp execOp
  simp only [ho, resolve, invoke, builtin, Sem.run_bind, Sem.run_pure, Result.andThen_ok, List.map_toArray, List.map_cons, List.map_nil, hs, hx]
  rw [hr]
  have hz := h2.size
  have hy := hS.2.1
  refine hK _ _ (h g' c' _ w' rfl (Nat.le_refl _) (Nat.le_refl _) ⟨h1, by omega, by omega, fun j hj b' o' e he hp => ?_⟩ h2 h3)
  cases j with
  | zero =>
    rw [h4 0 (by simp), hc] at he
    injection he with he
    injection he with he _ _
    injection he with he
    injection he with he _ _
    omega
  | succ i =>
    have hi : i < yss.length := by simp at hj; omega
    have ej : ([xs] ++ yss).getD (i + 1) [] = yss.getD i [] := by simp [List.getD]
    rw [ej] at he hp
    have e5 := h5 i hi
    rw [show [xs].length + i = i + 1 from by simp; omega] at e5
    rw [e5] at he
    exact hS.2.2.2 i hi b' o' e he hp
end

end Go.Proofs.Ytpdlppmkjkbboaa
