/-
  Rows of rows of numbers that a call owns: written out, grown by append, read, carried over what others do. Premises: lengths that fit.
-/
import Derived.Test.YtbegdcnljafloaaGro
namespace Go.Proofs.Ytbegdcnljafloaa
open Go.RowKit

theorem Chg.drewR {lo hi : Nat} {w w' : World} (h : Chg lo hi w w') : Chg lo hi w w'.drew := ⟨h.os, h.tape, h.output, h.size, h.block⟩
theorem Own.drewR {w : World} {lo hi : Nat} {A : Option Addr} {xs : List Int} (h : Own w lo hi A xs) : Own w.drew lo hi A xs := h
theorem info_row : (Try.prog.info? 29).map (fun i => (i.zero, i.size, i.bytes)) = some (some (.slice none 0 0), 1, 24) := by kernel_rfl
/-- The block g is the call's own, and holds the rows xss at its start, with room for c; they lie in blocks from lb on and below hi, none in g; if nn, none of them is nil. -/
def Rows (w : World) (nn : Bool) (lb hi g c : Nat) (xss : List (List Int)) : Prop :=
  lb ≤ g ∧ g < hi ∧ hi ≤ w.heap.size ∧ ∃ vs : List Value, vs.length = xss.length ∧ w.ownsRow g 29 1 (.slice (some ⟨g, 0, none⟩) xss.length c) xss.length vs ∧
    ∀ j, j < xss.length → ∃ B d, vs[j]? = some (.slice B (xss.getD j []).length d) ∧ Ints w lb hi B (xss.getD j []) ∧ (∀ b o, B = some ⟨b, o, none⟩ → 0 < (xss.getD j []).length → b ≠ g) ∧ (xss.getD j []).length ≤ d ∧ (nn = true → ∃ b o, B = some ⟨b, o, none⟩)
section
variable {w w' : World} {nn : Bool} {lb hi g c : Nat} {xss : List (List Int)}
theorem Rows.lt (h : Rows w nn lb hi g c xss) : g < hi := h.2.1
theorem Rows.ge (h : Rows w nn lb hi g c xss) : lb ≤ g := h.1
theorem Rows.size (h : Rows w nn lb hi g c xss) : hi ≤ w.heap.size := h.2.2.1
theorem owns_block {w w' : World} {g n c : Nat} {e : TypeId} {vs : List Value} (h : w.ownsRow g e 1 (.slice (some ⟨g, 0, none⟩) n c) n vs) (hb : w'.heap[g]? = w.heap[g]?) : w'.ownsRow g e 1 (.slice (some ⟨g, 0, none⟩) n c) n vs := by
  refine ⟨h.1, ?_⟩
  rcases h.2 with ⟨e1, _⟩ | ⟨g', cap, cur, e1, hb', hg, r⟩
  · cases e1
  · have e' := e1
    injection e1 with e1 _ _
    injection e1 with e1
    injection e1 with e1 _ _
    subst e1
    exact .inr ⟨g, cap, cur, e', hb', hb.trans hg, r⟩
theorem Rows.below {B : Nat} (h : Rows w nn lb hi g c xss) (hb : Below B w w') (hB : hi ≤ B) : Rows w' nn lb hi g c xss := by
  obtain ⟨h1, h2, h3, vs, h4, h5, h6⟩ := h
  refine ⟨h1, h2, Nat.le_trans h3 hb.size, vs, h4, owns_block h5 (hb.block g (by omega)), fun j hj => ?_⟩
  obtain ⟨b, d, e1, e2, e3⟩ := h6 j hj
  exact ⟨b, d, e1, e2.below hb hB, e3⟩
theorem Rows.chg {l r : Nat} (h : Rows w nn lb hi g c xss) (hc : Chg l r w w') (hd : hi ≤ l ∨ r ≤ lb) : Rows w' nn lb hi g c xss := by
  obtain ⟨h1, h2, h3, vs, h4, h5, h6⟩ := h
  refine ⟨h1, h2, Nat.le_trans h3 hc.size, vs, h4, owns_block h5 (hc.block g (by omega) (by omega)), fun j hj => ?_⟩
  obtain ⟨b, d, e1, e2, e3⟩ := h6 j hj
  exact ⟨b, d, e1, e2.chg hc h3 hd, e3⟩
theorem Rows.alloc (h : Rows w nn lb hi g c xss) (o : Obj) : Rows (w.alloc o) nn lb hi g c xss := h.below ((Below.refl _ _).alloc (Nat.le_refl _) o) h.size
theorem Rows.drew (h : Rows w nn lb hi g c xss) : Rows w.drew nn lb hi g c xss := h
theorem Rows.more {lb' hi' : Nat} (h : Rows w nn lb hi g c xss) (hl : lb' ≤ lb) (hh : hi ≤ hi') (hs : hi' ≤ w.heap.size) : Rows w nn lb' hi' g c xss := by
  obtain ⟨h1, h2, h3, vs, h4, h5, h6⟩ := h
  refine ⟨by omega, by omega, hs, vs, h4, h5, fun j hj => ?_⟩
  obtain ⟨b, d, e1, e2, e3⟩ := h6 j hj
  exact ⟨b, d, e1, e2.more hl hh, e3⟩
theorem Rows.room (h : Rows w nn lb hi g c xss) : xss.length ≤ c := by
  obtain ⟨_, _, _, vs, _, h5, _⟩ := h
  rcases h5.2 with ⟨e, _⟩ | ⟨g', cap, cur, e, _, _, hn, _⟩
  · cases e
  · injection e with _ _ e3; omega
theorem Rows.at_ (h : Rows w nn lb hi g c xss) (j : Nat) (hj : j < xss.length) : ∃ B d, w.cell? ⟨g, j, none⟩ = some (.slice B (xss.getD j []).length d) ∧ Ints w lb hi B (xss.getD j []) ∧ (xss.getD j []).length ≤ d ∧ (nn = true → ∃ b o, B = some ⟨b, o, none⟩) := by
  obtain ⟨_, _, _, vs, h4, h5, h6⟩ := h
  obtain ⟨b, d, e1, e2, _, e4, e5⟩ := h6 j hj
  exact ⟨b, d, (h5.cellAt j (by omega)).trans e1, e2, e4, e5⟩
/-- No rows. -/
theorem rows_lit0 (w : World) (nn : Bool) : Rows (w.alloc (.cells #[] 29)) nn w.heap.size (w.heap.size + 1) w.heap.size 0 [] :=
  ⟨Nat.le_refl _, by omega, by simp, [], rfl, ⟨by simp, .inr ⟨w.heap.size, 0, #[], rfl, Nat.le_refl _, heap_alloc_new w _, Nat.le_refl _, by unfold maxLen; omega, by simp, by simp⟩⟩, fun j hj => absurd hj (by simp)⟩
/-- One row. -/
theorem rows_lit1 (w : World) {lo hi : Nat} {B : Option Addr} {n d : Nat} {xs : List Int} (h : Ints w lo hi B xs) (hn : xs.length = n) (hl : lo ≤ w.heap.size) (hh : hi ≤ w.heap.size) (hd : n ≤ d) (nn : Bool) (hnn : nn = true → ∃ b o, B = some ⟨b, o, none⟩) :
    Rows (w.alloc (.cells #[.slice B n d] 29)) nn lo (w.heap.size + 1) w.heap.size 1 [xs] := by
  subst hn
  refine ⟨hl, by omega, by simp, [.slice B xs.length d], rfl, ⟨by simp, .inr ⟨w.heap.size, 1, #[.slice B xs.length d], rfl, Nat.le_refl _, heap_alloc_new w _, Nat.le_refl _, by unfold maxLen; omega, by simp, by simp⟩⟩, fun j hj => ?_⟩
  obtain rfl : j = 0 := by simpa using hj
  refine ⟨B, d, rfl, (h.alloc hh _).more (Nat.le_refl _) (by omega), fun b o e hp => ?_, hd, hnn⟩
  obtain ⟨b', o', e', _, h2, _⟩ := h hp
  rw [e] at e'; cases e'; omega
theorem oneCell_slice (A : Option Addr) (n d : Nat) : (Value.slice A n d).oneCell' = true := rfl
/-- append of one row. -/
theorem rows_append_run {n lo hi' : Nat} {xs : List Int} (hn : xss.length = n) (hG : Rows w nn lb hi g c xss) {b f d d' k : Nat} {B : Option Addr}
    (hc : w.cell? ⟨b, f, none⟩ = some (.slice B k d')) (hk : xs.length = k) (hi1 : Ints w lo hi' B xs) (hap : g < lo) (hh : hi' ≤ w.heap.size) (hd : k ≤ d') (hnn : nn = true → ∃ b o, B = some ⟨b, o, none⟩) (hl : n + 1 ≤ 1000000) (ty : TypeId) :
    ∃ g' c' w', (Builtin.append_ #[62, 62] ty #[.slice (some ⟨g, 0, none⟩) n c, .slice (some ⟨b, f, none⟩) 1 d]).run Try.prog w = .ok (.slice (some ⟨g', 0, none⟩) (n + 1) c') w' ∧
      Rows w' nn lb w'.heap.size g' c' (xss ++ [xs]) ∧ Chg g (g + 1) w w' ∧ (g' = g ∨ g' = w.heap.size) := by
  obtain ⟨i0, hi0, hz0, hz1, hz2⟩ : ∃ i, Try.prog.info? 29 = some i ∧ i.zero = some (.slice none 0 0) ∧ i.size = 1 ∧ i.bytes = 24 := by
    have e := info_row
    cases h : Try.prog.info? 29 with
    | none => rw [h] at e; cases e
    | some i => rw [h] at e; simp only [Option.map_some, Option.some.injEq, Prod.mk.injEq] at e; exact ⟨i, rfl, e.1, e.2.1, e.2.2⟩
  subst hn hk
  obtain ⟨h1, h2, h3, vs, h4, h5, h6⟩ := hG
  obtain ⟨v', w', hr, q2, q3, _, q5⟩ := run_append_own_at (P := Try.prog) w g 62 ty 29 i0 (.slice none 0 0) 1 24 Try.underlying62 hi0 hz0 hz1 hz2 rfl (by decide) (.slice (some ⟨g, 0, none⟩) xss.length c) xss.length vs h5 ⟨b, f, none⟩ 1 d [.slice B xs.length d'] (by simp)
    (fun j u hu => by
      have hj : j = 0 := by
        have := (List.getElem?_eq_some_iff.1 hu).1
        simpa using this
      subst hj
      rw [addr_add, Nat.add_zero, hc]; exact hu) (fun u hu => by simp only [List.mem_singleton] at hu; subst hu; rfl) (by unfold maxLen; omega) (by omega) (by omega)
  have hC := chg_of_grown q3
  rcases q2.2 with ⟨hv, _⟩ | ⟨g', cap, cur, hv, hb, hg, hr2⟩
  · rw [hv] at q5
    rcases q5 with q5 | q5 <;> cases q5
  · subst hv
    have hlt' : g' < w'.heap.size := by
      rcases Nat.lt_or_ge g' w'.heap.size with e | e
      · exact e
      · rw [Array.getElem?_eq_none e] at hg; cases hg
    have hgg : g' = g ∨ g' = w.heap.size := by
      rcases q5 with q5 | q5
      · left; injection q5
      · right; injection q5
    have hsz := hC.size
    have el : (xss ++ [xs]).length = xss.length + 1 := by simp
    refine ⟨g', cap, w', hr, ⟨by omega, hlt', Nat.le_refl _, vs ++ [.slice B xs.length d'], by simp [h4], ?_, fun j hj => ?_⟩, hC, hgg⟩
    · rw [el]
      exact ⟨q2.1, .inr ⟨g', cap, cur, rfl, Nat.le_refl _, hg, hr2⟩⟩
    · rcases Nat.lt_or_ge j xss.length with hj' | hj'
      · obtain ⟨B', d2, e1, e2, e3, e8, e9⟩ := h6 j hj'
        have ej : (xss ++ [xs]).getD j [] = xss.getD j [] := by simp [List.getD, List.getElem?_append_left hj']
        rw [ej]
        refine ⟨B', d2, by rw [List.getElem?_append_left (by omega)]; exact e1, ?_, fun b2 o2 e4 hp => ?_, e8, e9⟩
        · intro hp
          obtain ⟨b2, o2, e4, e5, e6, e7⟩ := e2 hp
          have hne := e3 b2 o2 e4 hp
          exact ⟨b2, o2, e4, e5, by omega, fun i hi => (hC.cell (p := ⟨b2, o2 + i, none⟩) (by show b2 < _; omega) (by show ¬ (g ≤ b2 ∧ b2 < g + 1); omega)).trans (e7 i hi)⟩
        · obtain ⟨b3, o3, e5, e6, e7, _⟩ := e2 hp
          have hne := e3 b2 o2 e4 hp
          rw [e4] at e5; cases e5
          rcases hgg with e | e <;> omega
      · have hj2 : j = xss.length := by rw [el] at hj; omega
        subst hj2
        have ej : (xss ++ [xs]).getD xss.length [] = xs := by simp [List.getD]
        rw [ej]
        refine ⟨B, d', by rw [List.getElem?_append_right (by omega), h4]; simp, ?_, fun b2 o2 e4 hp => ?_, hd, hnn⟩
        · intro hp
          obtain ⟨b2, o2, e4, e5, e6, e7⟩ := hi1 hp
          exact ⟨b2, o2, e4, by omega, by omega, fun i hi => (hC.cell (p := ⟨b2, o2 + i, none⟩) (by show b2 < _; omega) (by show ¬ (g ≤ b2 ∧ b2 < g + 1); omega)).trans (e7 i hi)⟩
        · obtain ⟨b3, o3, e5, e6, e7, _⟩ := hi1 hp
          rw [e4] at e5; cases e5
          rcases hgg with e | e <;> omega
end
section
variable {ops : Array Oper} {rest : List Oper} {o : Oper} {a : Act} {Q : Exit → Act → World → Prop} {w : World}
set_option maxRecDepth 100000 in
theorem append_rows (hgd : o.guard = none) (s x : Operand) (ho : o.op = .call { callee := .builtin .append, args := #[s, x], argTypes := #[62, 62] })
    {nn : Bool} {g n c lb hi : Nat} {xss : List (List Int)} (hs : a.eval s = .slice (some ⟨g, 0, none⟩) n c) (hn : xss.length = n) (hG : Rows w nn lb hi g c xss) {b f d d' k lo hi' : Nat} {B : Option Addr} {xs : List Int} (hx : a.eval x = .slice (some ⟨b, f, none⟩) 1 d)
    (hc : w.cell? ⟨b, f, none⟩ = some (.slice B k d')) (hk : xs.length = k) (hi1 : Ints w lo hi' B xs) (hap : g < lo) (hh : hi' ≤ w.heap.size) (hd : k ≤ d') (hnn : nn = true → ∃ b o, B = some ⟨b, o, none⟩) (hl : n + 1 ≤ 1000000)
    (h : ∀ g' c' w', Rows w' nn lb w'.heap.size g' c' (xss ++ [xs]) → Chg g (g + 1) w w' → (g' = g ∨ g' = w.heap.size) → wpList Try.prog ops Q rest (a.put o.dst (.slice (some ⟨g', 0, none⟩) (n + 1) c')) w') : wpList Try.prog ops Q (o :: rest) a w := by
  refine wpList_plain hgd fun K hK => ?_
  obtain ⟨g', c', w', hr, h1, h2, h3⟩ := rows_append_run (w := w) hn hG hc hk hi1 hap hh hd hnn hl o.type
  unfold Oper.wp execOp
  simp only [ho, resolve, invoke, builtin, Sem.run_bind, Sem.run_pure, Result.andThen_ok, List.map_toArray, List.map_cons, List.map_nil, hs, hx]
  rw [hr]
  exact hK _ _ (h g' c' w' h1 h2 h3)
/-- The same, the new length by a name of its own. -/
theorem append_rowsL (hgd : o.guard = none) (s x : Operand) (ho : o.op = .call { callee := .builtin .append, args := #[s, x], argTypes := #[62, 62] })
    {nn : Bool} {g n c lb hi : Nat} {xss : List (List Int)} (hs : a.eval s = .slice (some ⟨g, 0, none⟩) n c) (hn : xss.length = n) (hG : Rows w nn lb hi g c xss) {b f d d' k lo hi' : Nat} {B : Option Addr} {xs : List Int} (hx : a.eval x = .slice (some ⟨b, f, none⟩) 1 d)
    (hc : w.cell? ⟨b, f, none⟩ = some (.slice B k d')) (hk : xs.length = k) (hi1 : Ints w lo hi' B xs) (hap : g < lo) (hh : hi' ≤ w.heap.size) (hd : k ≤ d') (hnn : nn = true → ∃ b o, B = some ⟨b, o, none⟩) (hl : n + 1 ≤ 1000000)
    (h : ∀ g' c' L w', Hid (L = n + 1) → L ≤ n + 1 → n + 1 ≤ L → Rows w' nn lb w'.heap.size g' c' (xss ++ [xs]) → Chg g (g + 1) w w' → (g' = g ∨ g' = w.heap.size) → wpList Try.prog ops Q rest (a.put o.dst (.slice (some ⟨g', 0, none⟩) L c')) w') : wpList Try.prog ops Q (o :: rest) a w :=
  append_rows hgd s x ho hs hn hG hx hc hk hi1 hap hh hd hnn hl fun g' c' w' h1 h2 h3 => h g' c' _ w' rfl (Nat.le_refl _) (Nat.le_refl _) h1 h2 h3
theorem append_grL (hgd : o.guard = none) (s x : Operand) (ho : o.op = .call { callee := .builtin .append, args := #[s, x], argTypes := #[29, 29] })
    {g n c : Nat} {xs ys : List Int} (hs : a.eval s = .slice (some ⟨g, 0, none⟩) n c) (hn : xs.length = n) (hG : Grow w g c xs) {b f m d : Nat} (hx : a.eval x = .slice (some ⟨b, f, none⟩) m d) (hm : ys.length = m)
    (hc : ∀ j, j < ys.length → w.cell? ⟨b, f + j, none⟩ = some (.int .i64 (ys.getD j 0))) (hl : n + m ≤ 1000000)
    (h : ∀ g' c' L w', Hid ((xs ++ ys).length = L) → L ≤ n + m → n + m ≤ L → Grow w' g' c' (xs ++ ys) → Chg g (g + 1) w w' → (g' = g ∨ g' = w.heap.size) → wpList Try.prog ops Q rest (a.put o.dst (.slice (some ⟨g', 0, none⟩) L c')) w') : wpList Try.prog ops Q (o :: rest) a w :=
  append_gr hgd s x ho hs hn hG hx hm hc hl fun g' c' w' h1 h2 h3 => h g' c' _ w' (by show _ = _; rw [List.length_append, hn, hm]) (Nat.le_refl _) (Nat.le_refl _) h1 h2 h3
end

end Go.Proofs.Ytbegdcnljafloaa
