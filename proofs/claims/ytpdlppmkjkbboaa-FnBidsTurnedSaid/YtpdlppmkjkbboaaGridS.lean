/-
  Rows of rows that a call owns, each in a block of its own: grown by append, one of them grown in place; a row put in the place of another one. Premises: lengths that fit.
-/
import Derived.Test.YtpdlppmkjkbboaaGridA
namespace Go.Proofs.Ytpdlppmkjkbboaa
open Go.RowKit

section
variable {w w' : World} {nn : Bool} {lb hi g c : Nat} {xss : List (List Int)}
/-- append of one row, and what the cells hold then. -/
theorem rows_append_run2 {n lo hi' : Nat} {xs : List Int} (hn : xss.length = n) (hG : Rows w nn lb hi g c xss) {b f d d' k : Nat} {B : Option Addr}
    (hc : w.cell? ⟨b, f, none⟩ = some (.slice B k d')) (hk : xs.length = k) (hi1 : Ints w lo hi' B xs) (hap : g < lo) (hh : hi' ≤ w.heap.size) (hd : k ≤ d') (hnn : nn = true → ∃ b o, B = some ⟨b, o, none⟩) (hl : n + 1 ≤ 1000000) (ty : TypeId) :
    ∃ g' c' w', (Builtin.append_ #[23, 23] ty #[.slice (some ⟨g, 0, none⟩) n c, .slice (some ⟨b, f, none⟩) 1 d]).run Try.prog w = .ok (.slice (some ⟨g', 0, none⟩) (n + 1) c') w' ∧
      Rows w' nn lb w'.heap.size g' c' (xss ++ [xs]) ∧ Chg g (g + 1) w w' ∧ (g' = g ∨ g' = w.heap.size) ∧ (∀ j, j < xss.length → w'.cell? ⟨g', j, none⟩ = w.cell? ⟨g, j, none⟩) ∧ w'.cell? ⟨g', xss.length, none⟩ = some (.slice B xs.length d') := by
  obtain ⟨i0, hi0, hz0, hz1, hz2⟩ : ∃ i, Try.prog.info? 26 = some i ∧ i.zero = some (.slice none 0 0) ∧ i.size = 1 ∧ i.bytes = 24 := by
    have e := info_row
    cases h : Try.prog.info? 26 with
    | none => rw [h] at e; cases e
    | some i => rw [h] at e; simp only [Option.map_some, Option.some.injEq, Prod.mk.injEq] at e; exact ⟨i, rfl, e.1, e.2.1, e.2.2⟩
  subst hn hk
  obtain ⟨h1, h2, h3, vs, h4, h5, h6⟩ := hG
  obtain ⟨v', w', hr, q2, q3, _, q5⟩ := run_append_own_at (P := Try.prog) w g 23 ty 26 i0 (.slice none 0 0) 1 24 Try.underlying23 hi0 hz0 hz1 hz2 rfl (by decide) (.slice (some ⟨g, 0, none⟩) xss.length c) xss.length vs h5 ⟨b, f, none⟩ 1 d [.slice B xs.length d'] (by simp)
    (fun j u hu => by
      have hj : j = 0 := by
        have := (List.getElem?_eq_some_iff.1 hu).1
        simpa using this
      subst hj
      rw [addr_add, Nat.add_zero, hc]; exact hu) (fun u hu => by simp only [List.mem_singleton] at hu; subst hu; rfl) (by unfold maxLen; omega) (by omega) (by omega)
  have hC := chg_of_grown q3
  rcases q2.2 with ⟨hv, _⟩ | ⟨g', cap, cur, hv, hb, hg, hr2⟩
  · rw [hv] at q5
    rcases q5 with q5 | q5 <;> cases q5
  · subst hv
    have hlt' : g' < w'.heap.size := by
      rcases Nat.lt_or_ge g' w'.heap.size with e | e
      · exact e
      · rw [Array.getElem?_eq_none e] at hg; cases hg
    have hgg : g' = g ∨ g' = w.heap.size := by
      rcases q5 with q5 | q5
      · left; injection q5
      · right; injection q5
    have hsz := hC.size
    have el : (xss ++ [xs]).length = xss.length + 1 := by simp
    refine ⟨g', cap, w', hr, ⟨by omega, hlt', Nat.le_refl _, vs ++ [.slice B xs.length d'], by simp [h4], ?_, fun j hj => ?_⟩, hC, hgg, fun j hj => ?_, ?_⟩
    · rw [el]
      exact ⟨q2.1, .inr ⟨g', cap, cur, rfl, Nat.le_refl _, hg, hr2⟩⟩
    · rcases Nat.lt_or_ge j xss.length with hj' | hj'
      · obtain ⟨B', d2, e1, e2, e3, e8, e9⟩ := h6 j hj'
        have ej : (xss ++ [xs]).getD j [] = xss.getD j [] := by simp [List.getD, List.getElem?_append_left hj']
        rw [ej]
        refine ⟨B', d2, by rw [List.getElem?_append_left (by omega)]; exact e1, ?_, fun b2 o2 e4 hp => ?_, e8, e9⟩
        · intro hp
          obtain ⟨b2, o2, e4, e5, e6, e7⟩ := e2 hp
          have hne := e3 b2 o2 e4 hp
          exact ⟨b2, o2, e4, e5, by omega, fun i hi => (hC.cell (p := ⟨b2, o2 + i, none⟩) (by show b2 < _; omega) (by show ¬ (g ≤ b2 ∧ b2 < g + 1); omega)).trans (e7 i hi)⟩
        · obtain ⟨b3, o3, e5, e6, e7, _⟩ := e2 hp
          have hne := e3 b2 o2 e4 hp
          rw [e4] at e5; cases e5
          rcases hgg with e | e <;> omega
      · have hj2 : j = xss.length := by rw [el] at hj; omega
        subst hj2
        have ej : (xss ++ [xs]).getD xss.length [] = xs := by simp [List.getD]
        rw [ej]
        refine ⟨B, d', by rw [List.getElem?_append_right (by omega), h4]; simp, ?_, fun b2 o2 e4 hp => ?_, hd, hnn⟩
        · intro hp
          obtain ⟨b2, o2, e4, e5, e6, e7⟩ := hi1 hp
          exact ⟨b2, o2, e4, by omega, by omega, fun i hi => (hC.cell (p := ⟨b2, o2 + i, none⟩) (by show b2 < _; omega) (by show ¬ (g ≤ b2 ∧ b2 < g + 1); omega)).trans (e7 i hi)⟩
        · obtain ⟨b3, o3, e5, e6, e7, _⟩ := hi1 hp
          rw [e4] at e5; cases e5
          rcases hgg with e | e <;> omega
    · rw [q2.cellAt j (by omega), h5.cellAt j (by omega), List.getElem?_append_left (by omega)]
    · rw [q2.cellAt xss.length (by omega), List.getElem?_append_right (by omega), h4]; simp
/-- One row of a table, in a block of its own. -/
def SepAt (w : World) (lb hi g b d j : Nat) (xs : List Int) : Prop :=
  w.cell? ⟨g, j, none⟩ = some (.slice (some ⟨b, 0, none⟩) xs.length d) ∧ Grow w b d xs ∧ lb ≤ b ∧ b < hi ∧ b ≠ g
def Sep (w : World) (lb hi g : Nat) (xss : List (List Int)) : Prop :=
  ∃ bl dl : Nat → Nat, (∀ j, j < xss.length → SepAt w lb hi g (bl j) (dl j) j (xss.getD j [])) ∧ ∀ i j, i < j → j < xss.length → bl i ≠ bl j
theorem Sep.keep {lb' hi' : Nat} (h : Sep w lb hi g xss) (hl : lb' ≤ lb) (hh : hi ≤ hi') (h1 : ∀ j, j < xss.length → w'.cell? ⟨g, j, none⟩ = w.cell? ⟨g, j, none⟩) (h2 : ∀ b d xs, lb ≤ b → b < hi → b ≠ g → Grow w b d xs → Grow w' b d xs) : Sep w' lb' hi' g xss := by
  obtain ⟨bl, dl, e1, e2⟩ := h
  refine ⟨bl, dl, fun j hj => ?_, e2⟩
  obtain ⟨q1, q2, q3, q4, q5⟩ := e1 j hj
  exact ⟨(h1 j hj).trans q1, h2 _ _ _ q3 q4 q5 q2, by omega, by omega, q5⟩
theorem Sep.append {g' b d : Nat} {xs : List Int} (h : Sep w lb hi g xss) (hgh : g < hi) (hs : hi ≤ w.heap.size) (hC : Chg g (g + 1) w w') (hg : g' = g ∨ g' = w.heap.size) (h1 : ∀ j, j < xss.length → w'.cell? ⟨g', j, none⟩ = w.cell? ⟨g, j, none⟩)
    (h2 : w'.cell? ⟨g', xss.length, none⟩ = some (.slice (some ⟨b, 0, none⟩) xs.length d)) (hG : Grow w b d xs) (hb : hi ≤ b) (hlb : lb ≤ hi) : Sep w' lb w'.heap.size g' (xss ++ [xs]) := by
  obtain ⟨bl, dl, e1, e2⟩ := h
  have hz := hC.size
  have hbl := hG.lt
  refine ⟨fun j => if j < xss.length then bl j else b, fun j => if j < xss.length then dl j else d, fun j hj => ?_, fun i j hij hj => ?_⟩
  · rcases Nat.lt_or_ge j xss.length with q | q
    · obtain ⟨q1, q2, q3, q4, q5⟩ := e1 j q
      have ej : (xss ++ [xs]).getD j [] = xss.getD j [] := by simp [List.getD, List.getElem?_append_left q]
      simp only [if_pos q]
      rw [ej]
      exact ⟨(h1 j q).trans q1, q2.chg hC (by omega), q3, by omega, by omega⟩
    · have hj2 : j = xss.length := by simp at hj; omega
      subst hj2
      have ej : (xss ++ [xs]).getD xss.length [] = xs := by simp [List.getD]
      simp only [if_neg (Nat.lt_irrefl _)]
      rw [ej]
      exact ⟨h2, hG.chg hC (by omega), by omega, by omega, by omega⟩
  · simp only [List.length_append, List.length_cons, List.length_nil] at hj
    have hi' : i < xss.length := by omega
    simp only [if_pos hi']
    rcases Nat.lt_or_ge j xss.length with q | q
    · rw [if_pos q]; exact e2 i j hij q
    · rw [if_neg (by omega)]
      obtain ⟨_, _, _, q4, _⟩ := e1 i hi'
      omega
/-- Rows of rows of which none is nil. -/
def GridS (w : World) (lo hi : Nat) (A : Option Addr) (xss : List (List Int)) : Prop :=
  0 < xss.length → ∃ b o, A = some ⟨b, o, none⟩ ∧ lo ≤ b ∧ b < hi ∧ ∀ k, k < xss.length → ∃ b' o' d, w.cell? ⟨b, o + k, none⟩ = some (.slice (some ⟨b', o', none⟩) (xss.getD k []).length d) ∧ Ints w lo hi (some ⟨b', o', none⟩) (xss.getD k []) ∧ (xss.getD k []).length ≤ d
section
variable {A : Option Addr}
theorem GridS.grid (h : GridS w lb hi A xss) : Grid w lb hi A xss := fun hn => by
  obtain ⟨b, o, e, h1, h2, hc⟩ := h hn
  refine ⟨b, o, e, h1, h2, fun k hk => ?_⟩
  obtain ⟨b', o', d, q1, q2, q3⟩ := hc k hk
  exact ⟨_, d, q1, q2, q3⟩
theorem GridS.keep (h : GridS w lb hi A xss) (hk : ∀ p : Addr, lb ≤ p.block → p.block < hi → w'.cell? p = w.cell? p) : GridS w' lb hi A xss := fun hn => by
  obtain ⟨b, o, e, h1, h2, hc⟩ := h hn
  refine ⟨b, o, e, h1, h2, fun k hk' => ?_⟩
  obtain ⟨b', o', d, q1, q2, q3⟩ := hc k hk'
  exact ⟨b', o', d, (hk _ h1 h2).trans q1, q2.keep hk, q3⟩
theorem GridS.below {B : Nat} (h : GridS w lb hi A xss) (hb : Below B w w') (hB : hi ≤ B) : GridS w' lb hi A xss := h.keep fun _ _ hp => hb.cell (by omega)
theorem GridS.chg {l r : Nat} (h : GridS w lb hi A xss) (hc : Chg l r w w') (hs : hi ≤ w.heap.size) (hd : hi ≤ l ∨ r ≤ lb) : GridS w' lb hi A xss := h.keep fun _ h1 h2 => hc.cell (by omega) (by omega)
theorem GridS.alloc (h : GridS w lb hi A xss) (hB : hi ≤ w.heap.size) (o : Obj) : GridS (w.alloc o) lb hi A xss := h.keep fun p _ hp => World.cell?_alloc_lt w o p (by omega)
theorem GridS.drew (h : GridS w lb hi A xss) : GridS w.drew lb hi A xss := h
theorem GridS.drewN (h : GridS w lb hi A xss) (n : Nat) : GridS (w.drewN n) lb hi A xss := h
theorem GridS.more {lo' hi' : Nat} (h : GridS w lb hi A xss) (hl : lo' ≤ lb) (hh : hi ≤ hi') : GridS w lo' hi' A xss := fun hn => by
  obtain ⟨b, o, e, h1, h2, hc⟩ := h hn
  refine ⟨b, o, e, by omega, by omega, fun k hk => ?_⟩
  obtain ⟨b', o', d, q1, q2, q3⟩ := hc k hk
  exact ⟨b', o', d, q1, q2.more hl hh, q3⟩
theorem GridS.at_ {b o : Nat} (h : GridS w lb hi (some ⟨b, o, none⟩) xss) (k : Nat) (hk : k < xss.length) : ∃ b' o' d, w.cell? ⟨b, o + k, none⟩ = some (.slice (some ⟨b', o', none⟩) (xss.getD k []).length d) ∧ Ints w lb hi (some ⟨b', o', none⟩) (xss.getD k []) ∧ (xss.getD k []).length ≤ d := by
  obtain ⟨_, _, e, _, _, hc⟩ := h (by omega)
  cases e
  exact hc k hk
theorem Rows.gridS (h : Rows w true lb hi g c xss) : GridS w lb hi (some ⟨g, 0, none⟩) xss := fun _ =>
  ⟨g, 0, rfl, h.ge, h.lt, fun k hk => by
    obtain ⟨D, d, q1, q2, q3, q4⟩ := h.at_ k hk
    obtain ⟨b, o, rfl⟩ := q4 rfl
    exact ⟨b, o, d, by rw [Nat.zero_add]; exact q1, q2, q3⟩⟩
theorem GridS.take {n : Nat} (hG : GridS w lb hi A xss) : GridS w lb hi A (xss.take n) := fun hp => by
  have hl : (xss.take n).length ≤ xss.length := by rw [List.length_take]; omega
  obtain ⟨b, o, e, h1, h2, hc⟩ := hG (by omega)
  refine ⟨b, o, e, h1, h2, fun k hk => ?_⟩
  have hk' : k < n := by rw [List.length_take] at hk; omega
  have ek : (xss.take n).getD k [] = xss.getD k [] := by simp [List.getD, hk']
  rw [ek]
  exact hc k (by omega)
end
/-- A table: rows of the call's own, each in a block of its own. -/
def RowsS (w : World) (lb hi g c : Nat) (xss : List (List Int)) : Prop := Rows w true lb hi g c xss ∧ Sep w lb hi g xss
theorem RowsS.lt (h : RowsS w lb hi g c xss) : g < hi := h.1.lt
theorem RowsS.ge (h : RowsS w lb hi g c xss) : lb ≤ g := h.1.ge
theorem RowsS.room (h : RowsS w lb hi g c xss) : xss.length ≤ c := h.1.room
theorem RowsS.below {B : Nat} (h : RowsS w lb hi g c xss) (hb : Below B w w') (hB : hi ≤ B) : RowsS w' lb hi g c xss := by
  have hg := h.1.lt
  exact ⟨h.1.below hb hB, h.2.keep (Nat.le_refl _) (Nat.le_refl _) (fun j _ => hb.cell (p := ⟨g, j, none⟩) (by show g < B; omega)) fun b d xs h1 h2 h3 hG => hG.below hb (by omega)⟩
theorem RowsS.chg {l r : Nat} (h : RowsS w lb hi g c xss) (hc : Chg l r w w') (hd : hi ≤ l ∨ r ≤ lb) : RowsS w' lb hi g c xss := by
  have hg := h.1.lt
  have hg2 := h.1.ge
  have hs := h.1.size
  exact ⟨h.1.chg hc hd, h.2.keep (Nat.le_refl _) (Nat.le_refl _) (fun j _ => hc.cell (p := ⟨g, j, none⟩) (by show g < _; omega) (by show ¬ (l ≤ g ∧ g < r); omega)) fun b d xs h1 h2 h3 hG => hG.chg hc (by omega)⟩
theorem RowsS.alloc (h : RowsS w lb hi g c xss) (o : Obj) : RowsS (w.alloc o) lb hi g c xss := h.below ((Below.refl _ _).alloc (Nat.le_refl _) o) h.1.size
theorem RowsS.drew (h : RowsS w lb hi g c xss) : RowsS w.drew lb hi g c xss := ⟨h.1.drew, h.2.keep (Nat.le_refl _) (Nat.le_refl _) (fun _ _ => rfl) fun _ _ _ _ _ _ hG => hG.drew⟩
theorem RowsS.more {lb' hi' : Nat} (h : RowsS w lb hi g c xss) (hl : lb' ≤ lb) (hh : hi ≤ hi') (hs : hi' ≤ w.heap.size) : RowsS w lb' hi' g c xss :=
  ⟨h.1.more hl hh hs, h.2.keep hl hh (fun _ _ => rfl) fun _ _ _ _ _ _ hG => hG⟩
theorem rowsS_lit0 (w : World) : RowsS (w.alloc (.cells #[] 26)) w.heap.size (w.heap.size + 1) w.heap.size 0 [] :=
  ⟨rows_lit0 w true, fun _ => 0, fun _ => 0, fun j hj => absurd hj (by simp), fun i j _ hj => absurd hj (by simp)⟩
theorem RowsS.grid (h : RowsS w lb hi g c xss) : Grid w lb hi (some ⟨g, 0, none⟩) xss := h.1.grid
theorem RowsS.gridS (h : RowsS w lb hi g c xss) : GridS w lb hi (some ⟨g, 0, none⟩) xss := h.1.gridS
/-- One row is put anew: it may have grown in its own block. -/
theorem RowsS.put (h : RowsS w lb hi g c xss) (k : Nat) (hk : k < xss.length) : ∃ b d, w.cell? ⟨g, k, none⟩ = some (.slice (some ⟨b, 0, none⟩) (xss.getD k []).length d) ∧ Grow w b d (xss.getD k []) ∧ lb ≤ b ∧ b < hi ∧ b ≠ g ∧
    ∀ (w1 : World) (b' d' n : Nat) (ys : List Int), ys.length = n → Chg b (b + 1) w w1 → (b' = b ∨ hi ≤ b') → Grow w1 b' d' ys →
      w1.frozen? ⟨g, k, none⟩ = false ∧ w1.cell? ⟨g, k, none⟩ = some (.slice (some ⟨b, 0, none⟩) (xss.getD k []).length d) ∧ GridS (w1.setCell ⟨g, k, none⟩ (.slice (some ⟨b', 0, none⟩) n d')) lb w1.heap.size (some ⟨g, 0, none⟩) (xss.set k ys) := by
  have hgh := h.1.lt
  have hgl := h.1.ge
  have hs := h.1.size
  obtain ⟨hR, bl, dl, e1, e2⟩ := h
  obtain ⟨q1, q2, q3, q4, q5⟩ := e1 k hk
  refine ⟨bl k, dl k, q1, q2, q3, q4, q5, fun w1 b' d' n ys hn hC hb hG => ?_⟩
  subst hn
  have hz := hC.size
  have hl := hG.lt
  have hcell : ∀ j, w1.cell? ⟨g, j, none⟩ = w.cell? ⟨g, j, none⟩ := fun j => hC.cell (p := ⟨g, j, none⟩) (by show g < _; omega) (by show ¬ (bl k ≤ g ∧ g < bl k + 1); omega)
  have hfr : w1.frozen? ⟨g, k, none⟩ = false := by
    obtain ⟨_, _, _, vs, h4, h5, _⟩ := hR
    rw [hC.frozen (p := ⟨g, k, none⟩) (by show g < _; omega) (by show ¬ (bl k ≤ g ∧ g < bl k + 1); omega)]
    exact h5.frozenAt k
  refine ⟨hfr, (hcell k).trans q1, fun _ => ⟨g, 0, rfl, hgl, by omega, fun j hj => ?_⟩⟩
  rw [List.length_set] at hj
  rw [Nat.zero_add]
  have keep : ∀ {x m : Nat} {zs : List Int}, x ≠ g → x < w1.heap.size → lb ≤ x → Grow w1 x m zs → Ints (w1.setCell ⟨g, k, none⟩ (.slice (some ⟨b', 0, none⟩) ys.length d')) lb w1.heap.size (some ⟨x, 0, none⟩) zs := fun hx hx2 hx3 hg hp => by
    obtain ⟨p1, p2, p3, p4, p5, p6⟩ := hg.ints hp
    cases p3
    exact ⟨_, _, rfl, hx3, hx2, fun i hi' => (World.cell?_setCell_other _ _ _ _ (by intro e; injection e with e1; exact hx e1.symm)).trans (p6 i hi')⟩
  by_cases ej : j = k
  · subst ej
    have el : (xss.set j ys).getD j [] = ys := by simp [List.getD, hj]
    rw [el]
    refine ⟨b', 0, d', ?_, keep (by omega) hl (by omega) hG, hG.room⟩
    exact cell_set ((hcell j).trans q1) _
  · obtain ⟨r1, r2, r3, r4, r5⟩ := e1 j hj
    have el : (xss.set k ys).getD j [] = xss.getD j [] := by simp [List.getD, show ¬ k = j from fun z => ej z.symm]
    rw [el]
    have hne : bl j ≠ bl k := by
      rcases Nat.lt_or_gt_of_ne ej with z | z
      · exact e2 j k z hk
      · exact fun y => e2 k j z hj y.symm
    have hG2 := r2.chg hC (by omega)
    refine ⟨bl j, 0, dl j, ?_, keep r5 hG2.lt r3 hG2, hG2.room⟩
    exact cell_set_off ((hcell j).trans r1) ej _
end
section
variable {ops : Array Oper} {rest : List Oper} {o : Oper} {a : Act} {Q : Exit → Act → World → Prop} {w : World}
set_option maxRecDepth 100000 in
/-- append of one row in a block of its own, the new length by a name. -/
theorem append_rowsS (hgd : o.guard = none) (s x : Operand) (ho : o.op = .call { callee := .builtin .append, args := #[s, x], argTypes := #[23, 23] })
    {g n c lb hi : Nat} {xss : List (List Int)} (hs : a.eval s = .slice (some ⟨g, 0, none⟩) n c) (hn : xss.length = n) (hG : RowsS w lb hi g c xss) {b f d d' k b2 : Nat} {xs : List Int} (hx : a.eval x = .slice (some ⟨b, f, none⟩) 1 d)
    (hc : w.cell? ⟨b, f, none⟩ = some (.slice (some ⟨b2, 0, none⟩) k d')) (hk : xs.length = k) (hr : Grow w b2 d' xs) (hb : hi ≤ b2) (hl : n + 1 ≤ 1000000)
    (h : ∀ g' c' L w', Hid (L = n + 1) → L ≤ n + 1 → n + 1 ≤ L → RowsS w' lb w'.heap.size g' c' (xss ++ [xs]) → Chg g (g + 1) w w' → (g' = g ∨ g' = w.heap.size) → wpList Try.prog ops Q rest (a.put o.dst (.slice (some ⟨g', 0, none⟩) L c')) w') : wpList Try.prog ops Q (o :: rest) a w := by
  refine wpList_plain hgd fun K hK => ?_
  have hgl := hG.1.lt
  obtain ⟨g', c', w', hr2, h1, h2, h3, h4, h5⟩ := rows_append_run2 (w := w) hn hG.1 hc hk hr.ints (by omega) hr.lt (by rw [← hk]; exact hr.room) (fun _ => ⟨_, _, rfl⟩) hl o.type
  unfold Oper.wp execOp
  simp only [ho, resolve, invoke, builtin, Sem.run_bind, Sem.run_pure, Result.andThen_ok, List.map_toArray, List.map_cons, List.map_nil, hs, hx]
  rw [hr2]
  exact hK _ _ (h g' c' _ w' rfl (Nat.le_refl _) (Nat.le_refl _) ⟨h1, hG.2.append hgl hG.1.size h2 h3 h4 h5 hr hb (by have e := hG.1.ge; omega)⟩ h2 h3)
end

end Go.Proofs.Ytpdlppmkjkbboaa
