/-
  Rows of numbers that a call owns, block by block: made empty or of one number, grown by append, read, carried over what others do. Premises: lengths that fit.
-/
import Derived.Test.YtbegdcnljafloaaFx
import Derived.Test.YtbegdcnljafloaaGA
import Derived.Deep.AppendLies
namespace Go.Proofs.Ytbegdcnljafloaa
open Go.RowKit

/-- The block g is the call's own, and holds xs at its start, with room for c. -/
def Grow (w : World) (g c : Nat) (xs : List Int) : Prop :=
  w.ownsRow g 3 1 (.slice (some ⟨g, 0, none⟩) xs.length c) xs.length (ints xs) ∧ g < w.heap.size
theorem Grow.lt {w : World} {g c : Nat} {xs : List Int} (h : Grow w g c xs) : g < w.heap.size := h.2
theorem Grow.own {w : World} {g c : Nat} {xs : List Int} (h : Grow w g c xs) : Own w g (g + 1) (some ⟨g, 0, none⟩) xs := by
  obtain ⟨A, c', e1, _, ho⟩ := own_of_row h.1
  injection e1 with e1 _ _
  subst e1
  intro hn
  obtain ⟨b, o, e, h1, h2, h3, h4⟩ := ho hn
  cases e
  exact ⟨g, 0, rfl, Nat.le_refl _, Nat.lt_succ_self _, h3, h4⟩
theorem Grow.ints {w : World} {g c : Nat} {xs : List Int} (h : Grow w g c xs) : Ints w g (g + 1) (some ⟨g, 0, none⟩) xs := h.own.ints
theorem Grow.room {w : World} {g c : Nat} {xs : List Int} (h : Grow w g c xs) : xs.length ≤ c := by
  rcases h.1.2 with ⟨e, _⟩ | ⟨g', cap, cur, e, _, _, hn, _⟩
  · cases e
  · injection e with _ _ e3; omega
theorem Grow.chg {w w' : World} {g c lo hi : Nat} {xs : List Int} (h : Grow w g c xs) (hc : Chg lo hi w w') (hd : ¬ (lo ≤ g ∧ g < hi)) : Grow w' g c xs := by
  refine ⟨⟨h.1.1, ?_⟩, Nat.lt_of_lt_of_le h.2 hc.size⟩
  rcases h.1.2 with ⟨e, _⟩ | ⟨g', cap, cur, e, hb, hg, r⟩
  · cases e
  · have e' := e
    injection e with e1 _ _
    injection e1 with e1
    injection e1 with e1 _ _
    subst e1
    exact .inr ⟨g, cap, cur, e', hb, (hc.block g h.2 hd).trans hg, r⟩
theorem Grow.below {w w' : World} {g c B : Nat} {xs : List Int} (h : Grow w g c xs) (hb : Below B w w') (hB : g < B) : Grow w' g c xs := by
  refine ⟨⟨h.1.1, ?_⟩, Nat.lt_of_lt_of_le h.2 hb.size⟩
  rcases h.1.2 with ⟨e, _⟩ | ⟨g', cap, cur, e, hb', hg, r⟩
  · cases e
  · have e' := e
    injection e with e1 _ _
    injection e1 with e1
    injection e1 with e1 _ _
    subst e1
    exact .inr ⟨g, cap, cur, e', hb', (hb.block g hB).trans hg, r⟩
theorem Grow.alloc {w : World} {g c : Nat} {xs : List Int} (h : Grow w g c xs) (o : Obj) : Grow (w.alloc o) g c xs := ⟨h.1.alloc o, by have := h.2; simp; omega⟩
theorem Grow.drewN {w : World} {g c : Nat} {xs : List Int} (h : Grow w g c xs) (n : Nat) : Grow (w.drewN n) g c xs := h
theorem Grow.drew {w : World} {g c : Nat} {xs : List Int} (h : Grow w g c xs) : Grow w.drew g c xs := h
/-- A row written out is the call's own. -/
theorem grow_lit (w : World) (xs : List Int) (hl : xs.length ≤ 1000000) : Grow (w.alloc (.cells (ints xs).toArray 3)) w.heap.size xs.length xs :=
  ⟨⟨by simp [ints_length], .inr ⟨w.heap.size, xs.length, (ints xs).toArray, rfl, Nat.le_refl _, heap_alloc_new w _, Nat.le_refl _, by unfold maxLen; omega, by simp [ints_length], by simp [ints_length, List.take_of_length_le]⟩⟩, by simp⟩
theorem grow_lit0 (w : World) : Grow (w.alloc (.cells #[] 3)) w.heap.size 0 [] := grow_lit w [] (by simp)
theorem grow_lit1 (w : World) (x : Int) : Grow (w.alloc (.cells #[.int .i64 x] 3)) w.heap.size 1 [x] := grow_lit w [x] (by simp)

theorem Grow.at_ {w : World} {g c : Nat} {xs : List Int} (h : Grow w g c xs) (k : Nat) (hk : k < xs.length) : w.cell? ⟨g, k, none⟩ = some (.int .i64 (xs.getD k 0)) := by
  have e := h.ints.at2 k hk
  rw [Nat.zero_add] at e; exact e
theorem Grow.soft {w : World} {g c : Nat} {xs : List Int} (h : Grow w g c xs) (k : Nat) (_hk : k < xs.length) : w.frozen? ⟨g, k, none⟩ = false := h.1.frozenAt k
theorem Grow.store {w : World} {g c : Nat} {xs : List Int} (h : Grow w g c xs) (k : Nat) (x : Int) : Grow (w.setCell ⟨g, k, none⟩ (.int .i64 x)) g c (xs.set k x) := by
  have h1 := (h.1.stored k (.int .i64 x)).1
  rw [← ints_set] at h1
  exact ⟨by rw [List.length_set]; exact h1, by have := h.2; simpa [World.setCell] using this⟩
theorem retInts_grow {w w' : World} {g c : Nat} {xs : List Int} (h : Grow w' g c xs) (hb : w.heap.size ≤ g) {n : Nat} (hn : n = xs.length) (hB : Below w.heap.size w w') : RetInts w xs (.returned (.slice (some ⟨g, 0, none⟩) n c)) w' := by
  subst hn
  exact ⟨some ⟨g, 0, none⟩, c, rfl, h.own.more hb h.2, hB⟩
theorem take_read {w : World} {b f k : Nat} {xs : List Int} (h : ∀ j, j < xs.length → w.cell? ⟨b, f + j, none⟩ = some (.int .i64 (xs.getD j 0))) (hk : k ≤ xs.length) : ∀ j, j < (xs.take k).length → w.cell? ⟨b, f + j, none⟩ = some (.int .i64 ((xs.take k).getD j 0)) := fun j hj => by
  have e : j < k := by rw [List.length_take] at hj; omega
  rw [h j (by omega)]
  simp [List.getD_eq_getElem?_getD, e]
theorem drop_read {w : World} {b f k : Nat} {xs : List Int} (h : ∀ j, j < xs.length → w.cell? ⟨b, f + j, none⟩ = some (.int .i64 (xs.getD j 0))) : ∀ j, j < (xs.drop k).length → w.cell? ⟨b, f + k + j, none⟩ = some (.int .i64 ((xs.drop k).getD j 0)) := fun j hj => by
  rw [List.length_drop] at hj
  have e := h (k + j) (by omega)
  rw [Nat.add_assoc, e]
  simp [List.getD_eq_getElem?_getD, List.getElem?_drop]
theorem drop_read0 {w : World} {b k : Nat} {xs : List Int} (h : ∀ j, j < xs.length → w.cell? ⟨b, 0 + j, none⟩ = some (.int .i64 (xs.getD j 0))) : ∀ j, j < (xs.drop k).length → w.cell? ⟨b, k + j, none⟩ = some (.int .i64 ((xs.drop k).getD j 0)) := fun j hj => by
  have e := drop_read (f := 0) (k := k) h j hj
  rw [Nat.zero_add] at e; exact e
theorem slice_n {A : Option Addr} {n m c : Nat} (h : n = m) : Value.slice A n c = Value.slice A m c := by rw [h]
theorem chg_of_grown {w w' : World} {g : Nat} (h : w.grownBy w' (some g)) : Chg g (g + 1) w w' :=
  ⟨h.os, h.tape, h.output, h.size, fun k hk hn => h.block k hk (fun e => by injection e with e; omega)⟩
theorem chg_of_grown_none {w w' : World} (h : w.grownBy w' none) : Below w.heap.size w w' :=
  ⟨h.os, h.tape, h.output, h.size, fun k hk => h.block k hk (fun e => by cases e)⟩
theorem news_of {w : World} {b f : Nat} {ys : List Int} (hc : ∀ j, j < ys.length → w.cell? ⟨b, f + j, none⟩ = some (.int .i64 (ys.getD j 0))) : ∀ j u, (ints ys)[j]? = some u → w.cell? ((⟨b, f, none⟩ : Addr).add j) = some u := fun j u hu => by
  have hj : j < ys.length := by
    have := (List.getElem?_eq_some_iff.1 hu).1
    rwa [ints_length] at this
  rw [ints_at ys j hj] at hu
  rw [addr_add, hc j hj, hu]
theorem Ints.read {w : World} {lo hi b f : Nat} {ys : List Int} (h : Ints w lo hi (some ⟨b, f, none⟩) ys) : ∀ j, j < ys.length → w.cell? ⟨b, f + j, none⟩ = some (.int .i64 (ys.getD j 0)) := fun j hj => h.at2 j hj

/-- append to a row of the call's own: what it hands back, and where that lies. -/
theorem append_run {w : World} {g n c : Nat} {xs ys : List Int} (hn : xs.length = n) (hG : Grow w g c xs) {b f m d : Nat} (hm : ys.length = m)
    (hc : ∀ j, j < ys.length → w.cell? ⟨b, f + j, none⟩ = some (.int .i64 (ys.getD j 0))) (hl : n + m ≤ 1000000) (ty : TypeId) :
    ∃ g' c' w', (Builtin.append_ #[29, 29] ty #[.slice (some ⟨g, 0, none⟩) n c, .slice (some ⟨b, f, none⟩) m d]).run Try.prog w = .ok (.slice (some ⟨g', 0, none⟩) (n + m) c') w' ∧
      Grow w' g' c' (xs ++ ys) ∧ Chg g (g + 1) w w' ∧ (g' = g ∨ g' = w.heap.size) := by
  obtain ⟨i0, hi0, hz0, hz1, hz2⟩ := info_parts info_int
  subst hn
  subst hm
  have hlt := hG.2
  obtain ⟨v', w', hr, h2, h3, h4, h5⟩ := run_append_own_at (P := Try.prog) w g 29 ty 3 i0 (.int .i64 0) 1 8 Try.underlying29 hi0 hz0 hz1 hz2 rfl (by decide) (.slice (some ⟨g, 0, none⟩) xs.length c) xs.length (ints xs) hG.1 ⟨b, f, none⟩ ys.length d (ints ys) (by rw [ints_length]; omega) (news_of hc) (ints_one ys) (by unfold maxLen; omega) (by omega) (by omega)
  have hC := chg_of_grown h3
  have e1 : ints xs ++ ints ys = ints (xs ++ ys) := by simp [ints]
  have e2 : xs.length + ys.length = (xs ++ ys).length := by simp
  rcases h2.2 with ⟨hv, _⟩ | ⟨g', cap, cur, hv, hb, hg, hr2⟩
  · rw [hv] at h5
    rcases h5 with h5 | h5 <;> cases h5
  · subst hv
    have hlt' : g' < w'.heap.size := by
      rcases Nat.lt_or_ge g' w'.heap.size with e | e
      · exact e
      · rw [Array.getElem?_eq_none e] at hg; cases hg
    refine ⟨g', cap, w', hr, ⟨?_, hlt'⟩, hC, ?_⟩
    · rw [← e1, ← e2]
      exact ⟨h2.1, .inr ⟨g', cap, cur, rfl, Nat.le_refl _, hg, hr2⟩⟩
    · rcases h5 with h5 | h5
      · left; injection h5
      · right; injection h5
/-- append to nil: new memory. -/
theorem append_nil_run {w : World} {ys : List Int} {b f m d : Nat} (hm : ys.length = m) (h0 : 0 < m)
    (hc : ∀ j, j < ys.length → w.cell? ⟨b, f + j, none⟩ = some (.int .i64 (ys.getD j 0))) (hl : m ≤ 1000000) (ty : TypeId) :
    ∃ c' w', (Builtin.append_ #[29, 29] ty #[.slice none 0 0, .slice (some ⟨b, f, none⟩) m d]).run Try.prog w = .ok (.slice (some ⟨w.heap.size, 0, none⟩) m c') w' ∧
      Grow w' w.heap.size c' ys ∧ Below w.heap.size w w' := by
  obtain ⟨i0, hi0, hz0, hz1, hz2⟩ := info_parts info_int
  subst hm
  obtain ⟨g, cap, w', hr, h2, h3, h5, hlt⟩ := run_append_lies (P := Try.prog) w 29 ty w.heap.size 3 i0 (.int .i64 0) 1 8 Try.underlying29 hi0 hz0 hz1 hz2 rfl (by decide) (.slice none 0 0) 0 [] (World.ownsRow_nil _ _ _ _) ⟨b, f, none⟩ ys.length d (ints ys) (by rw [ints_length]; omega) (news_of hc) (ints_one ys) h0 (by unfold maxLen; omega) (by omega) (Nat.le_refl _) w.heap.size rfl
  rcases h5 with h5 | h5
  · cases h5
  · subst h5
    rw [Nat.zero_add, List.nil_append] at h2
    rw [Nat.zero_add] at hr
    exact ⟨cap, w', hr, ⟨h2, hlt⟩, chg_of_grown_none h3⟩

section
variable {ops : Array Oper} {rest : List Oper} {o : Oper} {a : Act} {Q : Exit → Act → World → Prop} {w : World}
/-- At a plain region's list. -/
theorem append_gr (hgd : o.guard = none) (s x : Operand) (ho : o.op = .call { callee := .builtin .append, args := #[s, x], argTypes := #[29, 29] })
    {g n c : Nat} {xs ys : List Int} (hs : a.eval s = .slice (some ⟨g, 0, none⟩) n c) (hn : xs.length = n) (hG : Grow w g c xs) {b f m d : Nat} (hx : a.eval x = .slice (some ⟨b, f, none⟩) m d) (hm : ys.length = m)
    (hc : ∀ j, j < ys.length → w.cell? ⟨b, f + j, none⟩ = some (.int .i64 (ys.getD j 0))) (hl : n + m ≤ 1000000)
    (h : ∀ g' c' w', Grow w' g' c' (xs ++ ys) → Chg g (g + 1) w w' → (g' = g ∨ g' = w.heap.size) → wpList Try.prog ops Q rest (a.put o.dst (.slice (some ⟨g', 0, none⟩) (n + m) c')) w') : wpList Try.prog ops Q (o :: rest) a w := by
  refine wpList_plain hgd fun K hK => ?_
  obtain ⟨g', c', w', hr, h1, h2, h3⟩ := append_run (w := w) hn hG (b := b) (f := f) (d := d) hm hc hl o.type
  unfold Oper.wp execOp
  simp only [ho, resolve, invoke, builtin, Sem.run_bind, Sem.run_pure, Result.andThen_ok, List.map_toArray, List.map_cons, List.map_nil, hs, hx, hr]
  exact hK _ _ (h g' c' w' h1 h2 h3)
theorem append_gr_nil (hgd : o.guard = none) (s x : Operand) (ho : o.op = .call { callee := .builtin .append, args := #[s, x], argTypes := #[29, 29] })
    {ys : List Int} (hs : a.eval s = .slice none 0 0) {b f m d : Nat} (hx : a.eval x = .slice (some ⟨b, f, none⟩) m d) (hm : ys.length = m) (h0 : 0 < m)
    (hc : ∀ j, j < ys.length → w.cell? ⟨b, f + j, none⟩ = some (.int .i64 (ys.getD j 0))) (hl : m ≤ 1000000)
    (h : ∀ c' w', Grow w' w.heap.size c' ys → Below w.heap.size w w' → wpList Try.prog ops Q rest (a.put o.dst (.slice (some ⟨w.heap.size, 0, none⟩) m c')) w') : wpList Try.prog ops Q (o :: rest) a w := by
  refine wpList_plain hgd fun K hK => ?_
  obtain ⟨c', w', hr, h1, h2⟩ := append_nil_run (w := w) (b := b) (f := f) (d := d) hm h0 hc hl o.type
  unfold Oper.wp execOp
  simp only [ho, resolve, invoke, builtin, Sem.run_bind, Sem.run_pure, Result.andThen_ok, List.map_toArray, List.map_cons, List.map_nil, hs, hx, hr]
  exact hK _ _ (h c' w' h1 h2)
/-- At a step of a region that draws its order. -/
theorem step_gr {K : Act → World → Prop} {E : Prop} (hgd : o.guard = none) (s x : Operand) (ho : o.op = .call { callee := .builtin .append, args := #[s, x], argTypes := #[29, 29] })
    {g n c : Nat} {xs ys : List Int} (hs : a.eval s = .slice (some ⟨g, 0, none⟩) n c) (hn : xs.length = n) (hG : Grow w g c xs) {b f m d : Nat} (hx : a.eval x = .slice (some ⟨b, f, none⟩) m d) (hm : ys.length = m)
    (hc : ∀ j, j < ys.length → w.cell? ⟨b, f + j, none⟩ = some (.int .i64 (ys.getD j 0))) (hl : n + m ≤ 1000000)
    (h : ∀ g' c' w', Grow w' g' c' (xs ++ ys) → Chg g (g + 1) w w' → (g' = g ∨ g' = w.heap.size) → K (a.put o.dst (.slice (some ⟨g', 0, none⟩) (n + m) c')) w') :
    if Region.wanted o (yielded ops a.tmps) = true then Oper.wp Try.prog o a w K Q else E := by
  have hw : Region.wanted o (yielded ops a.tmps) = true := by simp [Region.wanted, hgd]
  rw [if_pos hw]
  obtain ⟨g', c', w', hr, h1, h2, h3⟩ := append_run (w := w) hn hG (b := b) (f := f) (d := d) hm hc hl o.type
  unfold Oper.wp execOp
  simp only [ho, resolve, invoke, builtin, Sem.run_bind, Sem.run_pure, Result.andThen_ok, List.map_toArray, List.map_cons, List.map_nil, hs, hx, hr]
  exact h g' c' w' h1 h2 h3
/-- make of so many numbers: new memory of the call's own, all 0. -/
theorem make_gr (hgd : o.guard = none) (s t : Operand) (ho : o.op = .makeSlice 29 s t) {n : Nat} {x : Int} (hx : x = (n : Int)) (hs : a.eval s = .int .i64 x) (ht : a.eval t = .int .i64 x) (hn : n ≤ 1000000000)
    (h : ∀ w', Grow w' w.heap.size n (List.replicate n 0) → Below w.heap.size w w' → wpList Try.prog ops Q rest (a.put o.dst (.slice (some ⟨w.heap.size, 0, none⟩) n n)) w') : wpList Try.prog ops Q (o :: rest) a w := by
  obtain ⟨i0, hi0, hq0, hq1, hq2⟩ := info_parts info_int
  refine wpList_make_full w hgd s t _ ho w.heap.size 3 i0 (.int .i64 0) 1 Try.underlying29 hi0 hq0 hq1 .i64 .i64 x x n hs ht hx hx (by rw [hq2]; omega) (by unfold maxLen; omega) (Nat.le_refl _) (fun w' hown hgr => h w' ?_ ((Below.refl _ _).grown hgr (Nat.le_refl _) (by intro k hk; cases hk)))
  have h1 := fill_start (R := List.replicate n 0) (by simp) hown
  rw [fillTo_zero, List.length_replicate] at h1
  have e : (List.replicate n (0 : Int)).length = n := by simp
  refine ⟨by rw [e]; exact h1, ?_⟩
  rcases h1.2 with ⟨hv, _⟩ | ⟨g', cap, cur, hv, hb, hg, _⟩
  · cases hv
  · injection hv with hv _ _
    injection hv with hv
    injection hv with hv _ _
    subst hv
    rcases Nat.lt_or_ge w.heap.size w'.heap.size with e | e
    · exact e
    · rw [Array.getElem?_eq_none e] at hg; cases hg
end

end Go.Proofs.Ytbegdcnljafloaa
