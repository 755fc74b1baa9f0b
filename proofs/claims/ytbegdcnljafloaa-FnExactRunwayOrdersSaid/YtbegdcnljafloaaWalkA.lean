/-
  append of one number to a row that is nil or grown, told apart: where there is room the row stays where it is, else it is new memory and what was there is as before. Premises: lengths that fit.
-/
import Derived.Test.YtbegdcnljafloaaWalk
import Derived.Test.YtbegdcnljafloaaShelf
import Derived.Deep.DeepAppendRoom
import Derived.Deep.DeepAppendWide
namespace Go.Proofs.Ytbegdcnljafloaa
open Go.RowKit

/-- What append of x to such a row leaves. -/
def App (w : World) (A : Option Addr) (c : Nat) (xs : List Int) (x : Int) (g c' : Nat) (w' : World) : Prop :=
  Grow w' g c' (xs ++ [x]) ∧ ((A = some ⟨g, 0, none⟩ ∧ c' = c ∧ Chg g (g + 1) w w') ∨ (g = w.heap.size ∧ Below w.heap.size w w'))
theorem append_told {w : World} {lb c n : Nat} {A : Option Addr} {xs : List Int} {x : Int} (hG : Gro w lb A c n xs) {b f d : Nat} (hc : w.cell? ⟨b, f, none⟩ = some (.int .i64 x)) (hl : n ≤ 1000) (ty : TypeId) :
    ∃ g c' w', (Builtin.append_ #[29, 29] ty #[.slice A n c, .slice (some ⟨b, f, none⟩) 1 d]).run Try.prog w = .ok (.slice (some ⟨g, 0, none⟩) (n + 1) c') w' ∧ App w A c xs x g c' w' := by
  obtain ⟨i0, hi0, hz0, hz1, hz2⟩ := info_parts info_int
  have hc' : ∀ j, j < ([x] : List Int).length → w.cell? ⟨b, f + j, none⟩ = some (.int .i64 (([x] : List Int).getD j 0)) := fun j hj => by
    obtain rfl : j = 0 := by simpa using hj
    exact hc
  rcases hG with ⟨rfl, rfl, rfl, rfl⟩ | ⟨g, rfl, hlb, hn, h0, hg⟩
  · obtain ⟨c', w', hr, h1, h2⟩ := append_nil_run (w := w) (ys := [x]) (b := b) (f := f) (d := d) (m := 1) rfl (by omega) hc' (by omega) ty
    exact ⟨_, c', w', hr, h1, .inr ⟨rfl, h2⟩⟩
  · subst hn
    have e1 : ints xs ++ ints [x] = ints (xs ++ [x]) := by simp [ints]
    by_cases hroom : xs.length + 1 ≤ c
    · obtain ⟨w', hr, h2, h3⟩ := run_append_own_spare (P := Try.prog) (w := w) g 29 ty 3 i0 1 Try.underlying29 hi0 hz1 g xs.length c (ints xs) hg.1 ⟨b, f, none⟩ 1 d (ints [x]) (by simp [ints_length]) (news_of hc') (ints_one [x]) hroom
      refine ⟨g, c, w', hr, ⟨?_, ?_⟩, .inl ⟨rfl, rfl, chg_of_grown h3⟩⟩
      · have e2 : xs.length + 1 = (xs ++ [x]).length := by simp
        rw [← e1, ← e2]; exact h2
      · exact Nat.lt_of_lt_of_le hg.2 h3.size
    · obtain ⟨g', c', w', hr, h1, h2, h3⟩ := append_run (w := w) (xs := xs) (ys := [x]) rfl hg (b := b) (f := f) (d := d) (m := 1) rfl hc' (by omega) ty
      have hr2 := run_append_grow (P := Try.prog) w 29 ty 3 i0 (.int .i64 0) Try.underlying29 hi0 hz0 ⟨g, 0, none⟩ xs.length c (ints xs) (by rw [ints_length, hz1, Nat.mul_one]) (hg.1.cells (g := g) rfl) ⟨b, f, none⟩ 1 d (ints [x]) (by rw [ints_length, hz1]; rfl) (news_of hc') (by omega) (by omega) (growslice_fits_wide (by omega) (by rw [hz2]; omega))
      rw [hr] at hr2
      injection hr2 with e2 e3
      injection e2 with e2 _ e4
      injection e2 with e2
      injection e2 with e2 _ _
      subst e2
      refine ⟨w.heap.size, c', w', hr, h1, .inr ⟨rfl, ?_⟩⟩
      rw [e3]
      exact (Below.refl _ w).drew.alloc (Nat.le_refl _) _
section
variable {ops : Array Oper} {rest : List Oper} {o : Oper} {a : Act} {Q : Exit → Act → World → Prop} {w : World}
/-- At a plain region's list. -/
theorem append_app (hgd : o.guard = none) (s x : Operand) (ho : o.op = .call { callee := .builtin .append, args := #[s, x], argTypes := #[29, 29] })
    {lb n c : Nat} {A : Option Addr} {xs : List Int} (hs : a.eval s = .slice A n c) (hG : Gro w lb A c n xs) {b f d : Nat} {y : Int} (hx : a.eval x = .slice (some ⟨b, f, none⟩) 1 d)
    (hc : w.cell? ⟨b, f, none⟩ = some (.int .i64 y)) (hl : n ≤ 1000)
    (h : ∀ g c' w', App w A c xs y g c' w' → wpList Try.prog ops Q rest (a.put o.dst (.slice (some ⟨g, 0, none⟩) (n + 1) c')) w') : wpList Try.prog ops Q (o :: rest) a w := by
  refine wpList_plain hgd fun K hK => ?_
  obtain ⟨g, c', w', hr, h1⟩ := append_told (w := w) hG (b := b) (f := f) (d := d) hc hl o.type
  unfold Oper.wp execOp
  simp only [ho, resolve, invoke, builtin, Sem.run_bind, Sem.run_pure, Result.andThen_ok, List.map_toArray, List.map_cons, List.map_nil, hs, hx, hr]
  exact hK _ _ (h g c' w' h1)
end
/-- slices.Contains of such a row. -/
theorem contains_gro {w : World} {lb c n : Nat} {A : Option Addr} {xs : List Int} (hG : Gro w lb A c n xs) (hl : n ≤ 1000) (x : Int) :
    Calls Try.prog 92 #[.slice A n c, .int .i64 x] w fun e w' => e = .returned (.bool (xs.contains x)) ∧ w = w' := by
  rcases hG with ⟨rfl, rfl, rfl, rfl⟩ | ⟨g, rfl, hlb, hn, h0, hg⟩
  · exact (Try.slices_Contains_int_empty none 0 x w).mono fun _ _ ⟨e, r⟩ => ⟨e, r.symm⟩
  · subst hn
    have e := Try.slices_Contains_int g 0 xs.length c xs x w (Nat.le_refl _) (by omega) (fun j hj => by rw [Nat.zero_add]; exact hg.at_ j hj)
    rw [List.take_length] at e
    exact e.mono fun _ _ ⟨e, r⟩ => ⟨e, r.symm⟩
/-- Behind an append and all that was done with the longer row: the row is as it was, and what else may have turned. -/
theorem walk_back {w w1 w2 : World} {G lb c c' n g : Nat} {A : Option Addr} {xs : List Int} {x : Int} (hG : Gro w lb A c n xs) (ha : App w A c xs x g c' w1) (hk : Wk G (some ⟨g, 0, none⟩) w1 w2) (h2 : Grow w2 g c' (xs ++ [x])) (hS : G < lb) :
    Wk G A w w2 ∧ Gro w2 lb A c n xs := by
  rcases ha.2 with ⟨rfl, rfl, hc⟩ | ⟨rfl, hb⟩
  · refine ⟨(Wk.of_own hc rfl).trans hk, ?_⟩
    rcases hG with ⟨e, _⟩ | ⟨g', e, h1, h3, h4, h5⟩
    · cases e
    · exact .inr ⟨g', e, h1, h3, h4, by
        injection e with e; injection e with e _ _; subst e; exact grow_first h2⟩
  · have hw : Wk G A w w2 := hk.of_new (Wk.of_below hb) (Nat.le_refl _)
    refine ⟨hw, ?_⟩
    rcases hG with h | ⟨g', rfl, h1, h3, h4, h5⟩
    · exact .inl h
    · refine .inr ⟨g', rfl, h1, h3, h4, ?_⟩
      have l5 := h5.lt
      have q := h5.below hb l5
      exact hk.grow q (by omega) (by intro e; injection e with e; injection e with e _ _; omega)
theorem Gro.alloc {w : World} {lb c n : Nat} {A : Option Addr} {xs : List Int} (h : Gro w lb A c n xs) (o : Obj) : Gro (w.alloc o) lb A c n xs := by
  rcases h with h | ⟨g, e, h1, h3, h4, h5⟩
  · exact .inl h
  · exact .inr ⟨g, e, h1, h3, h4, h5.alloc o⟩
theorem Gro.at_block {w : World} {lb c n k : Nat} {A : Option Addr} {xs : List Int} (h : Gro w lb A c n xs) (e : A = some ⟨k, 0, none⟩) : lb ≤ k := by
  rcases h with ⟨e', _⟩ | ⟨g, e', h1, _⟩
  · rw [e'] at e; cases e
  · rw [e'] at e; injection e with e; injection e with e _ _; omega
theorem Gro.longer {w w' : World} {lb c c' n g : Nat} {A : Option Addr} {xs : List Int} {x : Int} (h : Gro w lb A c n xs) (ha : App w A c xs x g c' w') (hs : lb ≤ w.heap.size) : Gro w' lb (some ⟨g, 0, none⟩) c' (n + 1) (xs ++ [x]) := by
  refine .inr ⟨g, rfl, ?_, ?_, by omega, ha.1⟩
  · rcases ha.2 with ⟨rfl, _⟩ | ⟨rfl, _⟩
    · exact h.at_block rfl
    · exact hs
  · rcases h with ⟨_, _, rfl, rfl⟩ | ⟨_, _, _, rfl, _⟩ <;> simp
theorem Gro.len {w : World} {lb c n : Nat} {A : Option Addr} {xs : List Int} (h : Gro w lb A c n xs) : xs.length = n := by
  rcases h with ⟨_, _, rfl, rfl⟩ | ⟨_, _, _, e, _⟩
  · rfl
  · exact e
theorem Gro.ints {w : World} {lb c n : Nat} {A : Option Addr} {xs : List Int} (h : Gro w lb A c n xs) : Ints w lb w.heap.size A xs := by
  rcases h with ⟨_, _, rfl, rfl⟩ | ⟨g, rfl, h1, _, _, h5⟩
  · exact Ints.nil
  · exact h5.ints.more h1 h5.lt

end Go.Proofs.Ytbegdcnljafloaa
