/-
  Words for slices of numbers in memory, and plain facts on lists of numbers. No condition.
-/
import Derived.WalkKit
import Derived.WalkSpells
import Derived.WalkLawsBesides
import Derived.Lib.Hide
import Derived.IntWalk
namespace Go.Proofs.Ytilhholjbjhaeaa
open Go.RowKit

theorem getD_of_lt (xs : List Int) (k : Nat) (h : k < xs.length) : xs.getD k 0 = xs[k] := by simp [List.getD, List.getElem?_eq_getElem h]

/-- The slice at A reads as xs, in a block from lo on and below hi. -/
def Ints (w : World) (lo hi : Nat) (A : Option Addr) (xs : List Int) : Prop :=
  0 < xs.length → ∃ b o, A = some ⟨b, o, none⟩ ∧ lo ≤ b ∧ b < hi ∧ ∀ j, j < xs.length → w.cell? ⟨b, o + j, none⟩ = some (.int .i64 (xs.getD j 0))

/-- As Ints, and not frozen. -/
def Own (w : World) (lo hi : Nat) (A : Option Addr) (xs : List Int) : Prop :=
  0 < xs.length → ∃ b o, A = some ⟨b, o, none⟩ ∧ lo ≤ b ∧ b < hi ∧ (∀ j, j < xs.length → w.cell? ⟨b, o + j, none⟩ = some (.int .i64 (xs.getD j 0))) ∧ ∀ j, j < xs.length → w.frozen? ⟨b, o + j, none⟩ = false

/-- Small numbers: sums of few of them never wrap. -/
def Small (xs : List Int) : Prop := xs.length ≤ 1048576 ∧ ∀ x ∈ xs, -1000000 ≤ x ∧ x ≤ 1000000

section
variable {w w' : World} {lo hi B : Nat} {A : Option Addr} {xs : List Int}
theorem Ints.nil : Ints w lo hi A [] := fun h => absurd h (by simp)
theorem Ints.at_ {k : Nat} (h : Ints w lo hi A xs) (hk : k < xs.length) : ∃ b o, A = some ⟨b, o, none⟩ ∧ lo ≤ b ∧ b < hi ∧ w.cell? ⟨b, o + k, none⟩ = some (.int .i64 (xs[k]'hk)) := by
  obtain ⟨b, o, e, h1, h2, hc⟩ := h (by omega)
  exact ⟨b, o, e, h1, h2, by rw [hc k hk, getD_of_lt xs k hk]⟩
theorem Ints.keep (h : Ints w lo hi A xs) (hk : ∀ p : Addr, lo ≤ p.block → p.block < hi → w'.cell? p = w.cell? p) : Ints w' lo hi A xs := fun hn => by
  obtain ⟨b, o, e, h1, h2, hc⟩ := h hn
  exact ⟨b, o, e, h1, h2, fun j hj => (hk _ h1 h2).trans (hc j hj)⟩
theorem Ints.more {lo' hi' : Nat} (h : Ints w lo hi A xs) (hl : lo' ≤ lo) (hh : hi ≤ hi') : Ints w lo' hi' A xs := fun hn => by
  obtain ⟨b, o, e, h1, h2, hc⟩ := h hn
  exact ⟨b, o, e, by omega, by omega, hc⟩
theorem Ints.below (h : Ints w lo hi A xs) (hb : Below B w w') (hB : hi ≤ B) : Ints w' lo hi A xs := h.keep fun _ _ hp => hb.cell (by omega)
theorem Ints.alloc (h : Ints w lo hi A xs) (hB : hi ≤ w.heap.size) (o : Obj) : Ints (w.alloc o) lo hi A xs := h.keep fun p _ hp => World.cell?_alloc_lt w o p (by omega)
theorem Ints.drew (h : Ints w lo hi A xs) : Ints w.drew lo hi A xs := h
theorem Ints.drewN (h : Ints w lo hi A xs) (n : Nat) : Ints (w.drewN n) lo hi A xs := h
theorem Own.ints (h : Own w lo hi A xs) : Ints w lo hi A xs := fun hn => by
  obtain ⟨b, o, e, h1, h2, hc, _⟩ := h hn
  exact ⟨b, o, e, h1, h2, hc⟩
theorem Own.nil : Own w lo hi A [] := fun h => absurd h (by simp)
theorem Own.at_ {k : Nat} (h : Own w lo hi A xs) (hk : k < xs.length) : ∃ b o, A = some ⟨b, o, none⟩ ∧ lo ≤ b ∧ b < hi ∧ w.cell? ⟨b, o + k, none⟩ = some (.int .i64 (xs[k]'hk)) ∧ w.frozen? ⟨b, o + k, none⟩ = false := by
  obtain ⟨b, o, e, h1, h2, hc, hf⟩ := h (by omega)
  exact ⟨b, o, e, h1, h2, by rw [hc k hk, getD_of_lt xs k hk], hf k hk⟩
theorem Own.keep (h : Own w lo hi A xs) (hk : ∀ p : Addr, lo ≤ p.block → p.block < hi → w'.cell? p = w.cell? p) (hf' : ∀ p : Addr, lo ≤ p.block → p.block < hi → w'.frozen? p = w.frozen? p) : Own w' lo hi A xs := fun hn => by
  obtain ⟨b, o, e, h1, h2, hc, hf⟩ := h hn
  exact ⟨b, o, e, h1, h2, fun j hj => (hk _ h1 h2).trans (hc j hj), fun j hj => (hf' _ h1 h2).trans (hf j hj)⟩
theorem Own.more {lo' hi' : Nat} (h : Own w lo hi A xs) (hl : lo' ≤ lo) (hh : hi ≤ hi') : Own w lo' hi' A xs := fun hn => by
  obtain ⟨b, o, e, h1, h2, hc⟩ := h hn
  exact ⟨b, o, e, by omega, by omega, hc⟩
theorem Own.below (h : Own w lo hi A xs) (hb : Below B w w') (hB : hi ≤ B) : Own w' lo hi A xs := h.keep (fun _ _ hp => hb.cell (by omega)) (fun _ _ hp => hb.frozen (by omega))
end

theorem bcell {W w1 : World} (hb : Below W.heap.size W w1) : (∀ b o, b < W.heap.size → w1.cell? ⟨b, o, none⟩ = W.cell? ⟨b, o, none⟩) ∧ (∀ b o, b < W.heap.size → w1.frozen? ⟨b, o, none⟩ = W.frozen? ⟨b, o, none⟩) :=
  ⟨fun b o h => hb.cell (p := ⟨b, o, none⟩) h, fun b o h => hb.frozen (p := ⟨b, o, none⟩) h⟩

/-- Two cells of one block stay as they were. -/
theorem keep2 {B : Nat} {W w1 : World} (hb : Below B W w1) {b : Nat} {u v : Value} (h : W.cell? ⟨b, 0, none⟩ = some u ∧ W.cell? ⟨b, 1, none⟩ = some v) (hB : b < B) : w1.cell? ⟨b, 0, none⟩ = some u ∧ w1.cell? ⟨b, 1, none⟩ = some v :=
  ⟨(hb.cell (p := ⟨b, 0, none⟩) hB).trans h.1, (hb.cell (p := ⟨b, 1, none⟩) hB).trans h.2⟩
theorem new2 (w : World) (u v : Value) (t : TypeId) : (w.alloc (.cells #[u, v] t)).cell? ⟨w.heap.size, 0, none⟩ = some u ∧ (w.alloc (.cells #[u, v] t)).cell? ⟨w.heap.size, 1, none⟩ = some v :=
  ⟨by simp [go_sem], by simp [go_sem]⟩
theorem below_drewN {B : Nat} {a w : World} (h : Below B a w) (n : Nat) : Below B a (w.drewN n) := ⟨h.os, h.tape, h.output, h.size, h.block⟩
theorem ret_int {k : IntKind} {a b : Int} (h : a = b) : Ending.returned (.int k a) = .returned (.int k b) := by rw [h]
theorem ret_bool {a b : Bool} (h : a = b) : Ending.returned (.bool a) = .returned (.bool b) := by rw [h]

theorem sum_snoc (xs : List Int) (k : Nat) (h : k < xs.length) : (xs.take (k + 1)).sum = (xs.take k).sum + xs[k] := by
  rw [List.take_succ_eq_append_getElem h, List.sum_append]; simp

theorem sum_bd_aux (M : Int) (hM : 0 ≤ M) : ∀ (xs : List Int), (∀ x ∈ xs, -M ≤ x ∧ x ≤ M) → -(M * xs.length) ≤ xs.sum ∧ xs.sum ≤ M * xs.length
  | [], _ => by simp
  | x :: xs, h => by
    have h1 := h x (by simp)
    have h2 := sum_bd_aux M hM xs fun y hy => h y (by simp [hy])
    simp only [List.sum_cons, List.length_cons]
    have e : M * ((xs.length + 1 : Nat) : Int) = M * xs.length + M := by rw [Int.natCast_add, Int.mul_add]; simp
    rw [e]
    omega

theorem sum_bd (xs : List Int) (h : Small xs) (k : Nat) : -1048576000000 ≤ (xs.take k).sum ∧ (xs.take k).sum ≤ 1048576000000 := by
  have h1 := sum_bd_aux 1000000 (by omega) (xs.take k) fun x hx => h.2 x (List.mem_of_mem_take hx)
  have h2 : (xs.take k).length ≤ 1048576 := Nat.le_trans (List.length_take_le' _ _) h.1
  omega

theorem small_at (xs : List Int) (h : Small xs) (k : Nat) (hk : k < xs.length) : -1000000 ≤ xs[k] ∧ xs[k] ≤ 1000000 := h.2 _ (List.getElem_mem hk)

/-! What only a stretch of blocks has turned. -/
/-- Of the blocks that were there only those from lo on and below hi may have turned. -/
structure Chg (lo hi : Nat) (w w' : World) : Prop where
  os : w'.os = w.os
  tape : w'.tape = w.tape
  output : w'.output = w.output
  size : w.heap.size ≤ w'.heap.size
  block : ∀ k, k < w.heap.size → ¬ (lo ≤ k ∧ k < hi) → w'.heap[k]? = w.heap[k]?
section
variable {w w' : World} {lo hi B : Nat} {A : Option Addr} {xs : List Int}
theorem Chg.refl (lo hi : Nat) (w : World) : Chg lo hi w w := ⟨rfl, rfl, rfl, Nat.le_refl _, fun _ _ _ => rfl⟩
theorem Chg.trans {a b c : World} (h : Chg lo hi a b) (k : Chg lo hi b c) : Chg lo hi a c :=
  ⟨k.os.trans h.os, k.tape.trans h.tape, k.output.trans h.output, Nat.le_trans h.size k.size, fun i h1 h2 => (k.block i (Nat.lt_of_lt_of_le h1 h.size) h2).trans (h.block i h1 h2)⟩
theorem Chg.of_below (h : Below w.heap.size w w') : Chg lo hi w w' := ⟨h.os, h.tape, h.output, h.size, fun k hk _ => h.block k hk⟩
theorem Chg.below (h : Chg lo hi w w') (hB : B ≤ lo) (hs : B ≤ w.heap.size) : Below B w w' := ⟨h.os, h.tape, h.output, h.size, fun k hk => h.block k (by omega) (by omega)⟩
theorem Chg.setCell (w : World) {p : Addr} (hp : lo ≤ p.block ∧ p.block < hi) (u : Value) : Chg lo hi w (w.setCell p u) :=
  ⟨rfl, rfl, rfl, by simp [World.setCell], fun k _ hk => Below.heap_setCell _ _ _ _ (by rintro rfl; exact hk hp)⟩
theorem Chg.alloc (w : World) (o : Obj) : Chg lo hi w (w.alloc o) := ⟨rfl, rfl, rfl, by simp, fun k hk _ => Below.heap_alloc _ _ _ hk⟩
theorem Chg.cell (h : Chg lo hi w w') {p : Addr} (hp : p.block < w.heap.size) (hn : ¬ (lo ≤ p.block ∧ p.block < hi)) : w'.cell? p = w.cell? p := World.cell?_of_block (w := w) (h.block p.block hp hn)
theorem Chg.frozen (h : Chg lo hi w w') {p : Addr} (hp : p.block < w.heap.size) (hn : ¬ (lo ≤ p.block ∧ p.block < hi)) : w'.frozen? p = w.frozen? p := World.frozen?_of_block (w := w) (h.block p.block hp hn)
theorem keep2c {b : Nat} {u v : Value} (hb : Chg lo hi w w') (h : w.cell? ⟨b, 0, none⟩ = some u ∧ w.cell? ⟨b, 1, none⟩ = some v) (hB : b < w.heap.size) (hn : ¬ (lo ≤ b ∧ b < hi)) : w'.cell? ⟨b, 0, none⟩ = some u ∧ w'.cell? ⟨b, 1, none⟩ = some v :=
  ⟨(hb.cell (p := ⟨b, 0, none⟩) hB hn).trans h.1, (hb.cell (p := ⟨b, 1, none⟩) hB hn).trans h.2⟩
theorem Ints.chg {l h : Nat} (hi' : Ints w l h A xs) (hc : Chg lo hi w w') (hs : h ≤ w.heap.size) (hd : h ≤ lo ∨ hi ≤ l) : Ints w' l h A xs := hi'.keep fun _ h1 h2 => hc.cell (by omega) (by omega)
theorem Own.chg {l h : Nat} (hi' : Own w l h A xs) (hc : Chg lo hi w w') (hs : h ≤ w.heap.size) (hd : h ≤ lo ∨ hi ≤ l) : Own w' l h A xs := hi'.keep (fun _ h1 h2 => hc.cell (by omega) (by omega)) (fun _ h1 h2 => hc.frozen (by omega) (by omega))
theorem Own.alloc (h : Own w lo hi A xs) (hB : hi ≤ w.heap.size) (o : Obj) : Own (w.alloc o) lo hi A xs := h.below ((Below.refl _ _).alloc (Nat.le_refl _) o) hB
theorem Own.drewN (h : Own w lo hi A xs) (n : Nat) : Own (w.drewN n) lo hi A xs := h
end

/-- The first k numbers are alike. -/
def SameTo (xs ys : List Int) (k : Nat) : Prop := ∀ j, (h : j < xs.length) → (h' : j < ys.length) → j < k → xs[j] = ys[j]
theorem SameTo.zero (xs ys : List Int) : SameTo xs ys 0 := fun _ _ _ h => absurd h (by omega)
theorem SameTo.succ {xs ys : List Int} {k : Nat} (h : SameTo xs ys k) (hk : k < xs.length) (hk' : k < ys.length) (hx : xs[k] = ys[k]) : SameTo xs ys (k + 1) := fun j hj hj' hjk => by
  rcases Nat.lt_or_ge j k with h1 | h1
  · exact h j hj hj' h1
  · obtain rfl : j = k := by omega
    exact hx
theorem SameTo.all {xs ys : List Int} (h : SameTo xs ys xs.length) (hn : xs.length = ys.length) : xs = ys :=
  List.ext_getElem hn fun j hj hj' => h j hj hj' hj
theorem ne_of_at {xs ys : List Int} {k : Nat} (hk : k < xs.length) (hk' : k < ys.length) (hx : ¬ xs[k] = ys[k]) : ¬ xs = ys := by
  rintro rfl; exact hx rfl

/-- Numbers as values. -/
def ints (xs : List Int) : List Value := xs.map (Value.int .i64)
theorem ints_length (xs : List Int) : (ints xs).length = xs.length := by simp [ints]
theorem ints_at (xs : List Int) (j : Nat) (h : j < xs.length) : (ints xs)[j]? = some (.int .i64 (xs.getD j 0)) := by simp [ints, h]
theorem ints_one (xs : List Int) : ∀ u ∈ ints xs, u.oneCell' = true := by
  intro u hu
  obtain ⟨x, _, rfl⟩ := List.mem_map.1 hu
  rfl

theorem own_of_row {w : World} {base : Nat} {e : TypeId} {v : Value} {xs : List Int} (h : w.ownsRow base e 1 v xs.length (ints xs)) :
    ∃ A c, v = .slice A xs.length c ∧ xs.length ≤ c ∧ Own w base w.heap.size A xs := by
  rcases h.2 with ⟨rfl, h0⟩ | ⟨g, cap, cur, rfl, hb, hg, hnc, _⟩
  · exact ⟨none, 0, by rw [h0], by omega, fun h => absurd h (by omega)⟩
  · refine ⟨some ⟨g, 0, none⟩, cap, rfl, hnc, fun _ => ⟨g, 0, rfl, hb, (h.lt g rfl).2, fun j hj => ?_, fun j hj => ?_⟩⟩
    · rw [Nat.zero_add, h.cellAt j (by omega), ints_at xs j hj]
    · rw [Nat.zero_add]; exact h.frozenAt j

theorem drewN_two (w : World) (a b : Nat) : ∃ m, (w.drewN a).drewN b = w.drewN m := ⟨a + b, by rw [World.drewN_drewN]⟩
theorem Own.stored {w : World} {lo hi b o : Nat} {xs : List Int} (h : Own w lo hi (some ⟨b, o, none⟩) xs) {j : Nat} (hj : j < xs.length) (x : Int) :
    Own (w.setCell ⟨b, o + j, none⟩ (.int .i64 x)) lo hi (some ⟨b, o, none⟩) (xs.set j x) := fun hn => by
  obtain ⟨b', o', e, h1, h2, hc, hf⟩ := h (by simpa using hn)
  cases e
  refine ⟨b, o, rfl, h1, h2, fun i hi' => ?_, fun i hi' => ?_⟩
  · have hi'' : i < xs.length := by simpa using hi'
    by_cases e : i = j
    · subst e
      rw [World.cell?_setCell_same _ _ _ (hc i hi'')]
      simp [hi'']
    · rw [World.cell?_setCell_other _ _ _ _ (fun h' => e (by injection h' with _ h2; omega)), hc i hi'']
      simp [Ne.symm e]
  · rw [World.frozen?_setCell]; exact hf i (by simpa using hi')
theorem Own.set_out {w : World} {lo hi : Nat} {A : Option Addr} {xs : List Int} (h : Own w lo hi A xs) {p : Addr} (hp : p.block < lo ∨ hi ≤ p.block) (u : Value) : Own (w.setCell p u) lo hi A xs :=
  h.keep (fun q h1 h2 => World.cell?_setCell_other _ _ _ _ (by rintro rfl; omega)) (fun q _ _ => by rw [World.frozen?_setCell])
theorem Ints.set_out {w : World} {lo hi : Nat} {A : Option Addr} {xs : List Int} (h : Ints w lo hi A xs) {p : Addr} (hp : p.block < lo ∨ hi ≤ p.block) (u : Value) : Ints (w.setCell p u) lo hi A xs :=
  h.keep (fun q h1 h2 => World.cell?_setCell_other _ _ _ _ (by rintro rfl; omega))
/-- The marks q, q + 1, .. -/
def marks (q : Int) (n : Nat) : List Int := (List.range n).map fun (i : Nat) => q + (i : Int)
theorem marks_length (q : Int) (n : Nat) : (marks q n).length = n := by simp [marks]
theorem marks_at (q : Int) (n k : Nat) (h : k < (marks q n).length) : (marks q n)[k] = q + k := by simp [marks]
def marked (xs : List Int) (q : Int) (k : Nat) : List Int := marks q k ++ xs.drop k
theorem marked_length (xs : List Int) (q : Int) (k : Nat) (h : k ≤ xs.length) : (marked xs q k).length = xs.length := by simp [marked, marks_length]; omega
theorem marked_zero (xs : List Int) (q : Int) : marked xs q 0 = xs := by simp [marked, marks]
theorem marked_all (xs : List Int) (q : Int) : marked xs q xs.length = marks q xs.length := by simp [marked]
theorem marked_set (xs : List Int) (q : Int) (k : Nat) (h : k < xs.length) : (marked xs q k).set k (q + k) = marked xs q (k + 1) := by
  unfold marked
  have e : marks q (k + 1) = marks q k ++ [q + k] := by simp [marks, List.range_succ]
  rw [List.set_append_right _ _ (by rw [marks_length]; exact Nat.le_refl _), marks_length, Nat.sub_self, e, List.drop_eq_getElem_cons h, List.set_cons_zero, List.append_assoc]; rfl

theorem addr_add (b o j : Nat) : (⟨b, o, none⟩ : Addr).add j = ⟨b, o + j, none⟩ := by
  unfold Addr.add
  by_cases hz : j = 0 <;> simp [hz]
/-- A slice that is not empty has an address, and its numbers lie there. -/
theorem Ints.news {w : World} {lo hi : Nat} {A : Option Addr} {xs : List Int} (h : Ints w lo hi A xs) (hn : 0 < xs.length) :
    ∃ b o, A = some ⟨b, o, none⟩ ∧ lo ≤ b ∧ b < hi ∧ ∀ j u, (ints xs)[j]? = some u → w.cell? ((⟨b, o, none⟩ : Addr).add j) = some u := by
  obtain ⟨b, o, e, h1, h2, hc⟩ := h hn
  refine ⟨b, o, e, h1, h2, fun j u hu => ?_⟩
  have hj : j < xs.length := by
    have := (List.getElem?_eq_some_iff.1 hu).1
    rwa [ints_length] at this
  rw [ints_at xs j hj] at hu
  rw [addr_add, hc j hj, hu]

/-- What a function that hands a new slice of numbers back leaves. -/
def RetInts (w : World) (xs : List Int) (e : Ending) (w' : World) : Prop :=
  ∃ A c, e = .returned (.slice A xs.length c) ∧ Own w' w.heap.size w'.heap.size A xs ∧ Below w.heap.size w w'
/-- What a function that hands a new case back leaves. -/
def RetCase (w : World) (E : Int) (xs : List Int) (e : Ending) (w' : World) : Prop :=
  ∃ A c, e = .returned (.agg #[.int .i64 E, .slice A xs.length c]) ∧ Own w' w.heap.size w'.heap.size A xs ∧ Below w.heap.size w w'
/-- What a function that hands a new case and a bool back leaves. -/
def RetCaseB (w : World) (E : Int) (xs : List Int) (b : Bool) (e : Ending) (w' : World) : Prop :=
  ∃ A c, e = .returned (.tuple #[.agg #[.int .i64 E, .slice A xs.length c], .bool b]) ∧ Own w' w.heap.size w'.heap.size A xs ∧ Below w.heap.size w w'

/-- A row that is written from the left. -/
def fillTo (xs : List Int) (k : Nat) : List Int := xs.take k ++ List.replicate (xs.length - k) 0
theorem fillTo_length (xs : List Int) (k : Nat) (h : k ≤ xs.length) : (fillTo xs k).length = xs.length := by simp [fillTo]; omega
theorem fillTo_zero (xs : List Int) : fillTo xs 0 = List.replicate xs.length 0 := by simp [fillTo]
theorem fillTo_all (xs : List Int) : fillTo xs xs.length = xs := by simp [fillTo]
theorem fillTo_at (xs : List Int) (k : Nat) (h : k < xs.length) : (ints (fillTo xs k))[k]? = some (.int .i64 0) := by
  rw [ints_at _ k (by rw [fillTo_length xs k (by omega)]; exact h)]
  simp only [fillTo]
  rw [List.getD_eq_getElem?_getD, List.getElem?_append_right (by rw [List.length_take]; omega)]
  rw [List.getElem?_replicate]
  split <;> rfl
theorem fillTo_set (xs : List Int) (k : Nat) (h : k < xs.length) : (fillTo xs k).set k xs[k] = fillTo xs (k + 1) := by
  unfold fillTo
  have e : xs.length - k = (xs.length - (k + 1)) + 1 := by omega
  rw [e, List.replicate_succ, List.set_append_right _ _ (by simp [List.length_take]; omega), List.take_succ_eq_append_getElem h]
  have e2 : k - (xs.take k).length = 0 := by rw [List.length_take]; omega
  rw [e2, List.set_cons_zero, List.append_assoc]; rfl
theorem ints_set (xs : List Int) (k : Nat) (x : Int) : ints (xs.set k x) = (ints xs).set k (.int .i64 x) := by simp [ints, List.map_set]

/-- A case: its estate and its claims. -/
def caseOkB (E : Int) (xs : List Int) : Bool := decide (1 ≤ xs.length ∧ xs.length ≤ 4 ∧ (∀ x ∈ xs, 0 ≤ x ∧ x ≤ 12) ∧ 0 ≤ E ∧ E ≤ xs.sum)
theorem caseOk_iff (E : Int) (xs : List Int) : caseOkB E xs = true ↔ (1 ≤ xs.length ∧ xs.length ≤ 4 ∧ (∀ x ∈ xs, 0 ≤ x ∧ x ≤ 12) ∧ 0 ≤ E ∧ E ≤ xs.sum) := by simp [caseOkB]
theorem caseOk_len (E : Int) (xs : List Int) (h : ¬ (1 ≤ xs.length ∧ xs.length ≤ 4)) : caseOkB E xs = false := by
  simp only [caseOkB, decide_eq_false_iff_not]; intro h'; exact h ⟨h'.1, h'.2.1⟩
theorem caseOk_bad (E : Int) (xs : List Int) (k : Nat) (hk : k < xs.length) (h : ¬ (0 ≤ xs[k] ∧ xs[k] ≤ 12)) : caseOkB E xs = false := by
  simp only [caseOkB, decide_eq_false_iff_not]; intro h'; exact h (h'.2.2.1 _ (List.getElem_mem hk))
theorem caseOk_end (E : Int) (xs : List Int) (h1 : 1 ≤ xs.length ∧ xs.length ≤ 4) (h2 : ∀ x ∈ xs, 0 ≤ x ∧ x ≤ 12) : caseOkB E xs = decide (0 ≤ E ∧ E ≤ xs.sum) := by
  simp only [caseOkB, decide_eq_decide]
  exact ⟨fun h => h.2.2.2, fun h => ⟨h1.1, h1.2, h2, h⟩⟩
theorem caseOk_neg (E : Int) (xs : List Int) (h : ¬ (0 ≤ E)) : caseOkB E xs = false := by
  simp only [caseOkB, decide_eq_false_iff_not]; intro h'; exact h h'.2.2.2.1
/-- The first k numbers are in range. -/
def Upto (xs : List Int) (k : Nat) : Prop := ∀ j, (h : j < xs.length) → j < k → 0 ≤ xs[j] ∧ xs[j] ≤ 12
theorem Upto.zero (xs : List Int) : Upto xs 0 := fun _ _ h => absurd h (by omega)
theorem Upto.succ {xs : List Int} {k : Nat} (h : Upto xs k) (hk : k < xs.length) (hx : 0 ≤ xs[k] ∧ xs[k] ≤ 12) : Upto xs (k + 1) := fun j hj hjk => by
  rcases Nat.lt_or_ge j k with h1 | h1
  · exact h j hj h1
  · obtain rfl : j = k := by omega
    exact hx
theorem Upto.all {xs : List Int} (h : Upto xs xs.length) : ∀ x ∈ xs, 0 ≤ x ∧ x ≤ 12 := fun x hx => by
  obtain ⟨j, hj, rfl⟩ := List.getElem_of_mem hx
  exact h j hj hj
theorem small_of {xs : List Int} (h1 : xs.length ≤ 4) (h2 : ∀ x ∈ xs, 0 ≤ x ∧ x ≤ 12) : Small xs :=
  ⟨by omega, fun x hx => by have := h2 x hx; omega⟩

/-- What OtherCase returns. -/
def otherE (E : Int) (xs : List Int) : Int := if caseOkB E xs = true then xs.sum - E else 0
def sameE (E : Int) (xs : List Int) : Int := if caseOkB E xs = true then E else 0
def sameXs (E : Int) (xs : List Int) : List Int := if caseOkB E xs = true then xs else []
theorem sameXs_len (E : Int) (xs : List Int) : (sameXs E xs).length ≤ xs.length := by unfold sameXs; split <;> simp
/-- Two cells that may be written. -/
theorem new2f (w : World) (u v : Value) (t : TypeId) : (w.alloc (.cells #[u, v] t)).frozen? ⟨w.heap.size, 0, none⟩ = false ∧ (w.alloc (.cells #[u, v] t)).frozen? ⟨w.heap.size, 1, none⟩ = false :=
  ⟨by simp [go_sem], by simp [go_sem]⟩
theorem keep2f {B : Nat} {W w1 : World} (hb : Below B W w1) {b : Nat} (h : W.frozen? ⟨b, 0, none⟩ = false ∧ W.frozen? ⟨b, 1, none⟩ = false) (hB : b < B) : w1.frozen? ⟨b, 0, none⟩ = false ∧ w1.frozen? ⟨b, 1, none⟩ = false :=
  ⟨(hb.frozen (p := ⟨b, 0, none⟩) hB).trans h.1, (hb.frozen (p := ⟨b, 1, none⟩) hB).trans h.2⟩
theorem Own.drewN' {w : World} {lo hi : Nat} {A : Option Addr} {xs : List Int} (h : Own w lo hi A xs) (_n : Nat) : Own w.drew lo hi A xs := h
theorem hsz (w : World) (o : Obj) : (w.alloc o).heap.size = w.heap.size + 1 := by simp
theorem boxes2 (w : World) (u v u' v' : Value) (t t' : TypeId) :
    (((w.alloc (.cells #[u, v] t)).alloc (.cells #[u', v'] t')).cell? ⟨w.heap.size, 0, none⟩ = some u ∧ ((w.alloc (.cells #[u, v] t)).alloc (.cells #[u', v'] t')).cell? ⟨w.heap.size, 1, none⟩ = some v) ∧
    (((w.alloc (.cells #[u, v] t)).alloc (.cells #[u', v'] t')).cell? ⟨w.heap.size + 1, 0, none⟩ = some u' ∧ ((w.alloc (.cells #[u, v] t)).alloc (.cells #[u', v'] t')).cell? ⟨w.heap.size + 1, 1, none⟩ = some v') ∧
    (((w.alloc (.cells #[u, v] t)).alloc (.cells #[u', v'] t')).frozen? ⟨w.heap.size + 1, 0, none⟩ = false ∧ ((w.alloc (.cells #[u, v] t)).alloc (.cells #[u', v'] t')).frozen? ⟨w.heap.size + 1, 1, none⟩ = false) ∧
    Below w.heap.size w ((w.alloc (.cells #[u, v] t)).alloc (.cells #[u', v'] t')) ∧ ((w.alloc (.cells #[u, v] t)).alloc (.cells #[u', v'] t')).heap.size = w.heap.size + 2 := by
  have n1 := new2 (w.alloc (.cells #[u, v] t)) u' v' t'
  have n2 := new2f (w.alloc (.cells #[u, v] t)) u' v' t'
  have n3 := keep2 ((Below.refl (w.alloc (.cells #[u, v] t)).heap.size _).alloc (Nat.le_refl _) (.cells #[u', v'] t')) (new2 w u v t) (by rw [hsz]; omega)
  rw [hsz] at n1 n2
  exact ⟨n3, n1, n2, ((Below.refl w.heap.size w).alloc (Nat.le_refl _) _).alloc (by rw [hsz]; omega) _, by rw [hsz, hsz]⟩
/-- The claims cut. -/
def cutRow (E : Int) (xs : List Int) : List Int := xs.map fun x => min x E
theorem cutRow_length (E : Int) (xs : List Int) : (cutRow E xs).length = xs.length := by simp [cutRow]
theorem cutRow_at (E : Int) (xs : List Int) (k : Nat) (h : k < xs.length) : (cutRow E xs)[k]'(by rw [cutRow_length]; exact h) = if E < xs[k] then E else xs[k] := by
  simp only [cutRow, List.getElem_map]
  split <;> omega
def cutXs (E : Int) (xs : List Int) : List Int := if caseOkB E xs = true then cutRow E xs else []
theorem cutXs_len (E : Int) (xs : List Int) : (cutXs E xs).length ≤ xs.length := by unfold cutXs; split <;> simp [cutRow_length]
/-- The rights. -/
def rightsRow (E : Int) (xs : List Int) : List Int := xs.map fun x => max 0 (E - (xs.sum - x))
theorem rightsRow_length (E : Int) (xs : List Int) : (rightsRow E xs).length = xs.length := by simp [rightsRow]
theorem rightsRow_at (E : Int) (xs : List Int) (k : Nat) (h : k < xs.length) : (rightsRow E xs)[k]'(by rw [rightsRow_length]; exact h) = max 0 (E - (xs.sum - xs[k])) := by simp [rightsRow]
def rights (E : Int) (xs : List Int) : List Int := if caseOkB E xs = true then rightsRow E xs else []
theorem rights_len (E : Int) (xs : List Int) : (rights E xs).length ≤ xs.length := by unfold rights; split <;> simp [rightsRow_length]
/-- The claims less the rights. -/
def restRow (E : Int) (xs : List Int) : List Int := xs.map fun x => x - max 0 (E - (xs.sum - x))
theorem restRow_length (E : Int) (xs : List Int) : (restRow E xs).length = xs.length := by simp [restRow]
theorem restRow_at (E : Int) (xs : List Int) (k : Nat) (h : k < xs.length) : (restRow E xs)[k]'(by rw [restRow_length]; exact h) = xs[k] - (rightsRow E xs)[k]'(by rw [rightsRow_length]; exact h) := by simp [restRow, rightsRow]
def restXs (E : Int) (xs : List Int) : List Int := if caseOkB E xs = true then restRow E xs else []
def restE (E : Int) (xs : List Int) : Int := if caseOkB E xs = true then E - (rightsRow E xs).sum else 0
theorem restXs_len (E : Int) (xs : List Int) : (restXs E xs).length ≤ xs.length := by unfold restXs; split <;> simp [restRow_length]
/-- A row of which the first k numbers are written, and one more. -/
theorem fill_more {w : World} {G : Nat} {e : TypeId} {n : Nat} {R : List Int} {k : Nat} (h : w.ownsRow G e 1 (.slice (some ⟨G, 0, none⟩) n n) n (ints (fillTo R k))) (hk : k < R.length) (V : Int) (hV : R[k] = V) :
    (w.setCell ⟨G, k, none⟩ (.int .i64 V)).ownsRow G e 1 (.slice (some ⟨G, 0, none⟩) n n) n (ints (fillTo R (k + 1))) := by
  have h1 := (h.stored k (.int .i64 V)).1
  rw [← ints_set, ← hV, fillTo_set R k hk] at h1
  rw [← hV]
  exact h1
theorem fill_start {w : World} {G : Nat} {e : TypeId} {R : List Int} {n : Nat} (hn : R.length = n) (h : w.ownsRow G e 1 (.slice (some ⟨G, 0, none⟩) n n) n (madeCells (Value.int .i64 0).cells (n * 1)).toList) :
    w.ownsRow G e 1 (.slice (some ⟨G, 0, none⟩) n n) n (ints (fillTo R 0)) := by
  have e1 : ints (fillTo R 0) = (madeCells (Value.int .i64 0).cells (n * 1)).toList := by
    rw [fillTo_zero, hn, Nat.mul_one]
    show _ = (madeCells #[Value.int .i64 0] n).toList
    rw [toList_madeCells_one]; simp [ints]
  rw [e1]; exact h
theorem fill_cell {w : World} {G : Nat} {e : TypeId} {n : Nat} {R : List Int} {k : Nat} (h : w.ownsRow G e 1 (.slice (some ⟨G, 0, none⟩) n n) n (ints (fillTo R k))) (hn : R.length = n) (hk : k < n) :
    w.cell? ⟨G, k, none⟩ = some (.int .i64 0) ∧ w.frozen? ⟨G, k, none⟩ = false := by
  subst hn
  exact ⟨by rw [h.cellAt k (by omega), fillTo_at R k hk], h.frozenAt k⟩
theorem fill_end {w : World} {G : Nat} {e : TypeId} {n : Nat} {R : List Int} (h : w.ownsRow G e 1 (.slice (some ⟨G, 0, none⟩) n n) n (ints (fillTo R n))) (hn : R.length = n) :
    Own w G w.heap.size (some ⟨G, 0, none⟩) R := by
  subst hn
  rw [fillTo_all] at h
  obtain ⟨A, c, e1, _, ho⟩ := own_of_row h
  injection e1 with e1 _ _
  subst e1
  exact ho

/-- What OwedOf returns. -/
def owedOf (E : Int) (xs : List Int) : Int := if caseOkB E xs = true then xs.sum else -1
theorem caseOk_small {E : Int} {xs : List Int} (h : caseOkB E xs = true) : Small xs := small_of ((caseOk_iff E xs).1 h).2.1 ((caseOk_iff E xs).1 h).2.2.1
theorem caseOk_bd {E : Int} {xs : List Int} (h : caseOkB E xs = true) : 0 < xs.length ∧ xs.length ≤ 4 ∧ 0 ≤ E ∧ E ≤ xs.sum ∧ xs.sum ≤ 48 := by
  have h1 := (caseOk_iff E xs).1 h
  have h2 := sum_bd_aux 12 (by omega) xs fun x hx => by have := h1.2.2.1 x hx; omega
  exact ⟨h1.1, h1.2.1, h1.2.2.2.1, h1.2.2.2.2, by omega⟩

end Go.Proofs.Ytilhholjbjhaeaa
