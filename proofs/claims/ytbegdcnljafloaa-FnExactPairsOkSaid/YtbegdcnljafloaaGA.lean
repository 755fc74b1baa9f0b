/-
  Words for slices of numbers in memory, and plain facts on lists of numbers. No condition.
  Two cells that are known and may be written, over draws, new blocks and writes elsewhere. No condition.
  What the two sums of a row, and the test of a range, return. No condition but small numbers.
  Whether each number of a row is from 0 up to a greatest one, as the program finds it. No condition but a length that fits.
  Whether a row has a number for each of 1..4 people, from 0 up to a greatest one, as the program finds it. No condition but a length that fits.
  Plain facts on cases. No condition.
  slices.Clone hands back a new slice with the same numbers. No condition but that it is not empty, and a length that fits.
  Both tests of an order return the same. No condition but lengths that fit.
  The program's test of an order returns the same as the model's. No condition but lengths that fit.
  The model's row of cut numbers is a new row. No condition but a length that fits.
  Plain facts on cut claims and rights. No condition.
  Both functions CaseOk return whether a case is one, and make new memory only.
  What the reader of a code draws: each pick is a number below the asked one, and only the reader's position is written.
  What the reader of a code draws: a pick whatever the code, and a chance.
  Whether numbers are claims in parts, as the program finds it. No condition but a length that fits.
  What the helpers of the laws return: two lists that are the same, two cases that are the same, the sum of a row, the fixed answer. No condition but lengths that fit.
-/
import Derived.WalkKit
import Derived.WalkSpells
import Derived.WalkLawsBesides
import Derived.Lib.Hide
import Derived.IntWalk
import Derived.Test.YtbegdcnljafloaaChecked
import Derived.BigQuiet
import Derived.Deep.QuietTactic
import Derived.Lib.SliceRun
namespace Go.Proofs.Ytbegdcnljafloaa
open Go.RowKit

theorem getD_of_lt (xs : List Int) (k : Nat) (h : k < xs.length) : xs.getD k 0 = xs[k] := by simp [List.getD, List.getElem?_eq_getElem h]

/-- The slice at A reads as xs, in a block from lo on and below hi. -/
def Ints (w : World) (lo hi : Nat) (A : Option Addr) (xs : List Int) : Prop :=
  0 < xs.length → ∃ b o, A = some ⟨b, o, none⟩ ∧ lo ≤ b ∧ b < hi ∧ ∀ j, j < xs.length → w.cell? ⟨b, o + j, none⟩ = some (.int .i64 (xs.getD j 0))

/-- As Ints, and not frozen. -/
def Own (w : World) (lo hi : Nat) (A : Option Addr) (xs : List Int) : Prop :=
  0 < xs.length → ∃ b o, A = some ⟨b, o, none⟩ ∧ lo ≤ b ∧ b < hi ∧ (∀ j, j < xs.length → w.cell? ⟨b, o + j, none⟩ = some (.int .i64 (xs.getD j 0))) ∧ ∀ j, j < xs.length → w.frozen? ⟨b, o + j, none⟩ = false

/-- Small numbers: sums of few of them never wrap. -/
def Small (xs : List Int) : Prop := xs.length ≤ 1048576 ∧ ∀ x ∈ xs, -1000000 ≤ x ∧ x ≤ 1000000

section
variable {w w' : World} {lo hi B : Nat} {A : Option Addr} {xs : List Int}
theorem Ints.nil : Ints w lo hi A [] := fun h => absurd h (by simp)
theorem Ints.at_ {k : Nat} (h : Ints w lo hi A xs) (hk : k < xs.length) : ∃ b o, A = some ⟨b, o, none⟩ ∧ lo ≤ b ∧ b < hi ∧ w.cell? ⟨b, o + k, none⟩ = some (.int .i64 (xs[k]'hk)) := by
  obtain ⟨b, o, e, h1, h2, hc⟩ := h (by omega)
  exact ⟨b, o, e, h1, h2, by rw [hc k hk, getD_of_lt xs k hk]⟩
theorem Ints.keep (h : Ints w lo hi A xs) (hk : ∀ p : Addr, lo ≤ p.block → p.block < hi → w'.cell? p = w.cell? p) : Ints w' lo hi A xs := fun hn => by
  obtain ⟨b, o, e, h1, h2, hc⟩ := h hn
  exact ⟨b, o, e, h1, h2, fun j hj => (hk _ h1 h2).trans (hc j hj)⟩
theorem Ints.more {lo' hi' : Nat} (h : Ints w lo hi A xs) (hl : lo' ≤ lo) (hh : hi ≤ hi') : Ints w lo' hi' A xs := fun hn => by
  obtain ⟨b, o, e, h1, h2, hc⟩ := h hn
  exact ⟨b, o, e, by omega, by omega, hc⟩
theorem Ints.below (h : Ints w lo hi A xs) (hb : Below B w w') (hB : hi ≤ B) : Ints w' lo hi A xs := h.keep fun _ _ hp => hb.cell (by omega)
theorem Ints.alloc (h : Ints w lo hi A xs) (hB : hi ≤ w.heap.size) (o : Obj) : Ints (w.alloc o) lo hi A xs := h.keep fun p _ hp => World.cell?_alloc_lt w o p (by omega)
theorem Ints.drew (h : Ints w lo hi A xs) : Ints w.drew lo hi A xs := h
theorem Ints.drewN (h : Ints w lo hi A xs) (n : Nat) : Ints (w.drewN n) lo hi A xs := h
theorem Own.ints (h : Own w lo hi A xs) : Ints w lo hi A xs := fun hn => by
  obtain ⟨b, o, e, h1, h2, hc, _⟩ := h hn
  exact ⟨b, o, e, h1, h2, hc⟩
theorem Own.nil : Own w lo hi A [] := fun h => absurd h (by simp)
theorem Own.at_ {k : Nat} (h : Own w lo hi A xs) (hk : k < xs.length) : ∃ b o, A = some ⟨b, o, none⟩ ∧ lo ≤ b ∧ b < hi ∧ w.cell? ⟨b, o + k, none⟩ = some (.int .i64 (xs[k]'hk)) ∧ w.frozen? ⟨b, o + k, none⟩ = false := by
  obtain ⟨b, o, e, h1, h2, hc, hf⟩ := h (by omega)
  exact ⟨b, o, e, h1, h2, by rw [hc k hk, getD_of_lt xs k hk], hf k hk⟩
theorem Own.keep (h : Own w lo hi A xs) (hk : ∀ p : Addr, lo ≤ p.block → p.block < hi → w'.cell? p = w.cell? p) (hf' : ∀ p : Addr, lo ≤ p.block → p.block < hi → w'.frozen? p = w.frozen? p) : Own w' lo hi A xs := fun hn => by
  obtain ⟨b, o, e, h1, h2, hc, hf⟩ := h hn
  exact ⟨b, o, e, h1, h2, fun j hj => (hk _ h1 h2).trans (hc j hj), fun j hj => (hf' _ h1 h2).trans (hf j hj)⟩
theorem Own.more {lo' hi' : Nat} (h : Own w lo hi A xs) (hl : lo' ≤ lo) (hh : hi ≤ hi') : Own w lo' hi' A xs := fun hn => by
  obtain ⟨b, o, e, h1, h2, hc⟩ := h hn
  exact ⟨b, o, e, by omega, by omega, hc⟩
theorem Own.below (h : Own w lo hi A xs) (hb : Below B w w') (hB : hi ≤ B) : Own w' lo hi A xs := h.keep (fun _ _ hp => hb.cell (by omega)) (fun _ _ hp => hb.frozen (by omega))
end

theorem bcell {W w1 : World} (hb : Below W.heap.size W w1) : (∀ b o, b < W.heap.size → w1.cell? ⟨b, o, none⟩ = W.cell? ⟨b, o, none⟩) ∧ (∀ b o, b < W.heap.size → w1.frozen? ⟨b, o, none⟩ = W.frozen? ⟨b, o, none⟩) :=
  ⟨fun b o h => hb.cell (p := ⟨b, o, none⟩) h, fun b o h => hb.frozen (p := ⟨b, o, none⟩) h⟩

/-- Two cells of one block stay as they were. -/
theorem keep2 {B : Nat} {W w1 : World} (hb : Below B W w1) {b : Nat} {u v : Value} (h : W.cell? ⟨b, 0, none⟩ = some u ∧ W.cell? ⟨b, 1, none⟩ = some v) (hB : b < B) : w1.cell? ⟨b, 0, none⟩ = some u ∧ w1.cell? ⟨b, 1, none⟩ = some v :=
  ⟨(hb.cell (p := ⟨b, 0, none⟩) hB).trans h.1, (hb.cell (p := ⟨b, 1, none⟩) hB).trans h.2⟩
theorem new2 (w : World) (u v : Value) (t : TypeId) : (w.alloc (.cells #[u, v] t)).cell? ⟨w.heap.size, 0, none⟩ = some u ∧ (w.alloc (.cells #[u, v] t)).cell? ⟨w.heap.size, 1, none⟩ = some v :=
  ⟨by simp [go_sem], by simp [go_sem]⟩
theorem below_drewN {B : Nat} {a w : World} (h : Below B a w) (n : Nat) : Below B a (w.drewN n) := ⟨h.os, h.tape, h.output, h.size, h.block⟩
theorem ret_int {k : IntKind} {a b : Int} (h : a = b) : Ending.returned (.int k a) = .returned (.int k b) := by rw [h]
theorem ret_bool {a b : Bool} (h : a = b) : Ending.returned (.bool a) = .returned (.bool b) := by rw [h]

theorem sum_snoc (xs : List Int) (k : Nat) (h : k < xs.length) : (xs.take (k + 1)).sum = (xs.take k).sum + xs[k] := by
  rw [List.take_succ_eq_append_getElem h, List.sum_append]; simp

theorem sum_bd_aux (M : Int) (hM : 0 ≤ M) : ∀ (xs : List Int), (∀ x ∈ xs, -M ≤ x ∧ x ≤ M) → -(M * xs.length) ≤ xs.sum ∧ xs.sum ≤ M * xs.length
  | [], _ => by simp
  | x :: xs, h => by
    have h1 := h x (by simp)
    have h2 := sum_bd_aux M hM xs fun y hy => h y (by simp [hy])
    simp only [List.sum_cons, List.length_cons]
    have e : M * ((xs.length + 1 : Nat) : Int) = M * xs.length + M := by rw [Int.natCast_add, Int.mul_add]; simp
    rw [e]
    omega

theorem sum_bd (xs : List Int) (h : Small xs) (k : Nat) : -1048576000000 ≤ (xs.take k).sum ∧ (xs.take k).sum ≤ 1048576000000 := by
  have h1 := sum_bd_aux 1000000 (by omega) (xs.take k) fun x hx => h.2 x (List.mem_of_mem_take hx)
  have h2 : (xs.take k).length ≤ 1048576 := Nat.le_trans (List.length_take_le' _ _) h.1
  omega

theorem small_at (xs : List Int) (h : Small xs) (k : Nat) (hk : k < xs.length) : -1000000 ≤ xs[k] ∧ xs[k] ≤ 1000000 := h.2 _ (List.getElem_mem hk)

/-! What only a stretch of blocks has turned. -/
/-- Of the blocks that were there only those from lo on and below hi may have turned. -/
structure Chg (lo hi : Nat) (w w' : World) : Prop where
  os : w'.os = w.os
  tape : w'.tape = w.tape
  output : w'.output = w.output
  size : w.heap.size ≤ w'.heap.size
  block : ∀ k, k < w.heap.size → ¬ (lo ≤ k ∧ k < hi) → w'.heap[k]? = w.heap[k]?
section
variable {w w' : World} {lo hi B : Nat} {A : Option Addr} {xs : List Int}
theorem Chg.refl (lo hi : Nat) (w : World) : Chg lo hi w w := ⟨rfl, rfl, rfl, Nat.le_refl _, fun _ _ _ => rfl⟩
theorem Chg.trans {a b c : World} (h : Chg lo hi a b) (k : Chg lo hi b c) : Chg lo hi a c :=
  ⟨k.os.trans h.os, k.tape.trans h.tape, k.output.trans h.output, Nat.le_trans h.size k.size, fun i h1 h2 => (k.block i (Nat.lt_of_lt_of_le h1 h.size) h2).trans (h.block i h1 h2)⟩
theorem Chg.of_below (h : Below w.heap.size w w') : Chg lo hi w w' := ⟨h.os, h.tape, h.output, h.size, fun k hk _ => h.block k hk⟩
theorem Chg.below (h : Chg lo hi w w') (hB : B ≤ lo) (hs : B ≤ w.heap.size) : Below B w w' := ⟨h.os, h.tape, h.output, h.size, fun k hk => h.block k (by omega) (by omega)⟩
theorem Chg.setCell (w : World) {p : Addr} (hp : lo ≤ p.block ∧ p.block < hi) (u : Value) : Chg lo hi w (w.setCell p u) :=
  ⟨rfl, rfl, rfl, by simp [World.setCell], fun k _ hk => Below.heap_setCell _ _ _ _ (by rintro rfl; exact hk hp)⟩
theorem Chg.alloc (w : World) (o : Obj) : Chg lo hi w (w.alloc o) := ⟨rfl, rfl, rfl, by simp, fun k hk _ => Below.heap_alloc _ _ _ hk⟩
theorem Chg.cell (h : Chg lo hi w w') {p : Addr} (hp : p.block < w.heap.size) (hn : ¬ (lo ≤ p.block ∧ p.block < hi)) : w'.cell? p = w.cell? p := World.cell?_of_block (w := w) (h.block p.block hp hn)
theorem Chg.frozen (h : Chg lo hi w w') {p : Addr} (hp : p.block < w.heap.size) (hn : ¬ (lo ≤ p.block ∧ p.block < hi)) : w'.frozen? p = w.frozen? p := World.frozen?_of_block (w := w) (h.block p.block hp hn)
theorem keep2c {b : Nat} {u v : Value} (hb : Chg lo hi w w') (h : w.cell? ⟨b, 0, none⟩ = some u ∧ w.cell? ⟨b, 1, none⟩ = some v) (hB : b < w.heap.size) (hn : ¬ (lo ≤ b ∧ b < hi)) : w'.cell? ⟨b, 0, none⟩ = some u ∧ w'.cell? ⟨b, 1, none⟩ = some v :=
  ⟨(hb.cell (p := ⟨b, 0, none⟩) hB hn).trans h.1, (hb.cell (p := ⟨b, 1, none⟩) hB hn).trans h.2⟩
theorem Ints.chg {l h : Nat} (hi' : Ints w l h A xs) (hc : Chg lo hi w w') (hs : h ≤ w.heap.size) (hd : h ≤ lo ∨ hi ≤ l) : Ints w' l h A xs := hi'.keep fun _ h1 h2 => hc.cell (by omega) (by omega)
theorem Own.chg {l h : Nat} (hi' : Own w l h A xs) (hc : Chg lo hi w w') (hs : h ≤ w.heap.size) (hd : h ≤ lo ∨ hi ≤ l) : Own w' l h A xs := hi'.keep (fun _ h1 h2 => hc.cell (by omega) (by omega)) (fun _ h1 h2 => hc.frozen (by omega) (by omega))
theorem Own.alloc (h : Own w lo hi A xs) (hB : hi ≤ w.heap.size) (o : Obj) : Own (w.alloc o) lo hi A xs := h.below ((Below.refl _ _).alloc (Nat.le_refl _) o) hB
theorem Own.drewN (h : Own w lo hi A xs) (n : Nat) : Own (w.drewN n) lo hi A xs := h
end

/-- The first k numbers are alike. -/
def SameTo (xs ys : List Int) (k : Nat) : Prop := ∀ j, (h : j < xs.length) → (h' : j < ys.length) → j < k → xs[j] = ys[j]
theorem SameTo.zero (xs ys : List Int) : SameTo xs ys 0 := fun _ _ _ h => absurd h (by omega)
theorem SameTo.succ {xs ys : List Int} {k : Nat} (h : SameTo xs ys k) (hk : k < xs.length) (hk' : k < ys.length) (hx : xs[k] = ys[k]) : SameTo xs ys (k + 1) := fun j hj hj' hjk => by
  rcases Nat.lt_or_ge j k with h1 | h1
  · exact h j hj hj' h1
  · obtain rfl : j = k := by omega
    exact hx
theorem SameTo.all {xs ys : List Int} (h : SameTo xs ys xs.length) (hn : xs.length = ys.length) : xs = ys :=
  List.ext_getElem hn fun j hj hj' => h j hj hj' hj
theorem ne_of_at {xs ys : List Int} {k : Nat} (hk : k < xs.length) (hk' : k < ys.length) (hx : ¬ xs[k] = ys[k]) : ¬ xs = ys := by
  rintro rfl; exact hx rfl

/-- Numbers as values. -/
def ints (xs : List Int) : List Value := xs.map (Value.int .i64)
theorem ints_length (xs : List Int) : (ints xs).length = xs.length := by simp [ints]
theorem ints_at (xs : List Int) (j : Nat) (h : j < xs.length) : (ints xs)[j]? = some (.int .i64 (xs.getD j 0)) := by simp [ints, h]
theorem ints_one (xs : List Int) : ∀ u ∈ ints xs, u.oneCell' = true := by
  intro u hu
  obtain ⟨x, _, rfl⟩ := List.mem_map.1 hu
  rfl

theorem own_of_row {w : World} {base : Nat} {e : TypeId} {v : Value} {xs : List Int} (h : w.ownsRow base e 1 v xs.length (ints xs)) :
    ∃ A c, v = .slice A xs.length c ∧ xs.length ≤ c ∧ Own w base w.heap.size A xs := by
  rcases h.2 with ⟨rfl, h0⟩ | ⟨g, cap, cur, rfl, hb, hg, hnc, _⟩
  · exact ⟨none, 0, by rw [h0], by omega, fun h => absurd h (by omega)⟩
  · refine ⟨some ⟨g, 0, none⟩, cap, rfl, hnc, fun _ => ⟨g, 0, rfl, hb, (h.lt g rfl).2, fun j hj => ?_, fun j hj => ?_⟩⟩
    · rw [Nat.zero_add, h.cellAt j (by omega), ints_at xs j hj]
    · rw [Nat.zero_add]; exact h.frozenAt j

theorem drewN_two (w : World) (a b : Nat) : ∃ m, (w.drewN a).drewN b = w.drewN m := ⟨a + b, by rw [World.drewN_drewN]⟩
theorem Own.stored {w : World} {lo hi b o : Nat} {xs : List Int} (h : Own w lo hi (some ⟨b, o, none⟩) xs) {j : Nat} (hj : j < xs.length) (x : Int) :
    Own (w.setCell ⟨b, o + j, none⟩ (.int .i64 x)) lo hi (some ⟨b, o, none⟩) (xs.set j x) := fun hn => by
  obtain ⟨b', o', e, h1, h2, hc, hf⟩ := h (by simpa using hn)
  cases e
  refine ⟨b, o, rfl, h1, h2, fun i hi' => ?_, fun i hi' => ?_⟩
  · have hi'' : i < xs.length := by simpa using hi'
    by_cases e : i = j
    · subst e
      rw [World.cell?_setCell_same _ _ _ (hc i hi'')]
      simp [hi'']
    · rw [World.cell?_setCell_other _ _ _ _ (fun h' => e (by injection h' with _ h2; omega)), hc i hi'']
      simp [Ne.symm e]
  · rw [World.frozen?_setCell]; exact hf i (by simpa using hi')
theorem Own.set_out {w : World} {lo hi : Nat} {A : Option Addr} {xs : List Int} (h : Own w lo hi A xs) {p : Addr} (hp : p.block < lo ∨ hi ≤ p.block) (u : Value) : Own (w.setCell p u) lo hi A xs :=
  h.keep (fun q h1 h2 => World.cell?_setCell_other _ _ _ _ (by rintro rfl; omega)) (fun q _ _ => by rw [World.frozen?_setCell])
theorem Ints.set_out {w : World} {lo hi : Nat} {A : Option Addr} {xs : List Int} (h : Ints w lo hi A xs) {p : Addr} (hp : p.block < lo ∨ hi ≤ p.block) (u : Value) : Ints (w.setCell p u) lo hi A xs :=
  h.keep (fun q h1 h2 => World.cell?_setCell_other _ _ _ _ (by rintro rfl; omega))
/-- The marks q, q + 1, .. -/
def marks (q : Int) (n : Nat) : List Int := (List.range n).map fun (i : Nat) => q + (i : Int)
theorem marks_length (q : Int) (n : Nat) : (marks q n).length = n := by simp [marks]
theorem marks_at (q : Int) (n k : Nat) (h : k < (marks q n).length) : (marks q n)[k] = q + k := by simp [marks]
def marked (xs : List Int) (q : Int) (k : Nat) : List Int := marks q k ++ xs.drop k
theorem marked_length (xs : List Int) (q : Int) (k : Nat) (h : k ≤ xs.length) : (marked xs q k).length = xs.length := by simp [marked, marks_length]; omega
theorem marked_zero (xs : List Int) (q : Int) : marked xs q 0 = xs := by simp [marked, marks]
theorem marked_all (xs : List Int) (q : Int) : marked xs q xs.length = marks q xs.length := by simp [marked]
theorem marked_set (xs : List Int) (q : Int) (k : Nat) (h : k < xs.length) : (marked xs q k).set k (q + k) = marked xs q (k + 1) := by
  unfold marked
  have e : marks q (k + 1) = marks q k ++ [q + k] := by simp [marks, List.range_succ]
  rw [List.set_append_right _ _ (by rw [marks_length]; exact Nat.le_refl _), marks_length, Nat.sub_self, e, List.drop_eq_getElem_cons h, List.set_cons_zero, List.append_assoc]; rfl

theorem addr_add (b o j : Nat) : (⟨b, o, none⟩ : Addr).add j = ⟨b, o + j, none⟩ := by
  unfold Addr.add
  by_cases hz : j = 0 <;> simp [hz]
/-- A slice that is not empty has an address, and its numbers lie there. -/
theorem Ints.news {w : World} {lo hi : Nat} {A : Option Addr} {xs : List Int} (h : Ints w lo hi A xs) (hn : 0 < xs.length) :
    ∃ b o, A = some ⟨b, o, none⟩ ∧ lo ≤ b ∧ b < hi ∧ ∀ j u, (ints xs)[j]? = some u → w.cell? ((⟨b, o, none⟩ : Addr).add j) = some u := by
  obtain ⟨b, o, e, h1, h2, hc⟩ := h hn
  refine ⟨b, o, e, h1, h2, fun j u hu => ?_⟩
  have hj : j < xs.length := by
    have := (List.getElem?_eq_some_iff.1 hu).1
    rwa [ints_length] at this
  rw [ints_at xs j hj] at hu
  rw [addr_add, hc j hj, hu]

/-- What a function that hands a new slice of numbers back leaves. -/
def RetInts (w : World) (xs : List Int) (e : Ending) (w' : World) : Prop :=
  ∃ A c, e = .returned (.slice A xs.length c) ∧ Own w' w.heap.size w'.heap.size A xs ∧ Below w.heap.size w w'
/-- What a function that hands a new case back leaves. -/
def RetCase (w : World) (E : Int) (xs : List Int) (e : Ending) (w' : World) : Prop :=
  ∃ A c, e = .returned (.agg #[.int .i64 E, .slice A xs.length c]) ∧ Own w' w.heap.size w'.heap.size A xs ∧ Below w.heap.size w w'
/-- What a function that hands a new case and a bool back leaves. -/
def RetCaseB (w : World) (E : Int) (xs : List Int) (b : Bool) (e : Ending) (w' : World) : Prop :=
  ∃ A c, e = .returned (.tuple #[.agg #[.int .i64 E, .slice A xs.length c], .bool b]) ∧ Own w' w.heap.size w'.heap.size A xs ∧ Below w.heap.size w w'

/-- A row that is written from the left. -/
def fillTo (xs : List Int) (k : Nat) : List Int := xs.take k ++ List.replicate (xs.length - k) 0
theorem fillTo_length (xs : List Int) (k : Nat) (h : k ≤ xs.length) : (fillTo xs k).length = xs.length := by simp [fillTo]; omega
theorem fillTo_zero (xs : List Int) : fillTo xs 0 = List.replicate xs.length 0 := by simp [fillTo]
theorem fillTo_all (xs : List Int) : fillTo xs xs.length = xs := by simp [fillTo]
theorem fillTo_at (xs : List Int) (k : Nat) (h : k < xs.length) : (ints (fillTo xs k))[k]? = some (.int .i64 0) := by
  rw [ints_at _ k (by rw [fillTo_length xs k (by omega)]; exact h)]
  simp only [fillTo]
  rw [List.getD_eq_getElem?_getD, List.getElem?_append_right (by rw [List.length_take]; omega)]
  rw [List.getElem?_replicate]
  split <;> rfl
theorem fillTo_set (xs : List Int) (k : Nat) (h : k < xs.length) : (fillTo xs k).set k xs[k] = fillTo xs (k + 1) := by
  unfold fillTo
  have e : xs.length - k = (xs.length - (k + 1)) + 1 := by omega
  rw [e, List.replicate_succ, List.set_append_right _ _ (by simp [List.length_take]; omega), List.take_succ_eq_append_getElem h]
  have e2 : k - (xs.take k).length = 0 := by rw [List.length_take]; omega
  rw [e2, List.set_cons_zero, List.append_assoc]; rfl
theorem ints_set (xs : List Int) (k : Nat) (x : Int) : ints (xs.set k x) = (ints xs).set k (.int .i64 x) := by simp [ints, List.map_set]

/-- A case: its estate and its claims. -/
def caseOkB (E : Int) (xs : List Int) : Bool := decide (1 ≤ xs.length ∧ xs.length ≤ 4 ∧ (∀ x ∈ xs, 0 ≤ x ∧ x ≤ 12) ∧ 0 ≤ E ∧ E ≤ xs.sum)
theorem caseOk_iff (E : Int) (xs : List Int) : caseOkB E xs = true ↔ (1 ≤ xs.length ∧ xs.length ≤ 4 ∧ (∀ x ∈ xs, 0 ≤ x ∧ x ≤ 12) ∧ 0 ≤ E ∧ E ≤ xs.sum) := by simp [caseOkB]
theorem caseOk_len (E : Int) (xs : List Int) (h : ¬ (1 ≤ xs.length ∧ xs.length ≤ 4)) : caseOkB E xs = false := by
  simp only [caseOkB, decide_eq_false_iff_not]; intro h'; exact h ⟨h'.1, h'.2.1⟩
theorem caseOk_bad (E : Int) (xs : List Int) (k : Nat) (hk : k < xs.length) (h : ¬ (0 ≤ xs[k] ∧ xs[k] ≤ 12)) : caseOkB E xs = false := by
  simp only [caseOkB, decide_eq_false_iff_not]; intro h'; exact h (h'.2.2.1 _ (List.getElem_mem hk))
theorem caseOk_end (E : Int) (xs : List Int) (h1 : 1 ≤ xs.length ∧ xs.length ≤ 4) (h2 : ∀ x ∈ xs, 0 ≤ x ∧ x ≤ 12) : caseOkB E xs = decide (0 ≤ E ∧ E ≤ xs.sum) := by
  simp only [caseOkB, decide_eq_decide]
  exact ⟨fun h => h.2.2.2, fun h => ⟨h1.1, h1.2, h2, h⟩⟩
theorem caseOk_neg (E : Int) (xs : List Int) (h : ¬ (0 ≤ E)) : caseOkB E xs = false := by
  simp only [caseOkB, decide_eq_false_iff_not]; intro h'; exact h h'.2.2.2.1
/-- The first k numbers are in range. -/
def Upto (xs : List Int) (k : Nat) : Prop := ∀ j, (h : j < xs.length) → j < k → 0 ≤ xs[j] ∧ xs[j] ≤ 12
theorem Upto.zero (xs : List Int) : Upto xs 0 := fun _ _ h => absurd h (by omega)
theorem Upto.succ {xs : List Int} {k : Nat} (h : Upto xs k) (hk : k < xs.length) (hx : 0 ≤ xs[k] ∧ xs[k] ≤ 12) : Upto xs (k + 1) := fun j hj hjk => by
  rcases Nat.lt_or_ge j k with h1 | h1
  · exact h j hj h1
  · obtain rfl : j = k := by omega
    exact hx
theorem Upto.all {xs : List Int} (h : Upto xs xs.length) : ∀ x ∈ xs, 0 ≤ x ∧ x ≤ 12 := fun x hx => by
  obtain ⟨j, hj, rfl⟩ := List.getElem_of_mem hx
  exact h j hj hj
theorem small_of {xs : List Int} (h1 : xs.length ≤ 4) (h2 : ∀ x ∈ xs, 0 ≤ x ∧ x ≤ 12) : Small xs :=
  ⟨by omega, fun x hx => by have := h2 x hx; omega⟩

/-- What OtherCase returns. -/
def otherE (E : Int) (xs : List Int) : Int := if caseOkB E xs = true then xs.sum - E else 0
def sameE (E : Int) (xs : List Int) : Int := if caseOkB E xs = true then E else 0
def sameXs (E : Int) (xs : List Int) : List Int := if caseOkB E xs = true then xs else []
theorem sameXs_len (E : Int) (xs : List Int) : (sameXs E xs).length ≤ xs.length := by unfold sameXs; split <;> simp
/-- Two cells that may be written. -/
theorem new2f (w : World) (u v : Value) (t : TypeId) : (w.alloc (.cells #[u, v] t)).frozen? ⟨w.heap.size, 0, none⟩ = false ∧ (w.alloc (.cells #[u, v] t)).frozen? ⟨w.heap.size, 1, none⟩ = false :=
  ⟨by simp [go_sem], by simp [go_sem]⟩
theorem keep2f {B : Nat} {W w1 : World} (hb : Below B W w1) {b : Nat} (h : W.frozen? ⟨b, 0, none⟩ = false ∧ W.frozen? ⟨b, 1, none⟩ = false) (hB : b < B) : w1.frozen? ⟨b, 0, none⟩ = false ∧ w1.frozen? ⟨b, 1, none⟩ = false :=
  ⟨(hb.frozen (p := ⟨b, 0, none⟩) hB).trans h.1, (hb.frozen (p := ⟨b, 1, none⟩) hB).trans h.2⟩
theorem Own.drewN' {w : World} {lo hi : Nat} {A : Option Addr} {xs : List Int} (h : Own w lo hi A xs) (_n : Nat) : Own w.drew lo hi A xs := h
theorem hsz (w : World) (o : Obj) : (w.alloc o).heap.size = w.heap.size + 1 := by simp
theorem boxes2 (w : World) (u v u' v' : Value) (t t' : TypeId) :
    (((w.alloc (.cells #[u, v] t)).alloc (.cells #[u', v'] t')).cell? ⟨w.heap.size, 0, none⟩ = some u ∧ ((w.alloc (.cells #[u, v] t)).alloc (.cells #[u', v'] t')).cell? ⟨w.heap.size, 1, none⟩ = some v) ∧
    (((w.alloc (.cells #[u, v] t)).alloc (.cells #[u', v'] t')).cell? ⟨w.heap.size + 1, 0, none⟩ = some u' ∧ ((w.alloc (.cells #[u, v] t)).alloc (.cells #[u', v'] t')).cell? ⟨w.heap.size + 1, 1, none⟩ = some v') ∧
    (((w.alloc (.cells #[u, v] t)).alloc (.cells #[u', v'] t')).frozen? ⟨w.heap.size + 1, 0, none⟩ = false ∧ ((w.alloc (.cells #[u, v] t)).alloc (.cells #[u', v'] t')).frozen? ⟨w.heap.size + 1, 1, none⟩ = false) ∧
    Below w.heap.size w ((w.alloc (.cells #[u, v] t)).alloc (.cells #[u', v'] t')) ∧ ((w.alloc (.cells #[u, v] t)).alloc (.cells #[u', v'] t')).heap.size = w.heap.size + 2 := by
  have n1 := new2 (w.alloc (.cells #[u, v] t)) u' v' t'
  have n2 := new2f (w.alloc (.cells #[u, v] t)) u' v' t'
  have n3 := keep2 ((Below.refl (w.alloc (.cells #[u, v] t)).heap.size _).alloc (Nat.le_refl _) (.cells #[u', v'] t')) (new2 w u v t) (by rw [hsz]; omega)
  rw [hsz] at n1 n2
  exact ⟨n3, n1, n2, ((Below.refl w.heap.size w).alloc (Nat.le_refl _) _).alloc (by rw [hsz]; omega) _, by rw [hsz, hsz]⟩
/-- The claims cut. -/
def cutRow (E : Int) (xs : List Int) : List Int := xs.map fun x => min x E
theorem cutRow_length (E : Int) (xs : List Int) : (cutRow E xs).length = xs.length := by simp [cutRow]
theorem cutRow_at (E : Int) (xs : List Int) (k : Nat) (h : k < xs.length) : (cutRow E xs)[k]'(by rw [cutRow_length]; exact h) = if E < xs[k] then E else xs[k] := by
  simp only [cutRow, List.getElem_map]
  split <;> omega
def cutXs (E : Int) (xs : List Int) : List Int := if caseOkB E xs = true then cutRow E xs else []
theorem cutXs_len (E : Int) (xs : List Int) : (cutXs E xs).length ≤ xs.length := by unfold cutXs; split <;> simp [cutRow_length]
/-- The rights. -/
def rightsRow (E : Int) (xs : List Int) : List Int := xs.map fun x => max 0 (E - (xs.sum - x))
theorem rightsRow_length (E : Int) (xs : List Int) : (rightsRow E xs).length = xs.length := by simp [rightsRow]
theorem rightsRow_at (E : Int) (xs : List Int) (k : Nat) (h : k < xs.length) : (rightsRow E xs)[k]'(by rw [rightsRow_length]; exact h) = max 0 (E - (xs.sum - xs[k])) := by simp [rightsRow]
def rights (E : Int) (xs : List Int) : List Int := if caseOkB E xs = true then rightsRow E xs else []
theorem rights_len (E : Int) (xs : List Int) : (rights E xs).length ≤ xs.length := by unfold rights; split <;> simp [rightsRow_length]
/-- The claims less the rights. -/
def restRow (E : Int) (xs : List Int) : List Int := xs.map fun x => x - max 0 (E - (xs.sum - x))
theorem restRow_length (E : Int) (xs : List Int) : (restRow E xs).length = xs.length := by simp [restRow]
theorem restRow_at (E : Int) (xs : List Int) (k : Nat) (h : k < xs.length) : (restRow E xs)[k]'(by rw [restRow_length]; exact h) = xs[k] - (rightsRow E xs)[k]'(by rw [rightsRow_length]; exact h) := by simp [restRow, rightsRow]
def restXs (E : Int) (xs : List Int) : List Int := if caseOkB E xs = true then restRow E xs else []
def restE (E : Int) (xs : List Int) : Int := if caseOkB E xs = true then E - (rightsRow E xs).sum else 0
theorem restXs_len (E : Int) (xs : List Int) : (restXs E xs).length ≤ xs.length := by unfold restXs; split <;> simp [restRow_length]
/-- A row of which the first k numbers are written, and one more. -/
theorem fill_more {w : World} {G : Nat} {e : TypeId} {n : Nat} {R : List Int} {k : Nat} (h : w.ownsRow G e 1 (.slice (some ⟨G, 0, none⟩) n n) n (ints (fillTo R k))) (hk : k < R.length) (V : Int) (hV : R[k] = V) :
    (w.setCell ⟨G, k, none⟩ (.int .i64 V)).ownsRow G e 1 (.slice (some ⟨G, 0, none⟩) n n) n (ints (fillTo R (k + 1))) := by
  have h1 := (h.stored k (.int .i64 V)).1
  rw [← ints_set, ← hV, fillTo_set R k hk] at h1
  rw [← hV]
  exact h1
theorem fill_start {w : World} {G : Nat} {e : TypeId} {R : List Int} {n : Nat} (hn : R.length = n) (h : w.ownsRow G e 1 (.slice (some ⟨G, 0, none⟩) n n) n (madeCells (Value.int .i64 0).cells (n * 1)).toList) :
    w.ownsRow G e 1 (.slice (some ⟨G, 0, none⟩) n n) n (ints (fillTo R 0)) := by
  have e1 : ints (fillTo R 0) = (madeCells (Value.int .i64 0).cells (n * 1)).toList := by
    rw [fillTo_zero, hn, Nat.mul_one]
    show _ = (madeCells #[Value.int .i64 0] n).toList
    rw [toList_madeCells_one]; simp [ints]
  rw [e1]; exact h
theorem fill_cell {w : World} {G : Nat} {e : TypeId} {n : Nat} {R : List Int} {k : Nat} (h : w.ownsRow G e 1 (.slice (some ⟨G, 0, none⟩) n n) n (ints (fillTo R k))) (hn : R.length = n) (hk : k < n) :
    w.cell? ⟨G, k, none⟩ = some (.int .i64 0) ∧ w.frozen? ⟨G, k, none⟩ = false := by
  subst hn
  exact ⟨by rw [h.cellAt k (by omega), fillTo_at R k hk], h.frozenAt k⟩
theorem fill_end {w : World} {G : Nat} {e : TypeId} {n : Nat} {R : List Int} (h : w.ownsRow G e 1 (.slice (some ⟨G, 0, none⟩) n n) n (ints (fillTo R n))) (hn : R.length = n) :
    Own w G w.heap.size (some ⟨G, 0, none⟩) R := by
  subst hn
  rw [fillTo_all] at h
  obtain ⟨A, c, e1, _, ho⟩ := own_of_row h
  injection e1 with e1 _ _
  subst e1
  exact ho

/-- What OwedOf returns. -/
def owedOf (E : Int) (xs : List Int) : Int := if caseOkB E xs = true then xs.sum else -1
theorem caseOk_small {E : Int} {xs : List Int} (h : caseOkB E xs = true) : Small xs := small_of ((caseOk_iff E xs).1 h).2.1 ((caseOk_iff E xs).1 h).2.2.1
theorem caseOk_bd {E : Int} {xs : List Int} (h : caseOkB E xs = true) : 0 < xs.length ∧ xs.length ≤ 4 ∧ 0 ≤ E ∧ E ≤ xs.sum ∧ xs.sum ≤ 48 := by
  have h1 := (caseOk_iff E xs).1 h
  have h2 := sum_bd_aux 12 (by omega) xs fun x hx => by have := h1.2.2.1 x hx; omega
  exact ⟨h1.1, h1.2.1, h1.2.2.2.1, h1.2.2.2.2, by omega⟩

end Go.Proofs.Ytbegdcnljafloaa
namespace Go.Proofs.Ytbegdcnljafloaa
open Go.RowKit

/-- Two cells that are known and may be written. -/
structure Box (w : World) (b : Nat) (u v : Value) : Prop where
  c0 : w.cell? ⟨b, 0, none⟩ = some u
  c1 : w.cell? ⟨b, 1, none⟩ = some v
  f0 : w.frozen? ⟨b, 0, none⟩ = false
  f1 : w.frozen? ⟨b, 1, none⟩ = false
  lt : b < w.heap.size
section
variable {w w' : World} {b : Nat} {u v : Value}
theorem Box.of_block (h : Box w b u v) (e : w'.heap[b]? = w.heap[b]?) (hs : w.heap.size ≤ w'.heap.size) : Box w' b u v :=
  ⟨(World.cell?_of_block (w := w) (a := ⟨b, 0, none⟩) e).trans h.c0, (World.cell?_of_block (w := w) (a := ⟨b, 1, none⟩) e).trans h.c1, (World.frozen?_of_block (w := w) (a := ⟨b, 0, none⟩) e).trans h.f0, (World.frozen?_of_block (w := w) (a := ⟨b, 1, none⟩) e).trans h.f1, Nat.lt_of_lt_of_le h.lt hs⟩
theorem Box.chg {lo hi : Nat} (h : Box w b u v) (k : Chg lo hi w w') (hn : ¬ (lo ≤ b ∧ b < hi)) : Box w' b u v := h.of_block (k.block b h.lt hn) k.size
theorem Box.below {B : Nat} (h : Box w b u v) (k : Below B w w') (hn : b < B) : Box w' b u v := h.of_block (k.block b hn) k.size
theorem Box.alloc (h : Box w b u v) (o : Obj) : Box (w.alloc o) b u v := h.of_block (Below.heap_alloc w o b h.lt) (by simp)
theorem Box.grown {row : Option Nat} (h : Box w b u v) (k : w.grownBy w' row) (hn : some b ≠ row) : Box w' b u v := h.of_block (k.block b h.lt hn) k.size
theorem Box.new (w : World) (u v : Value) (t : TypeId) : Box (w.alloc (.cells #[u, v] t)) w.heap.size u v :=
  ⟨(new2 w u v t).1, (new2 w u v t).2, (new2f w u v t).1, (new2f w u v t).2, by simp⟩
theorem Box.set0 (h : Box w b u v) (x : Value) : Box (w.setCell ⟨b, 0, none⟩ x) b x v :=
  ⟨World.cell?_setCell_same _ _ _ h.c0, (World.cell?_setCell_other _ _ _ _ (by intro e; injection e with _ e2 _; omega)).trans h.c1, (World.frozen?_setCell _ _ _ _).trans h.f0, (World.frozen?_setCell _ _ _ _).trans h.f1, by simpa [World.setCell] using h.lt⟩
theorem Box.set1 (h : Box w b u v) (x : Value) : Box (w.setCell ⟨b, 1, none⟩ x) b u x :=
  ⟨(World.cell?_setCell_other _ _ _ _ (by intro e; injection e with _ e2 _; omega)).trans h.c0, World.cell?_setCell_same _ _ _ h.c1, (World.frozen?_setCell _ _ _ _).trans h.f0, (World.frozen?_setCell _ _ _ _).trans h.f1, by simpa [World.setCell] using h.lt⟩
theorem Box.far (h : Box w b u v) {p : Addr} (hp : b ≠ p.block) (x : Value) : Box (w.setCell p x) b u v := h.of_block (Below.heap_setCell w p x b hp) (by simp [World.setCell])
end

end Go.Proofs.Ytbegdcnljafloaa
namespace Go.Proofs.Ytbegdcnljafloaa
open Go.RowKit

theorem quiet_left {P : Program} {f : FuncId} {args : Array Value} {w : World} {n : Nat} {v : Value}
    (h : Calls P f args (w.drewN n) fun e w' => e = .returned v ∧ w.drewN n = w') : Calls P f args (w.drewN n) fun e w'' => e = .returned v ∧ ∃ m, w'' = w.drewN m :=
  h.mono fun _ _ ⟨he, hm⟩ => ⟨he, n, hm.symm⟩

set_option maxRecDepth 10000 in
set_option maxHeartbeats 400000 in
theorem sumOf_any (A : Option Addr) (c : Nat) (xs : List Int) (w : World) (lo hi : Nat) (h : Ints w lo hi A xs) (hs : Small xs) :
    Calls Try.prog 53 #[.slice A xs.length c] w fun e w' => e = .returned (.int .i64 xs.sum) ∧ w = w' := by
  have hlen := hs.1
  go_enter Try.func53, Try.ntmps53
  go_wp2
  go_loop [3, 8] (fun s i => ∃ k : Nat, k ≤ xs.length ∧ i = .int .i64 k ∧ s = .int .i64 (xs.take k).sum) (fun _ i => xs.length - (intOf i).toNat)
  case atStart => exact ⟨0, Nat.zero_le _, rfl, rfl⟩
  case round =>
    obtain ⟨k, hk, rfl, rfl⟩ := hrel
    have hd := sum_bd xs hs k
    by_cases hlt : k < xs.length
    · obtain ⟨b, o, rfl, _, _, hc⟩ := h.at_ hlt
      have hv := small_at xs hs k hlt
      have hS := Lib.hid (sum_snoc xs k hlt)
      go_wp2
      go_round
      case rel => exact ⟨k + 1, by omega, by go_num, by rw [hS.out]⟩
      case measure => simp [intOf]; omega
    · obtain rfl : k = xs.length := by omega
      go_wp2
      go_ret
      exact ⟨ret_int (by simp), rfl⟩

set_option maxRecDepth 10000 in
set_option maxHeartbeats 400000 in
theorem l1Sum_any (A : Option Addr) (c : Nat) (xs : List Int) (w : World) (lo hi : Nat) (h : Ints w lo hi A xs) (hs : Small xs) :
    Calls Try.prog 52 #[.slice A xs.length c] w fun e w' => e = .returned (.int .i64 xs.sum) ∧ w = w' := by
  have hlen := hs.1
  go_enter Try.func52, Try.ntmps52
  go_wp2
  go_loop [3, 4] (fun s i => ∃ k : Nat, k ≤ xs.length ∧ i = .int .i64 k ∧ s = .int .i64 (xs.take k).sum) (fun _ i => xs.length - (intOf i).toNat)
  case atStart => exact ⟨0, Nat.zero_le _, rfl, rfl⟩
  case round =>
    obtain ⟨k, hk, rfl, rfl⟩ := hrel
    have hd := sum_bd xs hs k
    by_cases hlt : k < xs.length
    · obtain ⟨b, o, rfl, _, _, hc⟩ := h.at_ hlt
      have hv := small_at xs hs k hlt
      have hS := Lib.hid (sum_snoc xs k hlt)
      go_wp2
      go_round
      case rel => exact ⟨k + 1, by omega, by go_num, by rw [hS.out]⟩
      case measure => simp [intOf]; omega
    · obtain rfl : k = xs.length := by omega
      go_wp2
      go_ret
      exact ⟨ret_int (by simp), rfl⟩

set_option maxRecDepth 10000 in
set_option maxHeartbeats 400000 in
theorem l1In_any (n a b : Int) (w : World) :
    Calls Try.prog 43 #[.int .i64 n, .int .i64 a, .int .i64 b] w fun e w' => e = .returned (.bool (decide (a ≤ n ∧ n ≤ b))) ∧ w = w' := by
  by_cases h1 : a ≤ n
  · by_cases h2 : n ≤ b
    all_goals
      go_enter Try.func43, Try.ntmps43
      go_wp2
      go_ret
      exact ⟨ret_bool (by simp [h1, h2]), rfl⟩
  · go_enter Try.func43, Try.ntmps43
    go_wp2
    go_ret
    exact ⟨ret_bool (by simp; omega), rfl⟩

theorem l1In_yes (n a b : Int) (w : World) (h : a ≤ n ∧ n ≤ b) :
    Calls Try.prog 43 #[.int .i64 n, .int .i64 a, .int .i64 b] w fun e w' => e = .returned (.bool true) ∧ w = w' :=
  (l1In_any n a b w).mono fun _ _ ⟨he, hw⟩ => ⟨by rw [he]; simp [h], hw⟩
theorem l1In_no (n a b : Int) (w : World) (h : ¬ (a ≤ n ∧ n ≤ b)) :
    Calls Try.prog 43 #[.int .i64 n, .int .i64 a, .int .i64 b] w fun e w' => e = .returned (.bool false) ∧ w = w' :=
  (l1In_any n a b w).mono fun _ _ ⟨he, hw⟩ => ⟨by rw [he, decide_eq_false h], hw⟩

end Go.Proofs.Ytbegdcnljafloaa
namespace Go.Proofs.Ytbegdcnljafloaa
open Go.RowKit

/-- Each number is from 0 up to g. -/
def allB (g : Int) (xs : List Int) : Bool := decide (∀ x ∈ xs, 0 ≤ x ∧ x ≤ g)
theorem allB_iff (g : Int) (xs : List Int) : allB g xs = true ↔ ∀ x ∈ xs, 0 ≤ x ∧ x ≤ g := by simp [allB]
theorem allB_bad (g : Int) (xs : List Int) (k : Nat) (hk : k < xs.length) (h : ¬ (0 ≤ xs[k] ∧ xs[k] ≤ g)) : allB g xs = false := by
  simp only [allB, decide_eq_false_iff_not]; intro h'; exact h (h' _ (List.getElem_mem hk))
/-- The first k numbers are. -/
def AllTo (g : Int) (xs : List Int) (k : Nat) : Prop := ∀ j, (h : j < xs.length) → j < k → 0 ≤ xs[j] ∧ xs[j] ≤ g
theorem AllTo.zero (g : Int) (xs : List Int) : AllTo g xs 0 := fun _ _ h => absurd h (by omega)
theorem AllTo.succ {g : Int} {xs : List Int} {k : Nat} (h : AllTo g xs k) (hk : k < xs.length) (hx : 0 ≤ xs[k] ∧ xs[k] ≤ g) : AllTo g xs (k + 1) := fun j hj hjk => by
  rcases Nat.lt_or_ge j k with h1 | h1
  · exact h j hj h1
  · obtain rfl : j = k := by omega
    exact hx
theorem AllTo.all {g : Int} {xs : List Int} (h : AllTo g xs xs.length) : allB g xs = true := (allB_iff g xs).2 fun x hx => by
  obtain ⟨j, hj, rfl⟩ := List.getElem_of_mem hx
  exact h j hj hj

set_option maxRecDepth 10000 in
set_option maxHeartbeats 400000 in
theorem allUpTo_any (g : Int) (A : Option Addr) (c : Nat) (xs : List Int) (w : World) (lo hi : Nat) (h : Ints w lo hi A xs) (hl : xs.length ≤ 1152921504606846976) :
    Calls Try.prog 42 #[.int .i64 g, .slice A xs.length c] w fun e w' => e = .returned (.bool (allB g xs)) ∧ w = w' := by
  go_enter Try.func42, Try.ntmps42
  go_wp2
  go_loop [9] (fun i => ∃ k : Nat, k ≤ xs.length ∧ i = .int .i64 k ∧ AllTo g xs k) (fun i => xs.length - (intOf i).toNat)
  case atStart => exact ⟨0, Nat.zero_le _, rfl, AllTo.zero _ _⟩
  case round =>
    obtain ⟨k, hk, rfl, hu⟩ := hrel
    by_cases hlt : k < xs.length
    · obtain ⟨b, o, rfl, _, hb, hc⟩ := h.at_ hlt
      by_cases hx : 0 ≤ xs[k] ∧ xs[k] ≤ g
      · have hu' := hu.succ hlt hx
        obtain ⟨hx1, hx2⟩ := hx
        clear hu
        go_wp2
        go_round
        case rel => exact ⟨k + 1, by omega, by go_num, hu'⟩
        case measure => simp [intOf]; omega
      · have hbad := Lib.hid (allB_bad g xs k hlt hx)
        by_cases hx1 : 0 ≤ xs[k]
        · have hx2 : ¬ xs[k] ≤ g := by omega
          clear hx
          go_wp2
          go_ret
          exact ⟨ret_bool hbad.out.symm, rfl⟩
        · clear hx
          go_wp2
          go_ret
          exact ⟨ret_bool hbad.out.symm, rfl⟩
    · obtain rfl : k = xs.length := by omega
      have hend := Lib.hid hu.all
      clear hu
      go_wp2
      go_ret
      exact ⟨ret_bool hend.out.symm, rfl⟩

theorem allUpTo_is (g : Int) (A : Option Addr) (c : Nat) (xs : List Int) (w : World) (lo hi : Nat) (h : Ints w lo hi A xs) (hl : xs.length ≤ 1152921504606846976) {b : Bool} (hb : allB g xs = b) :
    Calls Try.prog 42 #[.int .i64 g, .slice A xs.length c] w fun e w' => e = .returned (.bool b) ∧ w = w' := by
  rw [← hb]; exact allUpTo_any g A c xs w lo hi h hl

end Go.Proofs.Ytbegdcnljafloaa
namespace Go.Proofs.Ytbegdcnljafloaa
open Go.RowKit

/-- 1..4 numbers, each in 0..g. -/
def eachB (g : Int) (xs : List Int) : Bool := decide (1 ≤ xs.length ∧ xs.length ≤ 4 ∧ ∀ x ∈ xs, 0 ≤ x ∧ x ≤ g)
theorem eachB_iff (g : Int) (xs : List Int) : eachB g xs = true ↔ (1 ≤ xs.length ∧ xs.length ≤ 4 ∧ ∀ x ∈ xs, 0 ≤ x ∧ x ≤ g) := by simp [eachB]
theorem eachB_len {g : Int} {xs : List Int} (h : ¬ (1 ≤ xs.length ∧ xs.length ≤ 4)) : eachB g xs = false := by
  cases e : eachB g xs with
  | false => rfl
  | true => exact absurd ⟨((eachB_iff g xs).1 e).1, ((eachB_iff g xs).1 e).2.1⟩ h
theorem eachB_all {g : Int} {xs : List Int} (h : 1 ≤ xs.length ∧ xs.length ≤ 4) : eachB g xs = allB g xs := by
  cases e : allB g xs with
  | true => exact (eachB_iff g xs).2 ⟨h.1, h.2, (allB_iff g xs).1 e⟩
  | false =>
    cases e2 : eachB g xs with
    | false => rfl
    | true => rw [(allB_iff g xs).2 ((eachB_iff g xs).1 e2).2.2] at e; cases e
set_option maxRecDepth 10000 in
set_option maxHeartbeats 400000 in
theorem eachUpTo_any (g : Int) (A : Option Addr) (c : Nat) (xs : List Int) (w : World) (lo hi : Nat) (h : Ints w lo hi A xs) (hl : xs.length ≤ 1152921504606846976) :
    Calls Try.prog 58 #[.int .i64 g, .slice A xs.length c] w fun e w' => e = .returned (.bool (eachB g xs)) ∧ w = w' := by
  by_cases hlen : 1 ≤ xs.length ∧ xs.length ≤ 4
  · rw [eachB_all hlen]
    obtain ⟨hl1, hl2⟩ := hlen
    go_enter Try.func58, Try.ntmps58
    go_wp2_with (go_at_call 42; refine (allUpTo_any g _ _ _ _ _ _ h hl).mono ?_; rintro e w' ⟨rfl, rfl⟩)
    go_ret
    exact ⟨ret_bool rfl, rfl⟩
  · have hbad := Lib.hid (eachB_len (g := g) hlen)
    by_cases hl1 : 1 ≤ xs.length
    · have hl2 : ¬ xs.length ≤ 4 := by omega
      clear hlen
      go_enter Try.func58, Try.ntmps58
      go_wp2
      go_ret
      exact ⟨ret_bool hbad.out.symm, rfl⟩
    · clear hlen
      go_enter Try.func58, Try.ntmps58
      go_wp2
      go_ret
      exact ⟨ret_bool hbad.out.symm, rfl⟩

theorem eachUpTo_is (g : Int) (A : Option Addr) (c : Nat) (xs : List Int) (w : World) (lo hi : Nat) (h : Ints w lo hi A xs) (hl : xs.length ≤ 1152921504606846976) {b : Bool} (hb : eachB g xs = b) :
    Calls Try.prog 58 #[.int .i64 g, .slice A xs.length c] w fun e w' => e = .returned (.bool b) ∧ w = w' := by
  rw [← hb]; exact eachUpTo_any g A c xs w lo hi h hl

end Go.Proofs.Ytbegdcnljafloaa
namespace Go.Proofs.Ytbegdcnljafloaa
open Go.RowKit

theorem case_of_zero {E : Int} {xs : List Int} (h : caseOkB E xs = true) : caseOkB 0 xs = true := by
  have h1 := (caseOk_iff E xs).1 h
  exact (caseOk_iff 0 xs).2 ⟨h1.1, h1.2.1, h1.2.2.1, by omega, by omega⟩
theorem other_ok {E : Int} {xs : List Int} (h : caseOkB E xs = true) : caseOkB (xs.sum - E) xs = true := by
  have h1 := (caseOk_iff E xs).1 h
  exact (caseOk_iff (xs.sum - E) xs).2 ⟨h1.1, h1.2.1, h1.2.2.1, by omega, by omega⟩

end Go.Proofs.Ytbegdcnljafloaa
namespace Go.Proofs.Ytbegdcnljafloaa
open Go.RowKit

theorem info_int : (Try.prog.info? 3).map (fun i => (i.zero, i.size, i.bytes)) = some (some (.int .i64 0), 1, 8) := by kernel_rfl

set_option maxRecDepth 10000 in
set_option maxHeartbeats 400000 in
theorem clone_any (A : Option Addr) (c : Nat) (xs : List Int) (w : World) (lo hi : Nat) (h : Ints w lo hi A xs) (hh : hi ≤ w.heap.size) (hn : 0 < xs.length) (hl : xs.length ≤ 1048576) :
    Calls Try.prog 54 #[.slice A xs.length c] w (RetInts w xs) := by
  obtain ⟨i0, hi0, hz0, hz1, hz2⟩ := info_parts info_int
  obtain ⟨b, o, rfl, h1, h2, hnews⟩ := h.news hn
  have qT : ∀ (w : World) (a : Option Addr) (n c n' c' : Nat), (binOp .eql 29 (.slice a n c) (.slice none n' c')).run Try.prog w = .ok (.bool a.isNone) w := fun w a n c n' c' => Lib.run_eql_slice_nil w _ _ a n c n' c' Try.underlying29
  have hown : (w.alloc (.cells #[] 3)).ownsRow w.heap.size 3 1 (.slice (some ⟨w.heap.size, 0, none⟩) 0 0) 0 [] := World.ownsRow_made w #[] 0 (Nat.le_refl _) (by unfold maxLen; omega) rfl
  have hnews' : ∀ j u, (ints xs)[j]? = some u → (w.alloc (.cells #[] 3)).cell? ((⟨b, o, none⟩ : Addr).add j) = some u := fun j u hu => by
    rw [World.cell?_alloc_lt w _ _ (by rw [addr_add]; show b < _; omega)]; exact hnews j u hu
  have hone := ints_one xs
  have hlen : Hid ((ints xs).length = xs.length * 1) := by show _ = _; rw [ints_length]; omega
  have hB : w.heap.size ≤ (w.alloc (.cells #[] 3)).heap.size := by simp
  go_enter Try.func54, Try.ntmps54
  go_wp2_with (at_builtin; refine wpList_append_own _ rfl _ _ 29 rfl w.heap.size 3 i0 (.int .i64 0) 1 8 Try.underlying29 hi0 hz0 hz1 hz2 rfl (by decide) _ _ _ rfl hown ⟨b, o, none⟩ xs.length c (ints xs) rfl hlen.out hnews' hone (by unfold maxLen; omega) (by omega) hB ?_; intro v1 w1 hown1 hgrow1 _)
  go_ret
  rw [Nat.zero_add, List.nil_append] at hown1
  obtain ⟨A', c', e1, _, ho⟩ := own_of_row hown1
  refine ⟨A', c', congrArg Ending.returned e1, ho, ((Below.refl w.heap.size w).alloc (Nat.le_refl _) _).grown hgrow1 hB (fun k hk => ?_)⟩
  have e : w.heap.size = k := by injection hk
  omega

end Go.Proofs.Ytbegdcnljafloaa
namespace Go.Proofs.Ytbegdcnljafloaa
open Go.RowKit

/-- Which places are taken behind the first k numbers of an order. -/
def seenAt (ys : List Int) (n : Nat) : Nat → List Bool
  | 0 => List.replicate n false
  | k + 1 => (seenAt ys n k).set (ys.getD k 0).toNat true
theorem seenAt_length (ys : List Int) (n : Nat) : ∀ k, (seenAt ys n k).length = n
  | 0 => by simp [seenAt]
  | k + 1 => by simp [seenAt, seenAt_length ys n k]
/-- The number at j is a place, and not taken before. -/
def OrdAt (ys : List Int) (n : Nat) (j : Nat) : Prop := 0 ≤ ys.getD j 0 ∧ ys.getD j 0 < n ∧ (seenAt ys n j).getD (ys.getD j 0).toNat false = false
def OrdTo (ys : List Int) (n : Nat) (k : Nat) : Prop := ∀ j, j < k → OrdAt ys n j
noncomputable def orderB (n : Nat) (ys : List Int) : Bool := @decide (ys.length = n ∧ OrdTo ys n ys.length) (Classical.propDecidable _)
theorem OrdTo.zero (ys : List Int) (n : Nat) : OrdTo ys n 0 := fun _ h => absurd h (by omega)
theorem OrdTo.succ {ys : List Int} {n k : Nat} (h : OrdTo ys n k) (hk : OrdAt ys n k) : OrdTo ys n (k + 1) := fun j hj => by
  rcases Nat.lt_or_ge j k with h1 | h1
  · exact h j h1
  · obtain rfl : j = k := by omega
    exact hk
theorem order_len {n : Nat} {ys : List Int} (h : ¬ ys.length = n) : orderB n ys = false := by simp [orderB, h]
theorem order_bad {n : Nat} {ys : List Int} {k : Nat} (hk : k < ys.length) (h : ¬ OrdAt ys n k) : orderB n ys = false := by
  have h' : ¬ (ys.length = n ∧ OrdTo ys n ys.length) := fun h2 => h (h2.2 k hk)
  simp [orderB, h']
theorem order_yes {n : Nat} {ys : List Int} (h : ys.length = n) (h2 : OrdTo ys n ys.length) : orderB n ys = true := by simp [orderB, h2]; exact h
theorem order_end {n : Nat} {ys : List Int} (h2 : OrdTo ys n ys.length) : orderB n ys = decide (ys.length = n) := by
  by_cases h : ys.length = n
  · rw [order_yes h h2]; simp [h]
  · rw [order_len h]; simp [h]

theorem bit_test (m y : Nat) : (((m : Int) / 2 ^ y).tmod 2 == 1) = m.testBit y := by
  have e : ((m : Int) / 2 ^ y) = ((m / 2 ^ y : Nat) : Int) := by
    rw [Int.natCast_ediv]; simp
  rw [e, Nat.testBit_eq_decide_div_mod_eq]
  have e2 : ((m / 2 ^ y : Nat) : Int).tmod 2 = ((m / 2 ^ y % 2 : Nat) : Int) := rfl
  rw [e2]
  by_cases h : m / 2 ^ y % 2 = 1
  · simp [h]
  · simp [h]; omega
theorem or_step_fin : ∀ m : Fin 16, ∀ y : Fin 4, bits .or .i64 (m.val : Int) (wrap64 (2 ^ y.val)) = ((m.val ||| 2 ^ y.val : Nat) : Int) ∧ (m.val ||| 2 ^ y.val) < 16 := by decide +kernel
theorem or_step {m y : Nat} (hm : m < 16) (hy : y < 4) : bits .or .i64 (m : Int) (wrap64 (2 ^ y)) = ((m ||| 2 ^ y : Nat) : Int) ∧ (m ||| 2 ^ y) < 16 := or_step_fin ⟨m, hm⟩ ⟨y, hy⟩
theorem seen_step {ys : List Int} {n k m y : Nat} (hy : ys.getD k 0 = (y : Int)) (hyn : y < n) (hbit : ∀ p, p < 4 → m.testBit p = (seenAt ys n k).getD p false) : ∀ p, p < 4 → (m ||| 2 ^ y).testBit p = (seenAt ys n (k + 1)).getD p false := fun p hp => by
  rw [Nat.testBit_or, Nat.testBit_two_pow, hbit p hp, seenAt, hy, Int.toNat_natCast]
  have hl := seenAt_length ys n k
  by_cases e : y = p
  · subst e
    simp [List.getD, hl, hyn]
  · simp [List.getD, e]

end Go.Proofs.Ytbegdcnljafloaa
namespace Go.Proofs.Ytbegdcnljafloaa
open Go.RowKit

theorem info_bool : (Try.prog.info? 4).map (fun i => (i.zero, i.size, i.bytes)) = some (some (.bool false), 1, 1) := by kernel_rfl
def bools (l : List Bool) : List Value := l.map Value.bool
theorem bools_set (l : List Bool) (k : Nat) (b : Bool) : bools (l.set k b) = (bools l).set k (.bool b) := by simp [bools, List.map_set]
theorem bools_at (l : List Bool) (k : Nat) (h : k < l.length) : (bools l)[k]? = some (.bool (l.getD k false)) := by simp [bools, h]

end Go.Proofs.Ytbegdcnljafloaa
namespace Go.Proofs.Ytbegdcnljafloaa
open Go.RowKit

theorem rightsRow_if (E : Int) (xs : List Int) (k : Nat) (h : k < xs.length) : (rightsRow E xs)[k]'(by rw [rightsRow_length]; exact h) = if xs.sum - xs[k] < E then E - (xs.sum - xs[k]) else 0 := by
  rw [rightsRow_at E xs k h]
  split <;> omega
theorem rights_at_bd {E : Int} {xs : List Int} (h : caseOkB E xs = true) (k : Nat) (hk : k < xs.length) : 0 ≤ (rightsRow E xs)[k]'(by rw [rightsRow_length]; exact hk) ∧ (rightsRow E xs)[k]'(by rw [rightsRow_length]; exact hk) ≤ 12 := by
  rw [rightsRow_at E xs k hk]
  have h1 := (caseOk_iff E xs).1 h
  have h2 := h1.2.2.1 _ (List.getElem_mem hk)
  omega
theorem rights_all {E : Int} {xs : List Int} (h : caseOkB E xs = true) : ∀ x ∈ rightsRow E xs, 0 ≤ x ∧ x ≤ 12 := fun x hx => by
  obtain ⟨j, hj, rfl⟩ := List.getElem_of_mem hx
  exact rights_at_bd h j (by rwa [rightsRow_length] at hj)
theorem rights_small {E : Int} {xs : List Int} (h : caseOkB E xs = true) : Small (rightsRow E xs) :=
  small_of (by rw [rightsRow_length]; exact (caseOk_bd h).2.1) (rights_all h)
theorem rights_sum {E : Int} {xs : List Int} (h : caseOkB E xs = true) : -48 ≤ (rightsRow E xs).sum ∧ (rightsRow E xs).sum ≤ 48 := by
  have h1 := sum_bd_aux 12 (by omega) (rightsRow E xs) fun x hx => by have := rights_all h x hx; omega
  have h2 := (caseOk_bd h).2.1
  rw [rightsRow_length] at h1
  omega
/-- One number more at the end of a row of the call's own. -/
theorem append_one {w1 : World} {B : Nat} {e : TypeId} {v1 : Value} {R : List Int} {k : Nat} (hk : k < R.length) (V : Int) (hV : R[k] = V) {n : Nat} (hn : n = k + 1)
    (h : w1.ownsRow B e 1 v1 n (ints (R.take k) ++ [.int .i64 V])) : w1.ownsRow B e 1 v1 (R.take (k + 1)).length (ints (R.take (k + 1))) := by
  have e1 : ints (R.take (k + 1)) = ints (R.take k) ++ [.int .i64 V] := by
    unfold ints
    rw [List.take_succ_eq_append_getElem hk, ← hV, List.map_append]; rfl
  have e2 : (R.take (k + 1)).length = n := by rw [List.length_take]; omega
  rw [e1, e2]; exact h

theorem news_one (w : World) (x : Int) (t : TypeId) : ∀ j u, [Value.int .i64 x][j]? = some u → (w.alloc (.cells #[.int .i64 x] t)).cell? ((⟨w.heap.size, 0, none⟩ : Addr).add j) = some u := by
  intro j u hj
  match j, hj with
  | 0, hj => simp at hj; subst hj; simp [Addr.add, go_sem]
theorem one_cell (x : Int) : ∀ u ∈ [Value.int .i64 x], u.oneCell' = true := by
  intro u hu; simp at hu; subst hu; rfl

end Go.Proofs.Ytbegdcnljafloaa
namespace Go.Proofs.Ytbegdcnljafloaa
open Go.RowKit

theorem cut_sum_aux (E : Int) (hE : 0 ≤ E) : ∀ xs : List Int, (∀ x ∈ xs, 0 ≤ x) → 0 ≤ (cutRow E xs).sum ∧ min E xs.sum ≤ (cutRow E xs).sum ∧ (cutRow E xs).sum ≤ xs.sum
  | [], _ => by simp [cutRow]; omega
  | x :: xs, h => by
    have h1 := h x (by simp)
    have h2 := cut_sum_aux E hE xs fun y hy => h y (by simp [hy])
    simp only [cutRow, List.map_cons, List.sum_cons] at h2 ⊢
    omega
theorem cut_ok {E : Int} {xs : List Int} (h : caseOkB E xs = true) : caseOkB E (cutRow E xs) = true := by
  have h1 := (caseOk_iff E xs).1 h
  have h2 := cut_sum_aux E h1.2.2.2.1 xs fun x hx => (h1.2.2.1 x hx).1
  refine (caseOk_iff E _).2 ⟨by rw [cutRow_length]; exact h1.1, by rw [cutRow_length]; exact h1.2.1, fun y hy => ?_, h1.2.2.2.1, by omega⟩
  obtain ⟨x, hx, rfl⟩ := List.mem_map.1 hy
  have := h1.2.2.1 x hx
  omega
theorem cut_idem (E : Int) (xs : List Int) : cutRow E (cutRow E xs) = cutRow E xs := by
  simp only [cutRow, List.map_map]
  apply List.map_congr_left
  intro x _
  simp only [Function.comp]
  omega
theorem cut_at_le (E : Int) (xs : List Int) (k : Nat) (h : k < xs.length) : (cutRow E xs)[k]'(by rw [cutRow_length]; exact h) ≤ xs[k] ∧ (cutRow E xs)[k]'(by rw [cutRow_length]; exact h) ≤ E := by
  rw [cutRow_at E xs k h]
  split <;> omega
theorem sum_parts (f g : Int → Int) (h : ∀ x, f x + g x = x) : ∀ xs : List Int, (xs.map f).sum + (xs.map g).sum = xs.sum
  | [] => by simp
  | x :: xs => by
    have h1 := sum_parts f g h xs
    have h2 := h x
    simp only [List.map_cons, List.sum_cons]
    omega
theorem rights_sum_le {E : Int} {xs : List Int} (h : caseOkB E xs = true) : (rightsRow E xs).sum ≤ E := by
  have h1 := (caseOk_iff E xs).1 h
  have h2 := cut_sum_aux (xs.sum - E) (by omega) xs fun x hx => (h1.2.2.1 x hx).1
  have h3 := sum_parts (fun x => max 0 (E - (xs.sum - x))) (fun x => min x (xs.sum - E)) (fun x => by omega) xs
  simp only [rightsRow, cutRow] at h2 h3 ⊢
  omega
theorem rights_cut_at (E : Int) (xs : List Int) (k : Nat) (h : k < xs.length) : (rightsRow E xs)[k]'(by rw [rightsRow_length]; exact h) = xs[k] - (cutRow (xs.sum - E) xs)[k]'(by rw [cutRow_length]; exact h) := by
  rw [rightsRow_at E xs k h, cutRow_at (xs.sum - E) xs k h]
  split <;> omega

theorem case_at' {E : Int} {xs : List Int} (h : caseOkB E xs = true) (k : Nat) (hk : k < xs.length) : 0 ≤ xs[k] ∧ xs[k] ≤ 12 := ((caseOk_iff E xs).1 h).2.2.1 _ (List.getElem_mem hk)
theorem cut_at_ge (E : Int) (xs : List Int) (k : Nat) (h : k < xs.length) (hE : 0 ≤ E) (hx : 0 ≤ xs[k]) : 0 ≤ (cutRow E xs)[k]'(by rw [cutRow_length]; exact h) := by
  rw [cutRow_at E xs k h]
  split <;> omega

end Go.Proofs.Ytbegdcnljafloaa
namespace Go.Proofs.Ytbegdcnljafloaa
open Go.RowKit

theorem caseOk_each {E : Int} {xs : List Int} (h : eachB 12 xs = false) : caseOkB E xs = false := by
  cases e : caseOkB E xs with
  | false => rfl
  | true =>
    have q := (caseOk_iff E xs).1 e
    rw [(eachB_iff _ _).2 ⟨q.1, q.2.1, q.2.2.1⟩] at h; cases h

set_option maxRecDepth 10000 in
set_option maxHeartbeats 400000 in
theorem implCaseOk_any (E : Int) (A : Option Addr) (c : Nat) (xs : List Int) (w : World) (lo hi : Nat) (h : Ints w lo hi A xs) (hh : hi ≤ w.heap.size) (hl : xs.length ≤ 1152921504606846976) :
    Calls Try.prog 45 #[.agg #[.int .i64 E, .slice A xs.length c]] w fun e w' => e = .returned (.bool (caseOkB E xs)) ∧ Below w.heap.size w w' := by
  have hw := h.alloc hh (.cells #[.int .i64 E, .slice A xs.length c] 31)
  by_cases ha : eachB 12 xs = true
  · have HA := Lib.hid ha
    have hlen := (eachB_iff _ _).1 ha
    have hs := small_of hlen.2.1 hlen.2.2
    have hend := Lib.hid (caseOk_end E xs ⟨hlen.1, hlen.2.1⟩ hlen.2.2)
    clear ha hlen
    go_enter Try.func45, Try.ntmps45
    go_wp2_with (go_at_call 58; refine (eachUpTo_is 12 _ _ _ _ _ _ hw hl HA.out).mono ?_; rintro e w' ⟨rfl, rfl⟩)
    by_cases he : 0 ≤ E
    · go_wp2
      go_quiet ((go_at_call 53; exact quiet_left (sumOf_any _ _ _ _ _ _ (hw.drewN _) hs)))
      go_wp2
      go_ret
      exact ⟨ret_bool (by rw [hend.out]; simp [he]), below_drewN ((Below.refl _ _).alloc (Nat.le_refl _) _) _⟩
    · have hd : decide (0 ≤ E) = false := by simpa using he
      go_wp2
      go_quiet (fail)
      go_wp2
      go_ret
      exact ⟨ret_bool (by rw [hend.out]; simp; omega), below_drewN ((Below.refl _ _).alloc (Nat.le_refl _) _) _⟩
  · have HA : Hid (eachB 12 xs = false) := by show _ = _; simpa using ha
    have hbad := Lib.hid (caseOk_each (E := E) HA.out)
    clear ha
    go_enter Try.func45, Try.ntmps45
    go_wp2_with (go_at_call 58; refine (eachUpTo_is 12 _ _ _ _ _ _ hw hl HA.out).mono ?_; rintro e w' ⟨rfl, rfl⟩)
    go_ret
    exact ⟨ret_bool hbad.out.symm, (Below.refl _ _).alloc (Nat.le_refl _) _⟩

set_option maxRecDepth 10000 in
set_option maxHeartbeats 400000 in
theorem specCaseOk_any (E : Int) (A : Option Addr) (c : Nat) (xs : List Int) (w : World) (lo hi : Nat) (h : Ints w lo hi A xs) (hh : hi ≤ w.heap.size) (hl : xs.length ≤ 1152921504606846976) :
    Calls Try.prog 47 #[.agg #[.int .i64 E, .slice A xs.length c]] w fun e w' => e = .returned (.bool (caseOkB E xs)) ∧ Below w.heap.size w w' := by
  have hw := h.alloc hh (.cells #[.int .i64 E, .slice A xs.length c] 31)
  go_enter Try.func47, Try.ntmps47
  go_wp2
  go_loop [3] (fun i => ∃ k : Nat, k ≤ xs.length ∧ i = .int .i64 k ∧ Upto xs k) (fun i => xs.length - (intOf i).toNat)
  case atStart => exact ⟨0, Nat.zero_le _, rfl, Upto.zero _⟩
  case round =>
    obtain ⟨k, hk, rfl, hu⟩ := hrel
    by_cases hlt : k < xs.length
    · obtain ⟨b, o, rfl, _, hb, hc⟩ := h.at_ hlt
      have hbw : b < w.heap.size := by omega
      by_cases hx : 0 ≤ xs[k] ∧ xs[k] ≤ 12
      · have hu' := hu.succ hlt hx
        have hX := Lib.hid hx
        clear hu hx
        go_wp2_with (go_at_call 43; refine (l1In_yes _ _ _ _ hX.out).mono ?_; rintro e w' ⟨rfl, rfl⟩)
        go_round
        case rel => exact ⟨k + 1, by omega, by go_num, hu'⟩
        case measure => simp [intOf]; omega
      · have hbad := Lib.hid (caseOk_bad E xs k hlt hx)
        have hX := Lib.hid hx
        clear hx
        go_wp2_with (go_at_call 43; refine (l1In_no _ _ _ _ hX.out).mono ?_; rintro e w' ⟨rfl, rfl⟩)
        go_ret
        exact ⟨ret_bool hbad.out.symm, (Below.refl _ _).alloc (Nat.le_refl _) _⟩
    · obtain rfl : k = xs.length := by omega
      by_cases hlen : 1 ≤ xs.length ∧ xs.length ≤ 4
      · have hs := small_of hlen.2 hu.all
        have hend := Lib.hid (caseOk_end E xs hlen hu.all)
        have hX : Hid ((1 : Int) ≤ (xs.length : Int) ∧ (xs.length : Int) ≤ 4) := ⟨by omega, by omega⟩
        clear hu hlen
        go_wp2
        go_quiet ((first | (go_at_call 52; exact quiet_left (l1Sum_any _ _ _ _ _ _ (hw.drewN _) hs)) | (go_at_call 43; first | exact quiet_left (l1In_yes _ _ _ _ hX.out) | exact quiet_left (l1In_any _ _ _ _))))
        go_wp2
        go_ret
        exact ⟨ret_bool (by rw [hend.out]; simp), below_drewN ((Below.refl _ _).alloc (Nat.le_refl _) _) _⟩
      · have hbad := Lib.hid (caseOk_len E xs hlen)
        have hX : Hid (¬ ((1 : Int) ≤ (xs.length : Int) ∧ (xs.length : Int) ≤ 4)) := by intro h'; exact hlen ⟨by omega, by omega⟩
        clear hu hlen
        go_wp2
        go_quiet ((go_at_call 43; exact quiet_left (l1In_no _ _ _ _ hX.out)))
        go_wp2
        go_ret
        exact ⟨ret_bool hbad.out.symm, below_drewN ((Below.refl _ _).alloc (Nat.le_refl _) _) _⟩

theorem implCaseOk_yes (E : Int) (A : Option Addr) (c : Nat) (xs : List Int) (w : World) (lo hi : Nat) (h : Ints w lo hi A xs) (hh : hi ≤ w.heap.size) (hl : xs.length ≤ 1152921504606846976) (hc : caseOkB E xs = true) :
    Calls Try.prog 45 #[.agg #[.int .i64 E, .slice A xs.length c]] w fun e w' => e = .returned (.bool true) ∧ Below w.heap.size w w' :=
  (implCaseOk_any E A c xs w lo hi h hh hl).mono fun _ _ ⟨e1, e2⟩ => ⟨by rw [e1, hc], e2⟩
theorem implCaseOk_no (E : Int) (A : Option Addr) (c : Nat) (xs : List Int) (w : World) (lo hi : Nat) (h : Ints w lo hi A xs) (hh : hi ≤ w.heap.size) (hl : xs.length ≤ 1152921504606846976) (hc : caseOkB E xs = false) :
    Calls Try.prog 45 #[.agg #[.int .i64 E, .slice A xs.length c]] w fun e w' => e = .returned (.bool false) ∧ Below w.heap.size w w' :=
  (implCaseOk_any E A c xs w lo hi h hh hl).mono fun _ _ ⟨e1, e2⟩ => ⟨by rw [e1, hc], e2⟩
theorem specCaseOk_yes (E : Int) (A : Option Addr) (c : Nat) (xs : List Int) (w : World) (lo hi : Nat) (h : Ints w lo hi A xs) (hh : hi ≤ w.heap.size) (hl : xs.length ≤ 1152921504606846976) (hc : caseOkB E xs = true) :
    Calls Try.prog 47 #[.agg #[.int .i64 E, .slice A xs.length c]] w fun e w' => e = .returned (.bool true) ∧ Below w.heap.size w w' :=
  (specCaseOk_any E A c xs w lo hi h hh hl).mono fun _ _ ⟨e1, e2⟩ => ⟨by rw [e1, hc], e2⟩
theorem specCaseOk_no (E : Int) (A : Option Addr) (c : Nat) (xs : List Int) (w : World) (lo hi : Nat) (h : Ints w lo hi A xs) (hh : hi ≤ w.heap.size) (hl : xs.length ≤ 1152921504606846976) (hc : caseOkB E xs = false) :
    Calls Try.prog 47 #[.agg #[.int .i64 E, .slice A xs.length c]] w fun e w' => e = .returned (.bool false) ∧ Below w.heap.size w w' :=
  (specCaseOk_any E A c xs w lo hi h hh hl).mono fun _ _ ⟨e1, e2⟩ => ⟨by rw [e1, hc], e2⟩

end Go.Proofs.Ytbegdcnljafloaa
namespace Go.Proofs.Ytbegdcnljafloaa
open Go.RowKit

/-- The slice at A reads as the bytes bs, in a block below hi. -/
def Bytes (w : World) (hi : Nat) (A : Option Addr) (bs : List Int) : Prop :=
  0 < bs.length → ∃ b o, A = some ⟨b, o, none⟩ ∧ b < hi ∧ (∀ j, j < bs.length → w.cell? ⟨b, o + j, none⟩ = some (.int .u8 (bs.getD j 0))) ∧ ∀ j, j < bs.length → 0 ≤ bs.getD j 0 ∧ bs.getD j 0 ≤ 255
theorem Bytes.at_ {w : World} {hi : Nat} {A : Option Addr} {bs : List Int} {k : Nat} (h : Bytes w hi A bs) (hk : k < bs.length) : ∃ b o, A = some ⟨b, o, none⟩ ∧ b < hi ∧ w.cell? ⟨b, o + k, none⟩ = some (.int .u8 (bs[k]'hk)) ∧ 0 ≤ bs[k] ∧ bs[k] ≤ 255 := by
  obtain ⟨b, o, e, h1, hc, hr⟩ := h (by omega)
  have hr' := hr k hk
  rw [getD_of_lt bs k hk] at hr'
  exact ⟨b, o, e, h1, by rw [hc k hk, getD_of_lt bs k hk], hr'.1, hr'.2⟩
theorem Bytes.below {w w' : World} {hi B : Nat} {A : Option Addr} {bs : List Int} (h : Bytes w hi A bs) (hb : Below B w w') (hB : hi ≤ B) : Bytes w' hi A bs := fun hn => by
  obtain ⟨b, o, e, h1, hc, hr⟩ := h hn
  exact ⟨b, o, e, h1, fun j hj => (hb.cell (by show b < _; omega)).trans (hc j hj), hr⟩
theorem Bytes.more {w : World} {hi hi' : Nat} {A : Option Addr} {bs : List Int} (h : Bytes w hi A bs) (hh : hi ≤ hi') : Bytes w hi' A bs := fun hn => by
  obtain ⟨b, o, e, h1, hc, hr⟩ := h hn
  exact ⟨b, o, e, by omega, hc, hr⟩
theorem Bytes.take {w : World} {hi : Nat} {A : Option Addr} {bs : List Int} (h : Bytes w hi A bs) (n : Nat) : Bytes w hi A (bs.take n) := fun hn => by
  have hl : (bs.take n).length ≤ bs.length := by rw [List.length_take]; omega
  obtain ⟨b, o, e, h1, hc, hr⟩ := h (by omega)
  have hg : ∀ j, j < (bs.take n).length → (bs.take n).getD j 0 = bs.getD j 0 := fun j hj => by
    rw [List.length_take] at hj
    have hj' : j < n := by omega
    simp [List.getD, hj']
  exact ⟨b, o, e, h1, fun j hj => by rw [hg j hj]; exact hc j (by omega), fun j hj => by rw [hg j hj]; exact hr j (by omega)⟩

/-- A reader in block R: its bytes lie below it; its position is q. -/
structure Rd (w : World) (R : Nat) (A : Option Addr) (c : Nat) (bs : List Int) (q : Nat) : Prop where
  s : w.cell? ⟨R, 0, none⟩ = some (.slice A bs.length c)
  p : w.cell? ⟨R, 1, none⟩ = some (.int .i64 q)
  f : w.frozen? ⟨R, 1, none⟩ = false
  b : Bytes w R A bs
  lt : R < w.heap.size

set_option maxRecDepth 10000 in
set_option maxHeartbeats 400000 in
theorem l20Open_any (A : Option Addr) (c : Nat) (bs : List Int) (w : World) (h : Bytes w w.heap.size A bs) (hl : bs.length ≤ 9223372036854775807) (hc : bs.length ≤ c) :
    Calls Try.prog 40 #[.slice A bs.length c] w fun e w' => e = .returned (.pointer (some ⟨w.heap.size, 0, none⟩)) ∧ Below w.heap.size w w' ∧ ∃ c' bs', bs'.length ≤ 2000 ∧ Rd w' w.heap.size A c' bs' 0 := by
  by_cases h2 : 2000 < bs.length
  · have ht : (bs.take 2000).length = 2000 := by rw [List.length_take]; omega
    go_enter Try.func40, Try.ntmps40
    go_wp2
    go_ret
    have hb := (Below.refl w.heap.size w).alloc (Nat.le_refl _) (.cells #[.slice A 2000 c, .int .i64 0] 66)
    exact ⟨rfl, hb, c, bs.take 2000, by omega, ⟨by rw [ht]; simp [go_sem], by simp [go_sem], by simp [go_sem], (h.take 2000).below hb (Nat.le_refl _), by simp⟩⟩
  · go_enter Try.func40, Try.ntmps40
    go_wp2
    go_ret
    have hb := (Below.refl w.heap.size w).alloc (Nat.le_refl _) (.cells #[.slice A bs.length c, .int .i64 0] 66)
    exact ⟨rfl, hb, c, bs, by omega, ⟨by simp [go_sem], by simp [go_sem], by simp [go_sem], h.below hb (Nat.le_refl _), by simp⟩⟩

theorem xor_i64 (a b : Nat) (ha : a < 4294967296) (hb : b < 4294967296) : bits .xor .i64 (a : Int) (b : Int) = ((a ^^^ b : Nat) : Int) := by
  have hx : a ^^^ b < 2 ^ 32 := Nat.xor_lt_two_pow (by omega) (by omega)
  have e : ∀ n : Nat, n < 4294967296 → (BitVec.ofInt 64 (n : Int)).toNat = n := fun n hn => by
    rw [BitVec.ofInt_natCast, BitVec.toNat_ofNat]; exact Nat.mod_eq_of_lt (by omega)
  show IntKind.i64.wrap ((BitVec.ofInt 64 (a : Int) ^^^ BitVec.ofInt 64 (b : Int)).toNat : Int) = _
  rw [BitVec.toNat_xor, e a ha, e b hb, IntKind.wrap_i64]
  omega
theorem draw_bd (x n : Int) (h0 : 0 ≤ x) (h1 : x ≤ 100000000) (hn : 1 ≤ n) : 0 ≤ (bits .xor .i64 x (x / 64)).tmod n ∧ (bits .xor .i64 x (x / 64)).tmod n < n := by
  obtain ⟨a, rfl⟩ := Int.eq_ofNat_of_zero_le h0
  have e : ((a : Int) / 64) = ((a / 64 : Nat) : Int) := by omega
  rw [e, xor_i64 a (a / 64) (by omega) (by omega)]
  exact ⟨Int.tmod_nonneg _ (by omega), Int.tmod_lt_of_pos _ (by omega)⟩

set_option maxRecDepth 10000 in
set_option maxHeartbeats 1000000 in
theorem pick_late (R : Nat) (A : Option Addr) (c : Nat) (bs : List Int) (q : Nat) (n : Int) (w : World) (h : Rd w R A c bs q) (hn : 1 ≤ n) (hn' : n ≤ 1000000) (hb : 0 < bs.length) (hl : bs.length ≤ 2000) (hq : q ≤ 1000000) (hk : ¬ q < bs.length) :
    Calls Try.prog 41 #[.pointer (some ⟨R, 0, none⟩), .int .i64 n] w fun e w' => ∃ v : Int, 0 ≤ v ∧ v < n ∧ e = .returned (.int .i64 v) ∧ ∃ m, w' = (w.setCell ⟨R, 1, none⟩ (.int .i64 ((q + 1 : Nat) : Int))).drewN m := by
  obtain ⟨hs, hp, hf, hB, hlt⟩ := h
  obtain ⟨i1, hi1⟩ : ∃ i, i = q % bs.length := ⟨_, rfl⟩
  obtain ⟨i2, hi2⟩ : ∃ i, i = (q * 7 + 3) % bs.length := ⟨_, rfl⟩
  obtain ⟨d, hd⟩ : ∃ d, d = q / bs.length := ⟨_, rfl⟩
  have l1 : i1 < bs.length := by rw [hi1]; exact Nat.mod_lt _ hb
  have l2 : i2 < bs.length := by rw [hi2]; exact Nat.mod_lt _ hb
  have ld : d ≤ 1000000 := by rw [hd]; exact Nat.le_trans (Nat.div_le_self _ _) hq
  have t1 : Int.tmod (q : Int) (bs.length : Int) = (i1 : Int) := by rw [hi1]; rfl
  have t2 : Int.tmod ((q : Int) * 7 + 3) (bs.length : Int) = (i2 : Int) := by rw [hi2]; rfl
  have t3 : Int.tdiv (q : Int) (bs.length : Int) = (d : Int) := by rw [hd]; rfl
  obtain ⟨b, o, rfl, hbR, hc1, hv1, hv1'⟩ := hB.at_ l1
  obtain ⟨b', o', e', _, hc2, hv2, hv2'⟩ := hB.at_ l2
  injection e' with e'
  injection e' with e1 e2 _
  subst e1
  subst e2
  generalize bs[i1] = v1 at hc1 hv1 hv1'
  generalize bs[i2] = v2 at hc2 hv2 hv2'
  clear hi1 hi2 hd
  have hne : ((bs.length : Int) == 0) = false := beq_eq_false_iff_ne.2 (by omega)
  have w0 : IntKind.i64.wrap v1 = v1 := IntWalk.i64_in _ (by omega)
  have w0' : IntKind.i64.wrap v2 = v2 := IntWalk.i64_in _ (by omega)
  have w1 : IntKind.i64.wrap (v1 * 131) = v1 * 131 := IntWalk.i64_in _ (by omega)
  have w2 : IntKind.i64.wrap ((q : Int) * 7) = (q : Int) * 7 := IntWalk.i64_in _ (by omega)
  have w3 : IntKind.i64.wrap ((q : Int) * 7 + 3) = (q : Int) * 7 + 3 := IntWalk.i64_in _ (by omega)
  have w4 : IntKind.i64.wrap (v2 * 1117) = v2 * 1117 := IntWalk.i64_in _ (by omega)
  have w5 : IntKind.i64.wrap (v1 * 131 + v2 * 1117) = v1 * 131 + v2 * 1117 := IntWalk.i64_in _ (by omega)
  have w6 : IntKind.i64.wrap ((q : Int) * 29) = (q : Int) * 29 := IntWalk.i64_in _ (by omega)
  have w7 : IntKind.i64.wrap (v1 * 131 + v2 * 1117 + (q : Int) * 29) = v1 * 131 + v2 * 1117 + (q : Int) * 29 := IntWalk.i64_in _ (by omega)
  have w8 : IntKind.i64.wrap ((d : Int) * 53) = (d : Int) * 53 := IntWalk.i64_in _ (by omega)
  have w9 : IntKind.i64.wrap (v1 * 131 + v2 * 1117 + (q : Int) * 29 + (d : Int) * 53) = v1 * 131 + v2 * 1117 + (q : Int) * 29 + (d : Int) * 53 := IntWalk.i64_in _ (by omega)
  have z1 : (0 : Int) ≤ (i1 : Int) := by omega
  have z2 : (i1 : Int) < (bs.length : Int) := by omega
  have z3 : (0 : Int) ≤ (i2 : Int) := by omega
  have z4 : (i2 : Int) < (bs.length : Int) := by omega
  have hbw : b < w.heap.size := by omega
  have hbn : ¬ (b = R) := by omega
  clear hB
  go_enter Try.func41, Try.ntmps41
  go_wp2
  go_quiet (fail)
  generalize hx : v1 * 131 + v2 * 1117 + (q : Int) * 29 + (d : Int) * 53 = x
  have hx0 : 0 ≤ x := by omega
  have hx1 : x ≤ 100000000 := by omega
  clear w0 w0' w1 w2 w3 w4 w5 w6 w7 w8 w9 t1 t2 t3 hc1 hc2 hx
  have hbd := Lib.hid (draw_bd x n hx0 hx1 hn)
  go_wp2
  go_ret
  exact ⟨_, hbd.out.1, hbd.out.2, rfl, _, rfl⟩

end Go.Proofs.Ytbegdcnljafloaa
namespace Go.Proofs.Ytbegdcnljafloaa
open Go.RowKit

theorem sum_nonneg : ∀ (xs : List Int), (∀ x ∈ xs, 0 ≤ x) → 0 ≤ xs.sum
  | [], _ => by simp
  | x :: xs, h => by
    have h1 := h x (by simp)
    have h2 := sum_nonneg xs fun y hy => h y (by simp [hy])
    simp only [List.sum_cons]
    omega
def Picked (w : World) (R : Nat) (q : Nat) (n : Int) (e : Ending) (w' : World) : Prop :=
  ∃ v : Int, 0 ≤ v ∧ v < n ∧ e = .returned (.int .i64 v) ∧ ∃ m, w' = (w.setCell ⟨R, 1, none⟩ (.int .i64 ((q + 1 : Nat) : Int))).drewN m

set_option maxRecDepth 10000 in
set_option maxHeartbeats 1000000 in
theorem pick_early (R : Nat) (A : Option Addr) (c : Nat) (bs : List Int) (q : Nat) (n : Int) (w : World) (h : Rd w R A c bs q) (hn : 1 ≤ n) (hn' : n ≤ 1000000) (hq : q ≤ 1000000) (hk : q < bs.length) :
    Calls Try.prog 41 #[.pointer (some ⟨R, 0, none⟩), .int .i64 n] w (Picked w R q n) := by
  obtain ⟨hs, hp, hf, hB, hlt⟩ := h
  obtain ⟨b, o, rfl, hbR, hc1, hv1, hv1'⟩ := hB.at_ hk
  generalize bs[q] = v1 at hc1 hv1 hv1'
  have hne : ((bs.length : Int) == 0) = false := beq_eq_false_iff_ne.2 (by omega)
  have hbw : b < w.heap.size := by omega
  have hbn : ¬ (b = R) := by omega
  have hz : 0 ≤ v1 % n ∧ v1 % n < n := ⟨Int.emod_nonneg _ (by omega), Int.emod_lt_of_pos _ (by omega)⟩
  have w0 : IntKind.i64.wrap v1 = v1 := IntWalk.i64_in _ (by omega)
  have HZ := Lib.hid hz
  clear hB hz
  go_enter Try.func41, Try.ntmps41
  go_wp2
  go_ret
  exact ⟨_, HZ.out.1, HZ.out.2, rfl, 0, rfl⟩

set_option maxRecDepth 10000 in
set_option maxHeartbeats 1000000 in
theorem pick_none (R : Nat) (A : Option Addr) (c : Nat) (bs : List Int) (q : Nat) (n : Int) (w : World) (h : Rd w R A c bs q) (hn : 1 ≤ n) (hq : q ≤ 1000000) (hb : bs.length = 0) :
    Calls Try.prog 41 #[.pointer (some ⟨R, 0, none⟩), .int .i64 n] w (Picked w R q n) := by
  obtain ⟨hs, hp, hf, hB, hlt⟩ := h
  rw [hb] at hs
  clear hB hb
  go_enter Try.func41, Try.ntmps41
  go_wp2
  go_ret
  exact ⟨0, by omega, by omega, rfl, 0, rfl⟩

theorem pick_any (R : Nat) (A : Option Addr) (c : Nat) (bs : List Int) (q : Nat) (n : Int) (w : World) (h : Rd w R A c bs q) (hn : 1 ≤ n) (hn' : n ≤ 1000000) (hl : bs.length ≤ 2000) (hq : q ≤ 1000000) :
    Calls Try.prog 41 #[.pointer (some ⟨R, 0, none⟩), .int .i64 n] w (Picked w R q n) := by
  by_cases hb : bs.length = 0
  · exact pick_none R A c bs q n w h hn hq hb
  · by_cases hk : q < bs.length
    · exact pick_early R A c bs q n w h hn hn' hq hk
    · exact pick_late R A c bs q n w h hn hn' (by omega) hl hq hk

/-- Behind a pick the reader is one further; nothing else has turned. -/
theorem Rd.step {w w' : World} {R : Nat} {A : Option Addr} {c : Nat} {bs : List Int} {q m : Nat} (h : Rd w R A c bs q) (e : w' = (w.setCell ⟨R, 1, none⟩ (.int .i64 ((q + 1 : Nat) : Int))).drewN m) :
    Rd w' R A c bs (q + 1) ∧ Chg R (R + 1) w w' := by
  subst e
  have hch : Chg R (R + 1) w (w.setCell ⟨R, 1, none⟩ (.int .i64 ((q + 1 : Nat) : Int))) := Chg.setCell w (p := ⟨R, 1, none⟩) ⟨Nat.le_refl _, Nat.lt_succ_self _⟩ _
  refine ⟨⟨?_, ?_, ?_, ?_, ?_⟩, ⟨hch.os, hch.tape, hch.output, hch.size, hch.block⟩⟩
  · exact (World.cell?_setCell_other _ _ _ _ (by intro e'; injection e' with _ e2 _; omega)).trans h.s
  · exact World.cell?_setCell_same _ _ _ h.p
  · exact (World.frozen?_setCell _ _ _ _).trans h.f
  · intro hn
    obtain ⟨b, o, e, h1, hc, hr⟩ := h.b hn
    exact ⟨b, o, e, h1, fun j hj => (World.cell?_setCell_other _ _ _ _ (by intro e'; injection e' with e1 _ _; omega)).trans (hc j hj), hr⟩
  · have := h.lt; simpa [World.setCell] using this

/-- What a function leaves that draws, and makes new memory: the reader somewhere further, nothing else turned. -/
def Drew (w : World) (R : Nat) (A : Option Addr) (c : Nat) (bs : List Int) (q k : Nat) (w' : World) : Prop := ∃ q', q' ≤ q + k ∧ Rd w' R A c bs q' ∧ Chg R (R + 1) w w'

/-- A pick, as a caller wants it: the number, and the world behind it. -/
def PickTo (w : World) (R : Nat) (A : Option Addr) (c : Nat) (bs : List Int) (q : Nat) (n : Int) (e : Ending) (w' : World) : Prop :=
  ∃ v : Int, e = .returned (.int .i64 v) ∧ 0 ≤ v ∧ v < n ∧ Rd w' R A c bs (q + 1) ∧ Chg R (R + 1) w w'
theorem pick_to (R : Nat) (A : Option Addr) (c : Nat) (bs : List Int) (q : Nat) (n : Int) (w : World) (h : Rd w R A c bs q) (hn : 1 ≤ n) (hn' : n ≤ 1000000) (hl : bs.length ≤ 2000) (hq : q ≤ 1000000) :
    Calls Try.prog 41 #[.pointer (some ⟨R, 0, none⟩), .int .i64 n] w (PickTo w R A c bs q n) :=
  (pick_any R A c bs q n w h hn hn' hl hq).mono fun _ _ ⟨v, h1, h2, e, _, e2⟩ => ⟨v, e, h1, h2, (h.step e2).1, (h.step e2).2⟩

def OddTo (w : World) (R : Nat) (A : Option Addr) (c : Nat) (bs : List Int) (q : Nat) (e : Ending) (w' : World) : Prop :=
  ∃ b : Bool, e = .returned (.bool b) ∧ (∃ q', q' ≤ q + 1 ∧ Rd w' R A c bs q') ∧ Chg R (R + 1) w w'
set_option maxRecDepth 10000 in
set_option maxHeartbeats 1000000 in
theorem odd_to (R : Nat) (A : Option Addr) (c : Nat) (bs : List Int) (q : Nat) (n : Int) (w : World) (h : Rd w R A c bs q) (hn : 0 ≤ n) (hn' : n ≤ 1000000) (hl : bs.length ≤ 2000) (hq : q ≤ 1000000) :
    Calls Try.prog 67 #[.pointer (some ⟨R, 0, none⟩), .int .i64 n] w (OddTo w R A c bs q) := by
  by_cases h0 : 0 < n
  · go_enter Try.func67, Try.ntmps67
    go_wp2_with fail
    refine (pick_to R A c bs q n _ h (by omega) hn' hl hq).mono ?_
    rintro e w1 ⟨v, rfl, hv0, hv1, hR, hch⟩
    go_wp2
    go_ret
    exact ⟨_, rfl, ⟨q + 1, Nat.le_refl _, hR⟩, hch⟩
  · obtain rfl : n = 0 := by omega
    go_enter Try.func67, Try.ntmps67
    go_wp2
    go_ret
    exact ⟨_, rfl, ⟨q, by omega, h⟩, Chg.refl _ _ _⟩

end Go.Proofs.Ytbegdcnljafloaa
namespace Go.Proofs.Ytbegdcnljafloaa
open Go.RowKit

/-- 1..4 claims in parts, each in 0..576. -/
def partB (xs : List Int) : Bool := decide (1 ≤ xs.length ∧ xs.length ≤ 4 ∧ ∀ x ∈ xs, 0 ≤ x ∧ x ≤ 576)
theorem partB_iff (xs : List Int) : partB xs = true ↔ (1 ≤ xs.length ∧ xs.length ≤ 4 ∧ ∀ x ∈ xs, 0 ≤ x ∧ x ≤ 576) := by simp [partB]
theorem partB_bad (xs : List Int) (k : Nat) (hk : k < xs.length) (h : ¬ (0 ≤ xs[k] ∧ xs[k] ≤ 576)) : partB xs = false := by
  simp only [partB, decide_eq_false_iff_not]; intro h'; exact h (h'.2.2 _ (List.getElem_mem hk))
/-- The first k numbers are claims in parts. -/
def PUpto (xs : List Int) (k : Nat) : Prop := ∀ j, (h : j < xs.length) → j < k → 0 ≤ xs[j] ∧ xs[j] ≤ 576
theorem PUpto.zero (xs : List Int) : PUpto xs 0 := fun _ _ h => absurd h (by omega)
theorem PUpto.succ {xs : List Int} {k : Nat} (h : PUpto xs k) (hk : k < xs.length) (hx : 0 ≤ xs[k] ∧ xs[k] ≤ 576) : PUpto xs (k + 1) := fun j hj hjk => by
  rcases Nat.lt_or_ge j k with h1 | h1
  · exact h j hj h1
  · obtain rfl : j = k := by omega
    exact hx
theorem PUpto.all {xs : List Int} (h : PUpto xs xs.length) : ∀ x ∈ xs, 0 ≤ x ∧ x ≤ 576 := fun x hx => by
  obtain ⟨j, hj, rfl⟩ := List.getElem_of_mem hx
  exact h j hj hj
theorem partB_end (xs : List Int) (h : PUpto xs xs.length) : partB xs = decide (1 ≤ xs.length ∧ xs.length ≤ 4) := by
  simp only [partB, decide_eq_decide]
  exact ⟨fun h' => ⟨h'.1, h'.2.1⟩, fun h' => ⟨h'.1, h'.2, h.all⟩⟩
theorem part_small {xs : List Int} (h : partB xs = true) : Small xs := by
  have h1 := (partB_iff xs).1 h
  exact ⟨by omega, fun x hx => by have := h1.2.2 x hx; omega⟩
theorem part_sum {xs : List Int} (h : partB xs = true) : 0 ≤ xs.sum ∧ xs.sum ≤ 2304 := by
  have h1 := (partB_iff xs).1 h
  have h2 := sum_bd_aux 576 (by omega) xs fun x hx => by have := h1.2.2 x hx; omega
  have h3 := sum_nonneg xs fun x hx => (h1.2.2 x hx).1
  omega

theorem partOk_any (A : Option Addr) (c : Nat) (xs : List Int) (w : World) (lo hi : Nat) (h : Ints w lo hi A xs) (hl : xs.length ≤ 1152921504606846976) :
    Calls Try.prog 58 #[.int .i64 576, .slice A xs.length c] w fun e w' => e = .returned (.bool (partB xs)) ∧ w = w' := eachUpTo_any 576 A c xs w lo hi h hl
theorem partOk_is (A : Option Addr) (c : Nat) (xs : List Int) (w : World) (lo hi : Nat) (h : Ints w lo hi A xs) (hl : xs.length ≤ 1152921504606846976) {b : Bool} (hb : partB xs = b) :
    Calls Try.prog 58 #[.int .i64 576, .slice A xs.length c] w fun e w' => e = .returned (.bool b) ∧ w = w' := by
  rw [← hb]; exact partOk_any A c xs w lo hi h hl

end Go.Proofs.Ytbegdcnljafloaa
namespace Go.Proofs.Ytbegdcnljafloaa
open Go.RowKit

set_option maxRecDepth 10000 in
set_option maxHeartbeats 400000 in
theorem sameInts_same (A A' : Option Addr) (c c' : Nat) (xs : List Int) (w : World) (lo hi lo' hi' : Nat) (h : Ints w lo hi A xs) (h' : Ints w lo' hi' A' xs) (hl : xs.length ≤ 1152921504606846976) :
    Calls Try.prog 24 #[.slice A xs.length c, .slice A' xs.length c'] w fun e w' => e = .returned (.bool true) ∧ ∃ n, w' = w.drewN n := by
  have hne : ((xs.length : Int) != (xs.length : Int)) = false := by simp
  go_enter Try.func24, Try.ntmps24
  go_wp2
  go_loopw [5] (fun i wr => ∃ k : Nat, k ≤ xs.length ∧ i = .int .i64 k ∧ ∃ n, wr = w.drewN n) (fun i _ => xs.length - (intOf i).toNat)
  case atStart => exact ⟨0, Nat.zero_le _, rfl, 0, rfl⟩
  case round =>
    obtain ⟨k, hk, rfl, n, rfl⟩ := hrel
    clear hne
    by_cases hlt : k < xs.length
    · obtain ⟨b, o, rfl, _, hb, hc⟩ := h.at_ hlt
      obtain ⟨b', o', rfl, _, hb', hc'⟩ := h'.at_ hlt
      have hX : (xs[k] != xs[k]) = false := by simp
      go_wp2
      go_quiet (fail)
      go_wp2
      go_roundw
      case rel => exact ⟨k + 1, by omega, by go_num, _, rfl⟩
      case measure => simp [intOf]; omega
    · obtain rfl : k = xs.length := by omega
      go_wp2
      go_ret
      exact ⟨rfl, _, rfl⟩
theorem sameInts_below (A A' : Option Addr) (c c' : Nat) (xs : List Int) (w : World) (lo hi lo' hi' : Nat) (h : Ints w lo hi A xs) (h' : Ints w lo' hi' A' xs) (hl : xs.length ≤ 1152921504606846976) :
    Calls Try.prog 24 #[.slice A xs.length c, .slice A' xs.length c'] w fun e w' => e = .returned (.bool true) ∧ Below w.heap.size w w' :=
  (sameInts_same A A' c c' xs w lo hi lo' hi' h h' hl).mono fun _ _ ⟨e1, n, e2⟩ => ⟨e1, by rw [e2]; exact below_drewN (Below.refl _ _) n⟩

theorem row_one (w : World) (x : Int) (t : TypeId) : Ints (w.alloc (.cells #[.int .i64 x] t)) w.heap.size (w.heap.size + 1) (some ⟨w.heap.size, 0, none⟩) [x] := fun _ =>
  ⟨w.heap.size, 0, rfl, Nat.le_refl _, Nat.lt_succ_self _, fun j hj => by
    have e : j = 0 := by simp at hj; exact hj
    subst e
    simp [go_sem]⟩

theorem case_one_one : caseOkB 1 [1] = true := (caseOk_iff 1 [1]).2 ⟨by simp, by simp, by simp, by omega, by simp⟩
theorem case_two_one : caseOkB 2 [1] = false := by
  have h : ¬ caseOkB 2 [1] = true := fun h => by have := ((caseOk_iff 2 [1]).1 h).2.2.2.2; simp at this
  simpa using h
theorem case_zero_zero : caseOkB 0 [0] = true := (caseOk_iff 0 [0]).2 ⟨by simp, by simp, by simp, by omega, by simp⟩
theorem case_nil (E : Int) : caseOkB E [] = false := caseOk_len E [] (by simp)

set_option maxRecDepth 10000 in
set_option maxHeartbeats 400000 in
theorem alive_any (w : World) : Calls Try.prog 14 #[] w fun e w' => e = .returned (.bool true) ∧ Below w.heap.size w w' := by
  have k0 := row_one w 1 3
  have B0 := (Below.refl w.heap.size w).alloc (Nat.le_refl _) (.cells #[.int .i64 1] 3)
  go_enter Try.func14, Try.ntmps14
  go_wp2_with fail
  refine (implCaseOk_yes 1 (some ⟨w.heap.size, 0, none⟩) 1 [1] _ _ _ k0 (by rw [hsz]; omega) (by simp) case_one_one).mono ?_
  rintro e w1 ⟨rfl, hb1⟩
  have z1 := hb1.size
  rw [hsz] at hb1 z1
  have B1 := B0.trans (hb1.mono (by omega))
  have k1 := row_one w1 1 3
  have B2 := B1.alloc (by omega) (.cells #[.int .i64 1] 3)
  clear hb1 k0 B0
  go_wp2_with fail
  refine (implCaseOk_no 2 (some ⟨w1.heap.size, 0, none⟩) 1 [1] _ _ _ k1 (by rw [hsz]; omega) (by simp) case_two_one).mono ?_
  rintro e w2 ⟨rfl, hb2⟩
  have B3 := B2.trans (hb2.mono (by rw [hsz]; omega))
  clear hb2 k1
  go_wp2
  go_ret
  exact ⟨rfl, B3⟩

set_option maxRecDepth 10000 in
set_option maxHeartbeats 400000 in
theorem lsumOf_any (A : Option Addr) (c : Nat) (xs : List Int) (w : World) (lo hi : Nat) (h : Ints w lo hi A xs) (hs : Small xs) :
    Calls Try.prog 31 #[.slice A xs.length c] w fun e w' => e = .returned (.int .i64 xs.sum) ∧ w = w' := by
  have hlen := hs.1
  go_enter Try.func31, Try.ntmps31
  go_wp2
  go_loop [3, 4] (fun s i => ∃ k : Nat, k ≤ xs.length ∧ i = .int .i64 k ∧ s = .int .i64 (xs.take k).sum) (fun _ i => xs.length - (intOf i).toNat)
  case atStart => exact ⟨0, Nat.zero_le _, rfl, rfl⟩
  case round =>
    obtain ⟨k, hk, rfl, rfl⟩ := hrel
    have hd := sum_bd xs hs k
    by_cases hlt : k < xs.length
    · obtain ⟨b, o, rfl, _, _, hc⟩ := h.at_ hlt
      have hv := small_at xs hs k hlt
      have hS := Lib.hid (sum_snoc xs k hlt)
      go_wp2
      go_round
      case rel => exact ⟨k + 1, by omega, by go_num, by rw [hS.out]⟩
      case measure => simp [intOf]; omega
    · obtain rfl : k = xs.length := by omega
      go_wp2
      go_ret
      exact ⟨ret_int (by simp), rfl⟩

end Go.Proofs.Ytbegdcnljafloaa
