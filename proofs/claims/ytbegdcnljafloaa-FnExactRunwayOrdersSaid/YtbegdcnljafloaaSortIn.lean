/-
  slices.Sort and slices.Reverse over a row of the call's own, and slices.Min, as the library has them. No condition but lengths that fit.
-/
import Derived.Test.YtbegdcnljafloaaGro
import Derived.Test.YtbegdcnljafloaaGE
namespace Go.Proofs.Ytbegdcnljafloaa
open Go.RowKit Go.Sort

theorem chg_put {w : World} {lo hi b o : Nat} (n : Nat) (d : Array Int) (h1 : lo ≤ b) (h2 : b < hi) : Chg lo hi w (putRow (Value.int .i64) (Sort.ahead w n) b o d) := by
  refine ⟨rfl, rfl, rfl, by simp [putRow, mapBlock, Sort.ahead], fun k hk hn => ?_⟩
  have : b ≠ k := fun e => hn (by omega)
  simp [putRow, mapBlock, Sort.ahead, Array.getElem?_modify, this]
theorem sort_own (b o c n : Nat) (xs : List Int) (w : World) (lo hi : Nat) (h : Own w lo hi (some ⟨b, o, none⟩) xs) (h1 : lo ≤ b) (h2 : b < hi) (h3 : hi ≤ w.heap.size) (hn : xs.length = n) (hl : n ≤ 1048576) :
    Calls Try.prog 71 #[.slice (some ⟨b, o, none⟩) n c] w fun e w' => e = .returned (.tuple #[]) ∧ Own w' lo hi (some ⟨b, o, none⟩) (srt xs) ∧ Chg lo hi w w' := by
  subst hn
  have hH := holds_of_own h
  refine (Try.slices_Sort_int b o c xs w hH (by omega) (by omega)).mono ?_
  rintro e w2 ⟨rfl, nn, os, hw2⟩
  subst hw2
  have hb : b < (putRow (Value.int .i64) (Sort.ahead w nn) b o (srt xs).toArray).heap.size := by simpa [putRow, mapBlock, Sort.ahead] using (show b < w.heap.size by omega)
  have hH2 := holds_grow (Value.int .i64) _ os b o _ hb (holds_putRow _ _ b o _ (srt xs).toArray (holds_ahead _ w nn b o _ hH) (by simp [srt_length]))
  have hg := grownBy_at (w := w) (g := b) (o := o) (n := nn) (os := os) (srt xs).toArray
  exact ⟨rfl, own_of_holds hH2 h1 h2, (chg_of_grown hg).wide h1 (by omega)⟩
theorem sort_nil (A : Option Addr) (c : Nat) (w : World) : Calls Try.prog 71 #[.slice A 0 c] w fun e w' => e = .returned (.tuple #[]) ∧ w = w' :=
  (Try.slices_Sort_int_none A c w).mono fun _ _ ⟨h1, h2⟩ => ⟨h1, h2.symm⟩
theorem minOf_take (xs : List Int) : ∀ k, 0 < k → k ≤ xs.length → (∀ j, j < k → Lib.minOf (xs.take k) ≤ xs.getD j 0) ∧ ∃ j, j < k ∧ Lib.minOf (xs.take k) = xs.getD j 0
  | 0, h, _ => absurd h (by omega)
  | 1, _, _ => by
    rw [Lib.minOf_one]
    exact ⟨fun j hj => by obtain rfl : j = 0 := by omega
                          exact Int.le_refl _, 0, by omega, rfl⟩
  | k + 2, _, h => by
    obtain ⟨h1, j, hj, h2⟩ := minOf_take xs (k + 1) (by omega) (by omega)
    rw [Lib.minOf_step xs (k + 1) (by omega) (by omega)]
    refine ⟨fun i hi => ?_, ?_⟩
    · rcases Nat.lt_or_ge i (k + 1) with h3 | h3
      · have := h1 i h3; omega
      · obtain rfl : i = k + 1 := by omega
        omega
    · by_cases hm : Lib.minOf (xs.take (k + 1)) ≤ xs.getD (k + 1) 0
      · exact ⟨j, by omega, by omega⟩
      · exact ⟨k + 1, by omega, by omega⟩
theorem minOf_le {xs : List Int} (hn : 0 < xs.length) (m : Int) : m ≤ Lib.minOf xs ↔ ∀ k, k < xs.length → m ≤ xs.getD k 0 := by
  obtain ⟨p, j, hj, q⟩ := minOf_take xs xs.length hn (Nat.le_refl _)
  rw [List.take_length] at p q
  exact ⟨fun h k hk => Int.le_trans h (p k hk), fun h => by rw [q]; exact h j hj⟩
theorem le_maxOf {xs : List Int} (hn : 0 < xs.length) (m : Int) : Lib.maxOf xs ≤ m ↔ ∀ k, k < xs.length → xs.getD k 0 ≤ m := by
  obtain ⟨p, j, hj, q⟩ := maxOf_take xs xs.length hn (Nat.le_refl _)
  rw [List.take_length] at p q
  exact ⟨fun h k hk => Int.le_trans (p k hk) h, fun h => by rw [q]; exact h j hj⟩

end Go.Proofs.Ytbegdcnljafloaa
