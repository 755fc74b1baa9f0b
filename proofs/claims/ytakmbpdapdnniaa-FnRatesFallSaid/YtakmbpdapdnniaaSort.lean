/-
  A sorted copy of numbers is new memory, and is the numbers in order. No condition but that there are some, and a length that fits.
-/
import Derived.Test.YtakmbpdapdnniaaEven
import Derived.Test.YtakmbpdapdnniaaShelf
namespace Go.Proofs.Ytakmbpdapdnniaa
open Go.RowKit Go.Sort

theorem holds_of_own {w : World} {lo hi b o : Nat} {xs : List Int} (h : Own w lo hi (some ⟨b, o, none⟩) xs) : Holds (Value.int .i64) w b o xs.toArray := fun j hj => by
  have hj' : j < xs.length := by simpa using hj
  obtain ⟨b', o', e, _, _, hc, hf⟩ := h (by omega)
  cases e
  refine ⟨?_, hf j hj'⟩
  rw [hc j hj', getElem!_pos _ j (by simpa using hj'), getD_of_lt xs j hj']
  simp
theorem own_of_holds {w : World} {lo hi b o : Nat} {xs : List Int} (h : Holds (Value.int .i64) w b o xs.toArray) (h1 : lo ≤ b) (h2 : b < hi) : Own w lo hi (some ⟨b, o, none⟩) xs := fun _ =>
  ⟨b, o, rfl, h1, h2, fun j hj => by
    have e := (h j (by simpa using hj)).1
    rw [e, getElem!_pos _ j (by simpa using hj), getD_of_lt xs j hj]
    simp, fun j hj => (h j (by simpa using hj)).2⟩

theorem grownBy_at {w : World} {g o n : Nat} {os : Array Obj} (d : Array Int) : w.grownBy (grow (putRow (Value.int .i64) (Sort.ahead w n) g o d) os) (some g) := by
  refine ⟨rfl, rfl, rfl, by simp, fun k hk hne => ?_⟩
  rw [heap_grow_old _ _ (by simpa using hk)]
  have : g ≠ k := fun e => hne (by rw [e])
  simp [putRow, mapBlock, Sort.ahead, Array.getElem?_modify, this]

set_option maxRecDepth 10000 in
set_option maxHeartbeats 400000 in
theorem ascending_any (A : Option Addr) (c : Nat) (xs : List Int) (w : World) (lo hi : Nat) (h : Ints w lo hi A xs) (hh : hi ≤ w.heap.size) (hn : 0 < xs.length) (hl : xs.length ≤ 1048576) :
    Calls Try.prog 54 #[.slice A xs.length c] w (RetInts w (srt xs)) := by
  go_enter Try.func54, Try.ntmps54
  go_wp2_with fail
  refine (clone_any A c xs w lo hi h hh hn hl).mono ?_
  rintro e w1 ⟨A1, c1, rfl, ho1, hb1⟩
  obtain ⟨b, o, rfl, h1, h2, _, _⟩ := id ho1 hn
  have hH := holds_of_own ho1
  have hB := Lib.hid hb1
  clear hb1 ho1 h
  go_wp2_with fail
  refine (Try.slices_Sort_int b o c1 xs w1 hH h2 (by omega)).mono ?_
  rintro e w2 ⟨rfl, nn, os, hw2⟩
  have hH2 : Holds (Value.int .i64) w2 b o (srt xs).toArray := by
    subst hw2
    exact holds_grow _ _ os b o _ (by simpa [putRow, mapBlock, Sort.ahead] using h2) (holds_putRow _ _ b o _ _ (holds_ahead _ w1 nn b o _ hH) (by simp))
  have hB2 : Below w.heap.size w w2 ∧ b < w2.heap.size := by
    subst hw2
    refine ⟨hB.out.grown (grownBy_at _) hB.out.size (fun j hj => by cases hj; exact h1), ?_⟩
    exact Nat.lt_of_lt_of_le h2 (by simp)
  have H := Lib.hid (And.intro hB2 (own_of_holds (lo := w.heap.size) (hi := w2.heap.size) hH2 h1 hB2.2))
  clear hw2 hH2 hB2 hH
  go_wp2
  go_ret
  exact ⟨some ⟨b, o, none⟩, c1, by rw [srt_length]; rfl, H.out.2, H.out.1.1⟩

end Go.Proofs.Ytakmbpdapdnniaa
