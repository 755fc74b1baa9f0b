/-
  Words for the law of rows that are as even: the flat row and the row from behind. No condition.
-/
import Derived.Test.YtjoalilapbleiaaSpecMore
import Derived.Test.YtjoalilapbleiaaMore2
import Derived.Test.YtjoalilapbleiaaDrawM
import Derived.Test.YtjoalilapbleiaaLawLeaf
namespace Go.Proofs.Ytjoalilapbleiaa
open Go.RowKit

theorem implMoreEven_is (A : Option Addr) (c : Nat) (a : List Int) (D : Option Addr) (d : Nat) (b : List Int) (w : World) (lo hi : Nat) (h : Ints w lo hi A a) (hh : hi ≤ w.heap.size) (lo' hi' : Nat) (h' : Ints w lo' hi' D b) (hh' : hi' ≤ w.heap.size) (ha : Small a) (hb : Small b) {m : Bool} (hm : moreB a b = m) :
    Calls Try.prog 22 #[.slice A a.length c, .slice D b.length d] w fun e w' => e = .returned (.bool m) ∧ Below w.heap.size w w' := by
  rw [← hm]; exact implMoreEven_any A c a D d b w lo hi h hh lo' hi' h' hh' ha hb
theorem specMoreEven_is (A : Option Addr) (c : Nat) (a : List Int) (D : Option Addr) (d : Nat) (b : List Int) (w : World) (lo hi : Nat) (h : Ints w lo hi A a) (hh : hi ≤ w.heap.size) (lo' hi' : Nat) (h' : Ints w lo' hi' D b) (hh' : hi' ≤ w.heap.size) (ha : Small a) (hb : Small b) {m : Bool} (hm : moreB a b = m) :
    Calls Try.prog 31 #[.slice A a.length c, .slice D b.length d] w fun e w' => e = .returned (.bool m) ∧ Below w.heap.size w w' := by
  rw [← hm]; exact specMoreEven_any A c a D d b w lo hi h hh lo' hi' h' hh' ha hb
theorem moreB_len {a b : List Int} (h : ¬ (1 ≤ b.length ∧ b.length ≤ 4)) : moreB a b = false := moreB_false fun hm => h ⟨by have := hm.1; have := hm.2.1; omega, by have := hm.1; have := hm.2.2.1; omega⟩
/-- The row from behind, as far as it is made. -/
theorem rev_next (ys : List Int) (k : Nat) (h : k < ys.length) : [Value.int .i64 ys[k]] ++ ints (ys.take k).reverse = ints (ys.take (k + 1)).reverse := by
  have e : (ys.take (k + 1)).reverse = ys[k] :: (ys.take k).reverse := by rw [List.take_succ_eq_append_getElem h]; simp
  rw [e]; rfl
theorem rev_len (ys : List Int) (k : Nat) (h : k ≤ ys.length) : (ys.take k).reverse.length = k := by simp; omega
theorem rev_more {ys : List Int} (h1 : 1 ≤ ys.length) (h4 : ys.length ≤ 4) : More ys.reverse ys := more_perm (List.reverse_perm ys) (by simpa using h1) (by simpa using h4)
theorem rev_more' {ys : List Int} (h1 : 1 ≤ ys.length) (h4 : ys.length ≤ 4) : More ys ys.reverse := more_perm (List.reverse_perm ys).symm h1 h4
theorem rev_small {ys : List Int} (h : Small ys) : Small ys.reverse := ⟨by simpa using h.1, fun x hx => h.2 x (by simpa using hx)⟩
theorem flat_small {M : Int} {n : Nat} (hn : n ≤ 4) (hM : -1000000 ≤ M ∧ M ≤ 1000000) : Small (List.replicate n M) := ⟨by simp; omega, fun x hx => by rw [(List.mem_replicate.1 hx).2]; exact hM⟩
theorem quo_bd {s n : Int} (hs : -1000000 ≤ s ∧ s ≤ 1000000) : -1000000 ≤ s.tdiv n ∧ s.tdiv n ≤ 1000000 := by
  have h1 := Int.natAbs_tdiv_le_natAbs s n
  omega
theorem tmod_bd {s n : Int} (hs : -1000000 ≤ s ∧ s ≤ 1000000) : -1000000 ≤ s.tmod n ∧ s.tmod n ≤ 1000000 := by
  have h1 := Int.natAbs_tmod s n
  have h2 := Nat.mod_le s.natAbs n.natAbs
  omega
theorem sum_five {ys : List Int} (h : ys.length ≤ 5) (hb : ∀ y ∈ ys, -1 ≤ y ∧ y ≤ 1000) : -1000000 ≤ ys.sum ∧ ys.sum ≤ 1000000 := by
  have := sum_bd_aux 1000 (by omega) ys fun x hx => by have := hb x hx; omega
  omega
theorem own_end {w : World} {B : Nat} {e : TypeId} {v : Value} {xs : List Int} (h : w.ownsRow B e 1 v xs.length (ints xs)) : ∃ A c, v = .slice A xs.length c ∧ Own w B w.heap.size A xs := by
  obtain ⟨A, c, h1, _, h2⟩ := own_of_row h
  exact ⟨A, c, h1, h2⟩

theorem implMoreEven_at (A : Option Addr) (c : Nat) (a : List Int) (D : Option Addr) (d : Nat) (b : List Int) (n m : Nat) (hn : a.length = n) (hm' : b.length = m) (w : World) (lo hi : Nat) (h : Ints w lo hi A a) (hh : hi ≤ w.heap.size) (lo' hi' : Nat) (h' : Ints w lo' hi' D b) (hh' : hi' ≤ w.heap.size) (ha : Small a) (hb : Small b) (hm : More a b) :
    Calls Try.prog 22 #[.slice A n c, .slice D m d] w fun e w' => e = .returned (.bool true) ∧ Below w.heap.size w w' := by
  subst hn
  subst hm'
  exact implMoreEven_yes A c a D d b w lo hi h hh lo' hi' h' hh' ha hb hm

end Go.Proofs.Ytjoalilapbleiaa
