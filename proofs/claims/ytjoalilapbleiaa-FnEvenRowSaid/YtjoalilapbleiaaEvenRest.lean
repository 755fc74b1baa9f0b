/-
  Who goes away leaves the others even; the words that its law wants. No condition.
-/
import Derived.Test.YtjoalilapbleiaaDrawR
import Derived.Test.YtjoalilapbleiaaEvenCap
import Derived.Deep.AppendLies
import Derived.BigFrame
import Derived.Laws.AppendOwn
namespace Go.Proofs.Ytjoalilapbleiaa
open Go.RowKit

theorem map_min_le (L : Int) : ∀ xs : List Int, (xs.map fun x => min x L).sum ≤ xs.sum
  | [] => by simp
  | x :: xs => by
    have := map_min_le L xs
    simp only [List.map_cons, List.sum_cons]
    omega
theorem even_parts {xs : List Int} {e : Int} (hb : evenB xs e = true) : 1 ≤ xs.length ∧ xs.length ≤ 4 ∧ (∀ x ∈ xs, 0 ≤ x ∧ x ≤ 576) ∧ 0 ≤ evenLev xs e ∧ evenLev xs e ≤ 576 ∧ (evenOf xs e).sum = e := by
  obtain ⟨hp, ⟨h0, h1⟩, hok⟩ := (evenB_iff xs e).1 hb
  obtain ⟨p1, p2, p3⟩ := (partB_iff xs).1 hp
  have hl := evenLev_bd (M := 576) h0 h1 (by omega) p3
  exact ⟨p1, p2, p3, hl.1, hl.2, evenOf_sum h0 h1 (fun x hx => (p3 x hx).1) hok⟩
theorem evenOf_rg {xs : List Int} {e : Int} (hb : evenB xs e = true) : ∀ y ∈ evenOf xs e, 0 ≤ y ∧ y ≤ 576 := fun y hy => by
  obtain ⟨x, hx, rfl⟩ := List.mem_map.1 hy
  obtain ⟨-, -, p3, p4, p5, -⟩ := even_parts hb
  have := p3 x hx
  omega
theorem even_rest {xs : List Int} {e : Int} {m : Nat} (hn : xs.length = m + 1) (hm : 1 ≤ m) (hb : evenB xs e = true) (v : Int) (hv : (evenOf xs e).getD m 0 = v) :
    evenB (xs.take m) (e - v) = true ∧ evenOf (xs.take m) (e - v) = (evenOf xs e).take m := by
  obtain ⟨p1, p2, p3, p4, p5, p6⟩ := even_parts hb
  have hl := evenOf_length xs e
  have hk : m < (evenOf xs e).length := by omega
  have hv' : (evenOf xs e)[m] = v := by rw [← hv, getD_of_lt _ _ hk]
  have hs := sum_snoc (evenOf xs e) m hk
  rw [List.take_of_length_le (by omega), p6, hv'] at hs
  have ht : (evenOf xs e).take m = (xs.take m).map fun x => min x (evenLev xs e) := by simp [evenOf, List.map_take]
  have h1 := even_one (xs := xs.take m) (e := e - v) (L := evenLev xs e) (by rw [← ht]; omega)
  have hle := map_min_le (evenLev xs e) (xs.take m)
  have hge : 0 ≤ ((evenOf xs e).take m).sum := sum_nonneg _ fun y hy => (evenOf_rg hb y (List.mem_of_mem_take hy)).1
  rw [← ht] at hle
  have hlm : (xs.take m).length = m := by rw [List.length_take]; omega
  refine ⟨(evenB_iff _ _).2 ⟨(partB_iff _).2 ⟨by omega, by omega, fun x hx => p3 x (List.mem_of_mem_take hx)⟩, ⟨by omega, by omega⟩, h1.1⟩, by rw [h1.2, ← ht]⟩
theorem even_single {xs : List Int} {e : Int} (hn : xs.length = 1) (hb : evenB xs e = true) (h : 0 < (evenOf xs e).length) : (evenOf xs e)[0] = e := by
  obtain ⟨p1, p2, p3, p4, p5, p6⟩ := even_parts hb
  have hs := sum_snoc (evenOf xs e) 0 h
  rw [List.take_of_length_le (by rw [evenOf_length]; omega), p6] at hs
  simp at hs
  exact hs.symm
theorem Ints.take {w : World} {lo hi : Nat} {A : Option Addr} {xs : List Int} (h : Ints w lo hi A xs) (m : Nat) : Ints w lo hi A (xs.take m) := fun hn => by
  have hl : (xs.take m).length ≤ xs.length := by rw [List.length_take]; omega
  obtain ⟨b, o, e, h1, h2, hc⟩ := h (by omega)
  refine ⟨b, o, e, h1, h2, fun j hj => ?_⟩
  have hj' : j < m := by rw [List.length_take] at hj; omega
  rw [hc j (by omega)]
  simp [List.getD, hj']
theorem Ints.news_at {w : World} {lo hi b o : Nat} {xs : List Int} (h : Ints w lo hi (some ⟨b, o, none⟩) xs) (hn : 0 < xs.length) : ∀ j u, (ints xs)[j]? = some u → w.cell? ((⟨b, o, none⟩ : Addr).add j) = some u := by
  obtain ⟨b', o', e, -, -, hc⟩ := h.news hn
  cases e
  exact hc
theorem specEvenRow_is (A : Option Addr) (c : Nat) (xs : List Int) (e : Int) (w : World) (lo hi : Nat) (h : Ints w lo hi A xs) (hh : hi ≤ w.heap.size) (hl : xs.length ≤ 1152921504606846976) {ys : List Int} {b : Bool} (hx : evenXs xs e = ys) (hb : evenB xs e = b) :
    Calls Try.prog 29 #[.slice A xs.length c, .int .i64 e] w (RetIntsB w ys b) := by
  rw [← hx, ← hb]; exact specEvenRow_any A c xs e w lo hi h hh hl
theorem implEvenRow_at (A : Option Addr) (c n : Nat) (xs : List Int) (e : Int) (w : World) (lo hi : Nat) (hn : xs.length = n) (h : Ints w lo hi A xs) (hh : hi ≤ w.heap.size) (hb : evenB xs e = true) {ys : List Int} (hy : evenOf xs e = ys) :
    Calls Try.prog 28 #[.slice A n c, .int .i64 e] w fun en w' => ∃ A c, en = .returned (.tuple #[.slice A n c, .bool true]) ∧ Own w' w.heap.size w'.heap.size A ys ∧ Below w.heap.size w w' := by
  subst hn
  subst hy
  refine (implEvenRow_yes A c xs e w lo hi h hh hb).mono ?_
  rintro en w' ⟨A, c, rfl, h1, h2⟩
  exact ⟨A, c, by rw [evenOf_length], h1, h2⟩
theorem own_end2 {w : World} {B : Nat} {e : TypeId} {v : Value} {xs : List Int} (h : w.ownsRow B e 1 v xs.length (ints xs)) : ∃ A c, v = .slice A xs.length c ∧ Own w B w.heap.size A xs := by
  obtain ⟨A, c, h1, _, h2⟩ := own_of_row h
  exact ⟨A, c, h1, h2⟩
theorem sameInts_at (A A' : Option Addr) (c c' n n' : Nat) (xs : List Int) (h1 : xs.length = n) (h2 : xs.length = n') (w : World) (lo hi lo' hi' : Nat) (h : Ints w lo hi A xs) (h' : Ints w lo' hi' A' xs) (hl : n ≤ 1152921504606846976) :
    Calls Try.prog 13 #[.slice A n c, .slice A' n' c'] w fun e w' => e = .returned (.bool true) ∧ Below w.heap.size w w' := by
  subst h1
  subst h2
  exact sameInts_below A A' c c' xs w lo hi lo' hi' h h' hl
theorem wpList_append_want {P : Program} {w : World} {ops : Array Oper} {rest : List Oper} {o : Oper} {a : Act} {Q : Exit → Act → World → Prop} (hw : Region.wanted o (yielded ops a.tmps) = true) (s x : Operand) (t : TypeId)
    (ho : o.op = .call { callee := .builtin .append, args := #[s, x], argTypes := #[t, t] })
    (base : Nat) (e : TypeId) (i : TypeInfo) (z : Value) (size bytes : Nat) (ht : P.underlying t = some (.slice e)) (hi : P.info? e = some i) (hz : i.zero = some z)
    (hsize : i.size = size) (hby : i.bytes = bytes) (hzs : z.cells.size = size) (hsz : 0 < size)
    (v : Value) (n : Nat) (xs : List Value) (hs : a.eval s = v) (hown : w.ownsRow base e size v n xs)
    (ad : Addr) (m c : Nat) (news : List Value) (hx : a.eval x = .slice (some ad) m c) (hl : news.length = m * size) (hnews : ∀ j u, news[j]? = some u → w.cell? (ad.add j) = some u) (h1 : ∀ u ∈ news, u.oneCell' = true)
    (h63 : n + m ≤ maxLen) (hbytes : (n + m) * bytes ≤ 140737488355328) (hbase : base ≤ w.heap.size)
    (h : ∀ v' w', w'.ownsRow base e size v' (n + m) (xs ++ news) → w.grownBy w' v.ownBlock → (v' = .slice none 0 0 ↔ v = .slice none 0 0 ∧ m = 0) → wpList P ops Q rest (a.put o.dst v') w') : wpList P ops Q (o :: rest) a w :=
  BigFrame.wpList_want hw fun _ hK => wp_append_own w s x t ho base e i z size bytes ht hi hz hsize hby hzs hsz v n xs hs hown ad m c news hx hl hnews h1 h63 hbytes hbase fun v' w' h2 h3 h4 => hK _ _ (h v' w' h2 h3 h4)
theorem lsumOf_is (A : Option Addr) (c : Nat) (xs : List Int) (w : World) (lo hi : Nat) (h : Ints w lo hi A xs) (hs : Small xs) {s : Int} (he : xs.sum = s) :
    Calls Try.prog 12 #[.slice A xs.length c] w fun e w' => e = .returned (.int .i64 s) ∧ w = w' := by
  rw [← he]; exact lsumOf_any A c xs w lo hi h hs

end Go.Proofs.Ytjoalilapbleiaa
