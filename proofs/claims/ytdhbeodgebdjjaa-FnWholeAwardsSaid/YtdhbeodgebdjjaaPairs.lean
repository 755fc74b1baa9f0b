/-
  Rows of pairs (rests and their places): how they lie, how they are filled, and how slices.SortFunc leaves them. No condition but that there are at most twelve to sort.
-/
import Derived.Test.YtdhbeodgebdjjaaRests
namespace Go.Proofs.Ytdhbeodgebdjjaa
open Go.RowKit Go.Shelf
open Go.Sort (grow Holds putRow heap_grow_old mapBlock PermIn SortedIn HoldsK size_flatK get_flatK)

/-- The cell at a place of a row of pairs. -/
def pv (rs : List (Int × Int)) (t : Nat) : Value := .int .i64 (if t % 2 = 0 then (rs.getD (t / 2) (0, 0)).1 else (rs.getD (t / 2) (0, 0)).2)
def Prs (w : World) (b : Nat) (rs : List (Int × Int)) : Prop := ∀ t, t < 2 * rs.length → w.cell? ⟨b, t, none⟩ = some (pv rs t) ∧ w.frozen? ⟨b, t, none⟩ = false
theorem Prs.at_ {w : World} {b : Nat} {rs : List (Int × Int)} (h : Prs w b rs) (j : Nat) (hj : j < rs.length) :
    w.cell? ⟨b, j * 2, none⟩ = some (.int .i64 (rs.getD j (0, 0)).1) ∧ w.cell? ⟨b, j * 2 + 1, none⟩ = some (.int .i64 (rs.getD j (0, 0)).2) := by
  have h1 := (h (j * 2) (by omega)).1
  have h2 := (h (j * 2 + 1) (by omega)).1
  have e1 : (j * 2) % 2 = 0 := by omega
  have e2 : (j * 2) / 2 = j := by omega
  have e3 : ¬ (j * 2 + 1) % 2 = 0 := by omega
  have e4 : (j * 2 + 1) / 2 = j := by omega
  rw [pv, if_pos e1, e2] at h1
  rw [pv, if_neg e3, e4] at h2
  exact ⟨h1, h2⟩
theorem Prs.chg {w w' : World} {b lo hi : Nat} {rs : List (Int × Int)} (h : Prs w b rs) (hc : Chg lo hi w w') (hb : b < w.heap.size) (hn : ¬ (lo ≤ b ∧ b < hi)) : Prs w' b rs := fun t ht =>
  ⟨(hc.cell (p := ⟨b, t, none⟩) hb hn).trans (h t ht).1, (hc.frozen (p := ⟨b, t, none⟩) hb hn).trans (h t ht).2⟩
/-- A row of pairs that is filled from the left. -/
def prow (rs : List (Int × Int)) (k : Nat) : List Value := (List.range (2 * rs.length)).map fun t => if t / 2 < k then pv rs t else .int .i64 0
theorem prow_length (rs : List (Int × Int)) (k : Nat) : (prow rs k).length = 2 * rs.length := by simp [prow]
theorem prow_get (rs : List (Int × Int)) (k t : Nat) (h : t < 2 * rs.length) : (prow rs k)[t]? = some (if t / 2 < k then pv rs t else .int .i64 0) := by simp [prow, h]
theorem prow_start (rs : List (Int × Int)) (n : Nat) (h : rs.length = n) : (madeCells (Value.agg #[.int .i64 0, .int .i64 0]).cells (n * 2)).toList = prow rs 0 := by
  subst h
  have e : (Value.agg #[.int .i64 0, .int .i64 0]).cells = #[.int .i64 0, .int .i64 0] := rfl
  rw [e]
  apply List.ext_getElem
  · simp [madeCells, prow_length]; omega
  · intro t h1 h2
    have h3 : t < 2 * rs.length := by rw [prow_length] at h2; exact h2
    have e2 := prow_get rs 0 t h3
    rw [List.getElem?_eq_getElem h2] at e2
    have e3 := Option.some.inj e2
    rw [e3, if_neg (by omega)]
    have h4 : t % 2 = 0 ∨ t % 2 = 1 := by omega
    rcases h4 with h4 | h4 <;> simp [madeCells, h4]
theorem prow_set (rs : List (Int × Int)) (k : Nat) (_hk : k < rs.length) (x y : Int) (hx : (rs.getD k (0, 0)).1 = x) (hy : (rs.getD k (0, 0)).2 = y) :
    ((prow rs k).set (k * 2) (.int .i64 x)).set (k * 2 + 1) (.int .i64 y) = prow rs (k + 1) := by
  apply List.ext_getElem?
  intro t
  by_cases ht : t < 2 * rs.length
  · rw [prow_get rs (k + 1) t ht]
    by_cases h1 : k * 2 + 1 = t
    · subst h1
      have e4 : (k * 2 + 1) / 2 = k := by omega
      have e3 : ¬ (k * 2 + 1) % 2 = 0 := by omega
      rw [List.getElem?_set_self (by rw [List.length_set, prow_length]; exact ht), if_pos (by omega), pv, if_neg e3, e4, hy]
    · rw [List.getElem?_set_ne h1]
      by_cases h2 : k * 2 = t
      · subst h2
        have e4 : (k * 2) / 2 = k := by omega
        have e3 : (k * 2) % 2 = 0 := by omega
        rw [List.getElem?_set_self (by rw [prow_length]; exact ht), if_pos (by omega), pv, if_pos e3, e4, hx]
      · rw [List.getElem?_set_ne h2, prow_get rs k t ht]
        by_cases h3 : t / 2 < k
        · rw [if_pos h3, if_pos (by omega)]
        · rw [if_neg h3, if_neg (by omega)]
  · rw [List.getElem?_eq_none (by rw [List.length_set, List.length_set, prow_length]; omega), List.getElem?_eq_none (by rw [prow_length]; omega)]
theorem prow_more {w : World} {G : Nat} {e : TypeId} {n : Nat} {rs : List (Int × Int)} {k : Nat} (h : w.ownsRow G e 2 (.slice (some ⟨G, 0, none⟩) n n) n (prow rs k)) (hk : k < rs.length) (x y : Int) (hx : (rs.getD k (0, 0)).1 = x) (hy : (rs.getD k (0, 0)).2 = y) :
    ((w.setCell ⟨G, k * 2, none⟩ (.int .i64 x)).setCell ⟨G, k * 2 + 1, none⟩ (.int .i64 y)).ownsRow G e 2 (.slice (some ⟨G, 0, none⟩) n n) n (prow rs (k + 1)) := by
  have h1 := ((h.stored (k * 2) (.int .i64 x)).1.stored (k * 2 + 1) (.int .i64 y)).1
  rw [prow_set rs k hk x y hx hy] at h1
  exact h1
theorem prow_end {w : World} {G : Nat} {e : TypeId} {n : Nat} {rs : List (Int × Int)} (hn : rs.length = n) (h : w.ownsRow G e 2 (.slice (some ⟨G, 0, none⟩) n n) n (prow rs n)) : Prs w G rs := fun t ht =>
  ⟨by rw [h.cellAt t (by omega), prow_get rs n t ht, if_pos (by omega)], h.frozenAt t⟩
theorem prow_cell {w : World} {G : Nat} {e : TypeId} {n : Nat} {rs : List (Int × Int)} {k : Nat} (hn : rs.length = n) (h : w.ownsRow G e 2 (.slice (some ⟨G, 0, none⟩) n n) n (prow rs k)) (hk : k < n) :
    w.cell? ⟨G, k * 2, none⟩ = some (.int .i64 0) ∧ w.cell? ⟨G, k * 2 + 1, none⟩ = some (.int .i64 0) ∧ w.frozen? ⟨G, k * 2, none⟩ = false ∧ w.frozen? ⟨G, k * 2 + 1, none⟩ = false :=
  ⟨by rw [h.cellAt (k * 2) (by omega), prow_get rs k (k * 2) (by omega), if_neg (by omega)], by rw [h.cellAt (k * 2 + 1) (by omega), prow_get rs k (k * 2 + 1) (by omega), if_neg (by omega)], h.frozenAt _, h.frozenAt _⟩

theorem holdsK_of {w : World} {b : Nat} {rs : List (Int × Int)} (h : Prs w b rs) : HoldsK encR 2 w b 0 rs.toArray := fun t ht => by
  rw [size_flatK] at ht
  have ht' : t < 2 * rs.length := by simpa [Nat.mul_comm] using ht
  rw [Nat.zero_add]
  obtain ⟨h1, h2⟩ := h t ht'
  refine ⟨?_, h2⟩
  rw [h1, get_flatK encR 2 rs.toArray t ht]
  have hq : t / 2 < rs.length := by omega
  have e1 : rs.toArray[t / 2]! = rs.getD (t / 2) (0, 0) := by simp [List.getD, hq]
  rw [e1]
  have h4 : t % 2 = 0 ∨ t % 2 = 1 := by omega
  rcases h4 with h4 | h4 <;> simp [pv, encR, h4]
theorem of_holdsK {w : World} {b : Nat} {d : Array (Int × Int)} (h : HoldsK encR 2 w b 0 d) : Prs w b d.toList := fun t ht => by
  have ht' : t < d.size * 2 := by simpa [Nat.mul_comm] using ht
  have h0 := h t (by rw [size_flatK]; exact ht')
  rw [Nat.zero_add] at h0
  obtain ⟨h1, h2⟩ := h0
  refine ⟨?_, h2⟩
  rw [h1, get_flatK encR 2 d t ht']
  have hq : t / 2 < d.size := by omega
  have e1 : d[t / 2]! = d.toList.getD (t / 2) (0, 0) := by simp [List.getD, hq]
  rw [e1]
  have h4 : t % 2 = 0 ∨ t % 2 = 1 := by omega
  rcases h4 with h4 | h4 <;> simp [pv, encR, h4]
theorem chg_at {w : World} {g o n : Nat} {os : Array Obj} (d : Array Value) : Chg g (g + 1) w (grow (putRow id (Go.Sort.ahead w n) g o d) os) := by
  refine ⟨rfl, rfl, rfl, by simp, fun k hk hne => ?_⟩
  rw [heap_grow_old _ _ (by simpa using hk)]
  have : g ≠ k := fun e => hne (by omega)
  simp [putRow, mapBlock, Go.Sort.ahead, Array.getElem?_modify, this]

set_option maxRecDepth 10000 in
set_option maxHeartbeats 400000 in
theorem sortRests_any (b cap : Nat) (rs : List (Int × Int)) (w : World) (h : Prs w b rs) (hb : b < w.heap.size) (hn : rs.length ≤ 12) :
    Calls Try.prog 66 #[.slice (some ⟨b, 0, none⟩) rs.length cap, .func (.func 67) #[] #[]] w fun e w' => e = .returned (.tuple #[]) ∧ ∃ rs' : List (Int × Int), rs'.Perm rs ∧ rs'.Pairwise (fun x y => ¬ (x.1 < y.1 ∨ (y.1 = x.1 ∧ y.2 < x.2))) ∧ Prs w' b rs' ∧ Chg b (b + 1) w w' := by
  have hK := holdsK_of h
  have eg : ∀ args w, (callFunc 67 args).run Try.prog w = .ok (.enter 67 args) w := enters_of Try.func67 (by kernel_rfl) rfl
  have hcon := AnyQ.slices_SortFunc_small_sorted Try.laysSort66 2 Try.isAgg70 Try.sizeOf70 encR (fun _ => rfl) (fun x v hv => by simp [encR] at hv; rcases hv with rfl | rfl <;> rfl) cfR 67 #[] swoR b 0 cap rs.toArray w eg (cmpLaysR b 0 _ w) hK hb (by simpa using hn) (fun n W hn => (Try.bits_Len n W (by omega) (by omega)).mono fun e w' ⟨he, hw⟩ => ⟨⟨_, he⟩, hw⟩)
  have hs : rs.toArray.size = rs.length := by simp
  rw [hs] at hcon
  refine hcon.mono ?_
  rintro e w' ⟨he, d', n, os, hp, hso, hw⟩
  obtain ⟨hp1, _, hp3⟩ := hp
  have e1 : (d'.extract 0 rs.length).toList = d'.toList := by rw [← hs, ← hp1]; simp
  have e2 : (rs.toArray.extract 0 rs.length).toList = rs := by simp
  rw [e1, e2] at hp3
  refine ⟨he, d'.toList, hp3, ?_, ?_, ?_⟩
  · refine List.pairwise_iff_getElem.2 fun i j hi hj hij => ?_
    have hj' : j < rs.length := by rw [← hs, ← hp1]; simpa using hj
    have hi' : i < d'.size := by simpa using hi
    have hj2 : j < d'.size := by simpa using hj
    have e := hso i j (Nat.zero_le _) hij hj'
    rw [getElem!_pos d' j hj2, getElem!_pos d' i hi', ltR] at e
    simpa using e
  · refine of_holdsK ?_
    rw [hw]
    unfold sortWorldK
    rw [← Go.Sort.putRowK_grow encR 2 (Go.Sort.ahead w n) os b 0 d' hb]
    exact Go.Sort.holdsK_putRowK encR 2 _ b 0 rs.toArray d' (Go.Sort.holdsK_grow encR 2 _ _ b 0 rs.toArray hb (Go.Sort.holdsK_ahead encR 2 w n b 0 rs.toArray hK)) hp1
  · rw [hw]
    exact chg_at _

end Go.Proofs.Ytdhbeodgebdjjaa
