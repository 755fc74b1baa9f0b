/-
  What the helpers of the exact laws on rows of rows return, and what they write. No condition but lengths that fit.
-/
import Derived.Test.YtpdlppmkjkbboaaExactLeaf
import Derived.Test.YtpdlppmkjkbboaaGridA
namespace Go.Proofs.Ytpdlppmkjkbboaa
open Go.RowKit

set_option maxRecDepth 10000 in
set_option maxHeartbeats 400000 in
/-- toIntS, with the room of what it returns. -/
theorem toIntS_cap (A : Option Addr) (c : Nat) (xs : List Int) (w : World) (lo hi : Nat) (h : Ints w lo hi A xs) (hh : hi ≤ w.heap.size) (hl : xs.length ≤ 1048576) :
    Calls Try.prog 54 #[.slice A xs.length c] w fun e w' => ∃ A', e = .returned (.slice A' xs.length xs.length) ∧ Own w' w.heap.size w'.heap.size A' xs ∧ Below w.heap.size w w' := by
  obtain ⟨i0, hi0, hz0, hz1, hz2⟩ := info_parts info_int
  go_enter Try.func54, Try.ntmps54
  go_wp2_with (at_make; refine wpList_make_full _ rfl _ _ _ rfl w.heap.size 3 i0 _ 1 Try.underlying26 hi0 hz0 hz1 .i64 .i64 xs.length xs.length xs.length rfl rfl rfl rfl (by rw [hz2]; omega) (by unfold maxLen; omega) (Nat.le_refl _) ?_; intro w1 hown1 hgrow1)
  have hz := toList_madeCells_one (.int .i64 0) xs.length
  go_loopw [4] (fun i wr => ∃ k : Nat, k ≤ xs.length ∧ i = .int .i64 k ∧ wr.ownsRow w.heap.size 3 1 (.slice (some ⟨w.heap.size, 0, none⟩) xs.length xs.length) xs.length (ints (fillTo xs k)) ∧ Below w.heap.size w wr) (fun i _ => xs.length - (intOf i).toNat)
  case atStart => 
    refine ⟨0, Nat.zero_le _, rfl, ?_, (Below.refl _ _).grown hgrow1 (Nat.le_refl _) (by intro k hk; cases hk)⟩
    rw [fillTo_zero]
    have e : ints (List.replicate xs.length 0) = (madeCells (Value.int .i64 0).cells (xs.length * 1)).toList := by
      rw [Nat.mul_one]; show _ = (madeCells #[Value.int .i64 0] xs.length).toList; rw [hz]; simp [ints]
    rw [e]
    exact hown1
  case round =>
    obtain ⟨k, hk, rfl, hown, hbel⟩ := hrel
    clear hown1 hgrow1 hz
    by_cases hlt : k < xs.length
    · obtain ⟨b, o, rfl, _, hb, hc0⟩ := h.at_ hlt
      have hc : wr.cell? ⟨b, o + k, none⟩ = some (.int .i64 xs[k]) := (hbel.cell (by show b < _; omega)).trans hc0
      have hbs := hbel.size
      have hd : wr.cell? ⟨w.heap.size, k, none⟩ = some (.int .i64 0) := by rw [hown.cellAt k (by omega), fillTo_at xs k hlt]
      have hf := hown.frozenAt k
      have hst := (hown.stored k (.int .i64 xs[k])).1
      rw [← ints_set, fillTo_set xs k hlt] at hst
      have hbel' := hbel.setCell (p := ⟨w.heap.size, k, none⟩) (Nat.le_refl _) (.int .i64 xs[k])
      have H := Lib.hid (And.intro hst hbel')
      clear hst hbel' hown hbel hc0 h
      go_wp2
      go_roundw
      case rel => exact ⟨k + 1, by omega, by go_num, H.out.1, H.out.2⟩
      case measure => simp [intOf]; omega
    · obtain rfl : k = xs.length := by omega
      rw [fillTo_all] at hown
      have H := Lib.hid (And.intro hown hbel)
      clear hown hbel
      go_wp2
      go_ret
      obtain ⟨A', c', e1, _, ho⟩ := own_of_row H.out.1
      injection e1 with e1a e1b e1c
      subst e1a
      exact ⟨_, rfl, ho, H.out.2⟩

/-! A ladder: rows that lie one behind the other, below their table. -/
def Lad (w : World) (g hi n : Nat) (B : List (List Int)) (k : Nat) : Prop :=
  g < hi ∧ hi ≤ w.heap.size ∧ ∃ (vs : List Value) (m : Nat → Nat), vs.length = n ∧ w.ownsRow g 26 1 (.slice (some ⟨g, 0, none⟩) n n) n vs ∧ g < m 0 ∧ m k ≤ hi ∧ (∀ j, j < k → m j ≤ m (j + 1)) ∧
    ∀ j, j < k → ∃ A, vs[j]? = some (.slice A (B.getD j []).length (B.getD j []).length) ∧ Own w (m j) (m (j + 1)) A (B.getD j [])
theorem lad_mono {m : Nat → Nat} {k : Nat} (h : ∀ j, j < k → m j ≤ m (j + 1)) : ∀ {i j : Nat}, i ≤ j → j ≤ k → m i ≤ m j := by
  intro i j hij hj
  obtain ⟨d, rfl⟩ : ∃ d, j = i + d := ⟨j - i, by omega⟩
  induction d with
  | zero => exact Nat.le_refl _
  | succ d ih =>
    have e := ih (by omega) (by omega)
    have e2 := h (i + d) (by omega)
    exact Nat.le_trans e e2
section
variable {w w' : World} {g hi n k : Nat} {B : List (List Int)}
theorem Lad.keep (h : Lad w g hi n B k) (hs : w.heap.size ≤ w'.heap.size) (h1 : ∀ b, g ≤ b → b < hi → w'.heap[b]? = w.heap[b]?) (h2 : ∀ l r A xs, g ≤ l → r ≤ hi → Own w l r A xs → Own w' l r A xs) : Lad w' g hi n B k := by
  obtain ⟨p1, p2, vs, m, p3, p4, p5, p6, p7, p8⟩ := h
  refine ⟨p1, by omega, vs, m, p3, owns_block p4 (h1 g (Nat.le_refl _) p1), p5, p6, p7, fun j hj => ?_⟩
  obtain ⟨A, q1, q2⟩ := p8 j hj
  have a := lad_mono p7 (Nat.zero_le j) (by omega)
  have b := lad_mono p7 (show j + 1 ≤ k from hj) (Nat.le_refl _)
  exact ⟨A, q1, h2 _ _ _ _ (by omega) (by omega) q2⟩
theorem Lad.below {C : Nat} (h : Lad w g hi n B k) (hb : Below C w w') (hB : hi ≤ C) : Lad w' g hi n B k :=
  h.keep hb.size (fun b _ h2 => hb.block b (by omega)) fun l r A xs _ h2 ho => ho.below hb (by omega)
theorem Lad.chg {l r : Nat} (h : Lad w g hi n B k) (hc : Chg l r w w') (hd : hi ≤ l ∨ r ≤ g) : Lad w' g hi n B k := by
  have hs := h.2.1
  exact h.keep hc.size (fun b h1 h2 => hc.block b (by omega) (by omega)) fun l' r' A xs h1 h2 ho => ho.chg hc (by omega) (by omega)
theorem Lad.alloc (h : Lad w g hi n B k) (o : Obj) : Lad (w.alloc o) g hi n B k := h.below ((Below.refl _ _).alloc (Nat.le_refl _) o) h.2.1
theorem Lad.drew (h : Lad w g hi n B k) : Lad w.drew g hi n B k := h.keep (Nat.le_refl _) (fun _ _ _ => rfl) fun _ _ _ _ _ _ ho => ho.drewR
theorem Lad.lt (h : Lad w g hi n B k) : g < hi := h.1
theorem Lad.size (h : Lad w g hi n B k) : hi ≤ w.heap.size := h.2.1
theorem Lad.grid (h : Lad w g hi n B B.length) (hn : n = B.length) : Grid w g hi (some ⟨g, 0, none⟩) B := fun _ => by
  obtain ⟨p1, p2, vs, m, p3, p4, p5, p6, p7, p8⟩ := h
  refine ⟨g, 0, rfl, Nat.le_refl _, p1, fun j hj => ?_⟩
  obtain ⟨A, q1, q2⟩ := p8 j hj
  have a := lad_mono p7 (Nat.zero_le j) (by omega)
  have b := lad_mono p7 (show j + 1 ≤ B.length from hj) (Nat.le_refl _)
  exact ⟨A, _, by rw [Nat.zero_add, p4.cellAt j (by omega)]; exact q1, q2.ints.more (by omega) (by omega), Nat.le_refl _⟩
/-- One more row. -/
theorem Lad.more {A : Option Addr} (h : Lad w g hi n B k) (hk : k < n) (hb : Below w.heap.size w w') (ho : Own w' w.heap.size w'.heap.size A (B.getD k [])) :
    Lad (w'.setCell ⟨g, k, none⟩ (.slice A (B.getD k []).length (B.getD k []).length)) g w'.heap.size n B (k + 1) := by
  have hsz := hb.size
  obtain ⟨p1, p2, vs, m, p3, p4, p5, p6, p7, p8⟩ := h
  have hm0 := lad_mono p7 (Nat.zero_le k) (Nat.le_refl _)
  have p4' : w'.ownsRow g 26 1 (.slice (some ⟨g, 0, none⟩) n n) n vs := owns_block p4 (hb.block g (by omega))
  have hst := (p4'.stored k (.slice A (B.getD k []).length (B.getD k []).length)).1
  refine ⟨by omega, by simp [World.setCell], vs.set k (.slice A (B.getD k []).length (B.getD k []).length), fun j => if j ≤ k then m j else w'.heap.size, by rw [List.length_set]; exact p3, hst, by simpa using p5, by show (if k + 1 ≤ k then m (k + 1) else w'.heap.size) ≤ _; rw [if_neg (by omega)]; exact Nat.le_refl _, fun j hj => ?_, fun j hj => ?_⟩
  · rcases Nat.lt_or_ge j k with q | q
    · have e := p7 j q
      simp only [show j ≤ k by omega, show j + 1 ≤ k by omega, if_true]; exact e
    · obtain rfl : j = k := by omega
      simp only [Nat.le_refl, if_true, show ¬ j + 1 ≤ j by omega, if_false]; omega
  · rcases Nat.lt_or_ge j k with q | q
    · obtain ⟨A', q1, q2⟩ := p8 j q
      have a := lad_mono p7 (Nat.zero_le j) (by omega)
      have b := lad_mono p7 (show j + 1 ≤ k from q) (Nat.le_refl _)
      simp only [show j ≤ k by omega, show j + 1 ≤ k by omega, if_true]
      refine ⟨A', by rw [List.getElem?_set_ne (by omega)]; exact q1, (q2.below hb (by omega)).set_out (by show g < _ ∨ _; omega) _⟩
    · obtain rfl : j = k := by omega
      simp only [Nat.le_refl, if_true, show ¬ j + 1 ≤ j by omega, if_false]
      refine ⟨A, by rw [List.getElem?_set_self (by omega)], ?_⟩
      exact (ho.more (show m j ≤ w.heap.size by omega) (Nat.le_refl _)).set_out (by show g < _ ∨ _; omega) _
end

theorem info_row3 : ∃ i, Try.prog.info? 26 = some i ∧ i.zero = some (.slice none 0 0) ∧ i.size = 1 ∧ i.bytes = 24 := by
  have e := info_row
  cases h : Try.prog.info? 26 with
  | none => rw [h] at e; cases e
  | some i => rw [h] at e; simp only [Option.map_some, Option.some.injEq, Prod.mk.injEq] at e; exact ⟨i, rfl, e.1, e.2.1, e.2.2⟩
theorem owns_lt {w : World} {g n : Nat} {e : TypeId} {vs : List Value} (h : w.ownsRow g e 1 (.slice (some ⟨g, 0, none⟩) n n) n vs) : g < w.heap.size := by
  rcases h.2 with ⟨hv, _⟩ | ⟨g', cap, cur, hv, hb, hg, _⟩
  · cases hv
  · injection hv with hv _ _
    injection hv with hv
    injection hv with hv _ _
    subst hv
    rcases Nat.lt_or_ge g w.heap.size with e | e
    · exact e
    · rw [Array.getElem?_eq_none e] at hg; cases hg
theorem Lad.slot {w : World} {g hi n k j : Nat} {B : List (List Int)} (h : Lad w g hi n B k) (hj : j < n) : w.frozen? ⟨g, j, none⟩ = false ∧ ∃ v, w.cell? ⟨g, j, none⟩ = some v := by
  obtain ⟨_, _, vs, m, p3, p4, _⟩ := h
  exact ⟨p4.frozenAt j, vs[j]'(by omega), by rw [p4.cellAt j (by omega)]; exact List.getElem?_eq_getElem (by omega)⟩
/-- What toIntSS returns: a ladder. -/
def RetLad (w : World) (B : List (List Int)) (e : Ending) (w' : World) : Prop :=
  ∃ g, e = .returned (.slice (some ⟨g, 0, none⟩) B.length B.length) ∧ w.heap.size ≤ g ∧ Lad w' g w'.heap.size B.length B B.length ∧ Below w.heap.size w w'
set_option maxRecDepth 10000 in
set_option maxHeartbeats 1000000 in
theorem toIntSS_any (A : Option Addr) (c : Nat) (B : List (List Int)) (w : World) (lo hi : Nat) (h : Grid w lo hi A B) (hh : hi ≤ w.heap.size) (hl : B.length ≤ 1048576) (hr : ∀ k, (B.getD k []).length ≤ 1048576) :
    Calls Try.prog 38 #[.slice A B.length c] w (RetLad w B) := by
  obtain ⟨i0, hi0, hz0, hz1, hz2⟩ := info_row3
  have HR := Lib.hid hr
  clear hr
  go_enter Try.func38, Try.ntmps38
  go_wp2_with (at_make; refine wpList_make_full _ rfl _ _ _ rfl w.heap.size 26 i0 _ 1 Try.underlying23 hi0 hz0 hz1 .i64 .i64 B.length B.length B.length rfl rfl rfl rfl (by rw [hz2]; omega) (by unfold maxLen; omega) (Nat.le_refl _) ?_; intro w1 hown1 hgrow1)
  have hb1 : Below w.heap.size w w1 := (Below.refl _ _).grown hgrow1 (Nat.le_refl _) (by intro k hk; cases hk)
  have HL1 : Hid (Lad w1 w.heap.size w1.heap.size B.length B 0) := ⟨owns_lt hown1, Nat.le_refl _, _, fun _ => w1.heap.size, by rw [Array.length_toList, size_madeCells]; omega, hown1, owns_lt hown1, Nat.le_refl _, fun j hj => absurd hj (by omega), fun j hj => absurd hj (by omega)⟩
  clear hown1 hgrow1
  go_loopw [4] (fun i wr => ∃ k : Nat, k ≤ B.length ∧ i = .int .i64 k ∧ Hid (Lad wr w.heap.size wr.heap.size B.length B k) ∧ Below w.heap.size w wr) (fun i _ => B.length - (intOf i).toNat)
  case atStart => exact ⟨0, Nat.zero_le _, rfl, HL1, hb1⟩
  case round =>
    obtain ⟨k, hk, rfl, HL, hbel⟩ := hrel
    clear HL1 hb1
    have hlt9 := HL.out.1
    have hbs := hbel.size
    by_cases hlt : k < B.length
    · obtain ⟨b, o, rfl, _, hb, hc⟩ := h (by omega)
      obtain ⟨D, d, q1, q2, _⟩ := hc k hlt
      obtain ⟨y, hy⟩ : ∃ y_, B.getD k [] = y_ := ⟨_, rfl⟩
      have hry := HR.out k
      rw [hy] at q1 q2 hry
      have hc1 : wr.cell? ⟨b, o + k, none⟩ = some (.slice D y.length d) := (hbel.cell (by show b < _; omega)).trans q1
      have F := q2.below hbel hh
      have HM : Hid (∀ (A' : Option Addr) (w2 : World), Below wr.heap.size wr w2 → Own w2 wr.heap.size w2.heap.size A' y → Lad (w2.setCell ⟨w.heap.size, k, none⟩ (.slice A' y.length y.length)) w.heap.size w2.heap.size B.length B (k + 1)) := fun A' w2 hb2 ho => by
        have e := HL.out.more (A := A') hlt hb2 (by rw [hy]; exact ho)
        rwa [hy] at e
      clear hy hc q1 q2 h
      go_wp2_with fail
      refine (toIntS_cap D d y wr lo hi F (by omega) hry).mono ?_
      rintro e w2 ⟨A', rfl, ho, hb2⟩
      obtain ⟨hf, v, hv⟩ := (HL.out.below hb2 (Nat.le_refl _)).slot hlt
      have hb3 : Below w.heap.size w (w2.setCell ⟨w.heap.size, k, none⟩ (.slice A' y.length y.length)) := (hbel.trans (hb2.mono (by omega))).setCell (Nat.le_refl _) _
      have H3 : Hid (Lad (w2.setCell ⟨w.heap.size, k, none⟩ (.slice A' y.length y.length)) w.heap.size (w2.setCell ⟨w.heap.size, k, none⟩ (.slice A' y.length y.length)).heap.size B.length B (k + 1)) := by
        have e := HM.out A' w2 hb2 ho
        have z : (w2.setCell ⟨w.heap.size, k, none⟩ (.slice A' y.length y.length)).heap.size = w2.heap.size := World.size_setCell _ _ _
        show Lad _ _ _ _ _ _
        rw [z]; exact e
      have HB3 := Lib.hid hb3
      clear hb3 hb2 hbel ho
      go_wp2
      go_roundw
      case rel => exact ⟨k + 1, by omega, by go_num, H3, HB3.out⟩
      case measure => simp [intOf]; omega
    · obtain rfl : k = B.length := by omega
      have HB := Lib.hid hbel
      clear hbel
      go_wp2
      go_ret
      exact ⟨w.heap.size, rfl, Nat.le_refl _, HL.out, HB.out⟩

end Go.Proofs.Ytpdlppmkjkbboaa
