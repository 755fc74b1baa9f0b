/-
  A case is drawn: whatever is read, it has at most five claims, in new memory, and only the reader is written.
-/
import Derived.Test.YtpoafafoncgenabDraw2
import Derived.Test.YtpoafafoncgenabLeast
import Derived.Test.YtpoafafoncgenabBox
import Derived.Deep.RegionLaw
import Derived.Deep.RegionHeld3
import Derived.Deep.AppendLies
namespace Go.Proofs.Ytpoafafoncgenab
open Go.RowKit

theorem Rd.of_block {w w' : World} {R : Nat} {A : Option Addr} {c : Nat} {bs : List Int} {q : Nat} (h : Rd w R A c bs q) (e : ∀ k, k ≤ R → w'.heap[k]? = w.heap[k]?) (hs : w.heap.size ≤ w'.heap.size) : Rd w' R A c bs q := by
  refine ⟨(World.cell?_of_block (w := w) (a := ⟨R, 0, none⟩) (e R (Nat.le_refl _))).trans h.s, (World.cell?_of_block (w := w) (a := ⟨R, 1, none⟩) (e R (Nat.le_refl _))).trans h.p, (World.frozen?_of_block (w := w) (a := ⟨R, 1, none⟩) (e R (Nat.le_refl _))).trans h.f, ?_, Nat.lt_of_lt_of_le h.lt hs⟩
  intro hn
  obtain ⟨b, o, e1, h1, hc, hr⟩ := h.b hn
  exact ⟨b, o, e1, h1, fun j hj => (World.cell?_of_block (w := w) (a := ⟨b, o + j, none⟩) (e b (by omega))).trans (hc j hj), hr⟩
theorem Rd.below {B : Nat} {w w' : World} {R : Nat} {A : Option Addr} {c : Nat} {bs : List Int} {q : Nat} (h : Rd w R A c bs q) (k : Below B w w') (hB : R < B) : Rd w' R A c bs q := h.of_block (fun i hi => k.block i (by omega)) k.size
theorem Rd.alloc {w : World} {R : Nat} {A : Option Addr} {c : Nat} {bs : List Int} {q : Nat} (h : Rd w R A c bs q) (o : Obj) : Rd (w.alloc o) R A c bs q := h.of_block (fun i hi => Below.heap_alloc w o i (by have := h.lt; omega)) (by simp)

theorem Rd.drew {w : World} {R : Nat} {A : Option Addr} {c : Nat} {bs : List Int} {q : Nat} (h : Rd w R A c bs q) : Rd w.drew R A c bs q := ⟨h.s, h.p, h.f, h.b, h.lt⟩
theorem Chg.of_drew {lo hi : Nat} {w w' : World} (h : Chg lo hi w.drew w') : Chg lo hi w w' := ⟨h.os, h.tape, h.output, h.size, h.block⟩

theorem Chg.one {R : Nat} {w w' : World} (h : Chg R (R + 1) w w') : w.grownBy w' (some R) :=
  ⟨h.os, h.tape, h.output, h.size, fun k hk hne => h.block k hk (fun ⟨h1, h2⟩ => hne (by rw [show k = R by omega]))⟩
theorem own_kept {R B : Nat} {w w' : World} {e : TypeId} {v : Value} {n : Nat} {xs : List Value} (h : w.ownsRow B e 1 v n xs) (hc : Chg R (R + 1) w w') (hR : R < B) : w'.ownsRow B e 1 v n xs :=
  h.kept hc.one (.inr (fun e1 => by have := (h.lt R e1).1; omega))
theorem drawn_eq (p1 p2 : Int) (h1 : 0 ≤ p1) (h2 : p1 < 7) (h3 : 0 ≤ p2) (h4 : p2 < 3) : IntKind.i64.wrap (p2.tdiv 2) = p2 / 2 ∧ IntKind.i64.wrap (p2 / 2 * 6) = p2 / 2 * 6 ∧ IntKind.i64.wrap (p1 + p2 / 2 * 6) = p1 + p2 / 2 * 6 ∧ 0 ≤ p1 + p2 / 2 * 6 ∧ p1 + p2 / 2 * 6 ≤ 12 :=
  ⟨by rw [Int.tdiv_eq_ediv_of_nonneg h3]; exact IntWalk.i64_in _ (by omega), IntWalk.i64_in _ (by omega), IntWalk.i64_in _ (by omega), by omega, by omega⟩

/-- What the drawing of a case leaves. -/
def CaseTo (w : World) (R : Nat) (A : Option Addr) (c : Nat) (bs : List Int) (q : Nat) (e : Ending) (w' : World) : Prop :=
  ∃ E A' c', ∃ xs : List Int, e = .returned (.agg #[.int .i64 E, .slice A' xs.length c']) ∧ Own w' w.heap.size w'.heap.size A' xs ∧ xs.length ≤ 5 ∧ (∃ q', q' ≤ q + 20 ∧ Rd w' R A c bs q') ∧ Chg R (R + 1) w w'

/-- What holds between the claims that are drawn. -/
def Mid (w : World) (R : Nat) (A : Option Addr) (c : Nat) (bs : List Int) (q : Nat) (j : Nat) (wr : World) : Prop :=
  ∃ v, ∃ xs : List Int, ∃ q', 1 ≤ xs.length + j ∧ xs.length + j ≤ 4 ∧ q' ≤ q + 1 + 2 * xs.length ∧ (∀ x ∈ xs, 0 ≤ x ∧ x ≤ 12) ∧ Box wr w.heap.size (.int .i64 0) (.slice none 0 0) ∧ Box wr (w.heap.size + 1) (.int .i64 0) v ∧
    wr.ownsRow (w.heap.size + 2) 3 1 v xs.length (ints xs) ∧ Rd wr R A c bs q' ∧ Chg R (R + 1) w wr ∧ w.heap.size + 2 ≤ wr.heap.size

theorem mid_step {w : World} {R : Nat} {A : Option Addr} {c : Nat} {bs : List Int} {q j q' : Nat} {v : Value} {xs : List Int} {wr w3 w4 : World} {x : Int} {g cp : Nat} (hR : R < w.heap.size) (hj : 0 < j) (hj1 : 1 ≤ xs.length + j) (hj2 : xs.length + j ≤ 4)
    (hq' : q' ≤ q + 1 + 2 * xs.length) (hx12 : ∀ x ∈ xs, 0 ≤ x ∧ x ≤ 12) (bx0 : Box wr w.heap.size (.int .i64 0) (.slice none 0 0)) (bx14 : Box w4 (w.heap.size + 1) (.int .i64 0) v)
    (own3 : (w3.alloc (.cells #[.int .i64 x] 3)).ownsRow (w.heap.size + 2) 3 1 v xs.length (ints xs)) (hch : Chg R (R + 1) w wr) (hsz' : w.heap.size + 2 ≤ wr.heap.size) (h3 : Chg R (R + 1) wr w3) (rd3 : Rd w3 R A c bs (q' + 2)) (hx : 0 ≤ x ∧ x ≤ 12)
    (hown4 : w4.ownsRow (w.heap.size + 2) 3 1 (.slice (some ⟨g, 0, none⟩) (xs.length + 1) cp) (xs.length + 1) (ints xs ++ [.int .i64 x])) (hgrow4 : (w3.alloc (.cells #[.int .i64 x] 3)).grownBy w4 v.ownBlock) :
    Mid w R A c bs q (j - 1) (w4.setCell ⟨w.heap.size + 1, 1, none⟩ (.slice (some ⟨g, 0, none⟩) (xs.length + 1) cp)) := by
  have hne : ∀ k, k < w.heap.size + 2 → some k ≠ v.ownBlock := fun k hk e => by have := (own3.lt k e.symm).1; omega
  have z3 := h3.size
  have z4 := hgrow4.size
  rw [hsz] at z4
  have hb : ∀ k, k < w3.heap.size → k < w.heap.size + 2 → w4.heap[k]? = w3.heap[k]? := fun k h1 h2 => (hgrow4.block k (by rw [hsz]; omega) (hne k h2)).trans (Below.heap_alloc w3 _ k h1)
  have b0 := bx0.chg h3 (by omega)
  have b04 : Box w4 w.heap.size (.int .i64 0) (.slice none 0 0) := b0.of_block (hb _ b0.lt (by omega)) (by omega)
  have r4 : Rd w4 R A c bs (q' + 2) := rd3.of_block (fun k hk => hb k (by have := rd3.lt; omega) (by omega)) (by omega)
  refine ⟨_, xs ++ [x], q' + 2, by simp; omega, by simp; omega, by simp; omega, ?_, b04.far (by simp) _, bx14.set1 _, ?_, r4.of_block (fun k hk => Below.heap_setCell _ _ _ _ (by show k ≠ w.heap.size + 1; omega)) (by simp [World.setCell]), ?_, by simp [World.setCell]; omega⟩
  · intro y hy
    rcases List.mem_append.1 hy with hy | hy
    · exact hx12 y hy
    · simp at hy; subst hy; exact hx
  · have e1 : ints (xs ++ [x]) = ints xs ++ [.int .i64 x] := by simp [ints]
    have e2 : (xs ++ [x]).length = xs.length + 1 := by simp
    rw [e1, e2]
    exact ownsRow_setCell_below hown4 (by show w.heap.size + 1 < _; omega) _
  · have hc := hch.trans h3
    refine ⟨?_, ?_, ?_, ?_, fun k hk hn => ?_⟩
    · exact hgrow4.os.trans hc.os
    · exact hgrow4.tape.trans hc.tape
    · exact hgrow4.output.trans hc.output
    · have := hc.size; simp [World.setCell]; omega
    · rw [Below.heap_setCell _ _ _ _ (by show k ≠ w.heap.size + 1; omega), hb k (by have := hc.size; omega) (by omega)]
      exact hc.block k hk hn

theorem Chg.set_new {lo hi : Nat} {w w2 : World} (h : Chg lo hi w w2) {p : Addr} (hp : w.heap.size ≤ p.block) (u : Value) : Chg lo hi w (w2.setCell p u) :=
  ⟨h.os, h.tape, h.output, by have := h.size; simpa [World.setCell] using this, fun k hk hn => (Below.heap_setCell _ _ _ _ (by omega)).trans (h.block k hk hn)⟩
theorem Rd.set_new {w : World} {R : Nat} {A : Option Addr} {c : Nat} {bs : List Int} {q : Nat} (h : Rd w R A c bs q) {p : Addr} (hp : R < p.block) (u : Value) : Rd (w.setCell p u) R A c bs q :=
  h.of_block (fun k hk => Below.heap_setCell _ _ _ _ (by omega)) (by simp [World.setCell])
theorem own_new (w : World) (t : TypeId) (l : List Int) : Own (w.alloc (.cells (ints l).toArray t)) w.heap.size (w.heap.size + 1) (some ⟨w.heap.size, 0, none⟩) l := fun _ => by
  have hh := heap_alloc_new w (.cells (ints l).toArray t)
  refine ⟨w.heap.size, 0, rfl, Nat.le_refl _, Nat.lt_succ_self _, fun j hj => ?_, fun j hj => ?_⟩
  · rw [cell_of_row _ _ _ (ints l).toArray t (0, 0) hh, Nat.zero_add]
    have e := ints_at l j hj
    simpa using e
  · exact frozen_of_row _ _ _ _ _ hh
theorem case_new {w : World} {R : Nat} {A : Option Addr} {c : Nat} {bs : List Int} {q q' : Nat} {wf : World} {E : Int} (l : List Int) (hR : R < w.heap.size) (hlen : l.length ≤ 5) (hs : w.heap.size + 2 ≤ wf.heap.size)
    (rd : Rd wf R A c bs q') (hq' : q' ≤ q + 20) (hch : Chg R (R + 1) w wf) :
    CaseTo w R A c bs q (.returned (.agg #[.int .i64 E, .slice (some ⟨wf.heap.size, 0, none⟩) l.length l.length])) (((wf.setCell ⟨w.heap.size, 0, none⟩ (.int .i64 E)).setCell ⟨w.heap.size, 1, none⟩ (.slice (some ⟨wf.heap.size, 0, none⟩) l.length l.length)).alloc (.cells (ints l).toArray 3)) := by
  have hn := own_new ((wf.setCell ⟨w.heap.size, 0, none⟩ (.int .i64 E)).setCell ⟨w.heap.size, 1, none⟩ (.slice (some ⟨wf.heap.size, 0, none⟩) l.length l.length)) 3 l
  have e : ((wf.setCell ⟨w.heap.size, 0, none⟩ (.int .i64 E)).setCell ⟨w.heap.size, 1, none⟩ (.slice (some ⟨wf.heap.size, 0, none⟩) l.length l.length)).heap.size = wf.heap.size := by simp [World.setCell]
  rw [e] at hn
  refine ⟨E, some ⟨wf.heap.size, 0, none⟩, l.length, l, rfl, hn.more (by omega) (by rw [hsz, e]; exact Nat.le_refl _), hlen, ⟨q', hq', ?_⟩, ?_⟩
  · exact ((rd.set_new (p := ⟨w.heap.size, 0, none⟩) hR _).set_new (p := ⟨w.heap.size, 1, none⟩) hR _).alloc _
  · exact ((hch.set_new (p := ⟨w.heap.size, 0, none⟩) (Nat.le_refl _) _).set_new (p := ⟨w.heap.size, 1, none⟩) (Nat.le_refl _) _).trans (Chg.alloc _ _)
theorem case_end {w : World} {R : Nat} {A : Option Addr} {c : Nat} {bs : List Int} {q q' : Nat} {wf : World} {A' : Option Addr} {c' : Nat} {xs : List Int} {E : Int} (hR : R < w.heap.size) (own : Own wf (w.heap.size + 2) wf.heap.size A' xs) (hlen : xs.length ≤ 5)
    (rd : Rd wf R A c bs q') (hq' : q' ≤ q + 20) (hch : Chg R (R + 1) w wf) :
    CaseTo w R A c bs q (.returned (.agg #[.int .i64 E, .slice A' xs.length c'])) ((wf.setCell ⟨w.heap.size, 0, none⟩ (.int .i64 E)).setCell ⟨w.heap.size, 1, none⟩ (.slice A' xs.length c')) := by
  refine ⟨E, A', c', xs, rfl, ((own.set_out (.inl (by simp)) _).set_out (.inl (by simp)) _).more (by omega) (by simp [World.setCell]), hlen, ⟨q', hq', ?_⟩, ?_⟩
  · exact rd.of_block (fun k hk => (Below.heap_setCell _ _ _ _ (by show k ≠ w.heap.size; omega)).trans (Below.heap_setCell _ _ _ _ (by show k ≠ w.heap.size; omega))) (by simp [World.setCell])
  · exact ⟨hch.os, hch.tape, hch.output, by have := hch.size; simp [World.setCell]; omega, fun k hk hn => by
      rw [Below.heap_setCell _ _ _ _ (by show k ≠ w.heap.size; omega), Below.heap_setCell _ _ _ _ (by show k ≠ w.heap.size; omega)]
      exact hch.block k hk hn⟩

theorem CaseTo.alloc {w w' : World} {R : Nat} {A : Option Addr} {c : Nat} {bs : List Int} {q : Nat} {e : Ending} (h : CaseTo w R A c bs q e w') (o : Obj) : CaseTo w R A c bs q e (w'.alloc o) := by
  obtain ⟨E, A', c', xs, rfl, ho, hl, ⟨q', hq, hr⟩, hc⟩ := h
  exact ⟨E, A', c', xs, rfl, (ho.alloc (Nat.le_refl _) o).more (Nat.le_refl _) (by rw [hsz]; omega), hl, ⟨q', hq, hr.alloc o⟩, hc.trans (Chg.alloc _ _)⟩
theorem two_at (p : Int) (h0 : 0 ≤ p) (h1 : p < 2) : ∃ u : Int, (#[Value.int .i64 (-1), Value.int .i64 13] : Array Value)[p.toNat]? = some (.int .i64 u) ∧ ∀ h : p.toNat < [Value.int .i64 (-1), Value.int .i64 13].length, [Value.int .i64 (-1), Value.int .i64 13][p.toNat]'h = .int .i64 u := by
  rcases (show p = 0 ∨ p = 1 from by omega) with rfl | rfl
  · exact ⟨-1, rfl, fun _ => rfl⟩
  · exact ⟨13, rfl, fun _ => rfl⟩

end Go.Proofs.Ytpoafafoncgenab
