/-
  A case is drawn: whatever is read, it has at most five claims, in new memory, and only the reader is written.
  A case is drawn: as XDraw3 says it, and its numbers are small.
  The drawn cases: at most five claims, in new memory; nothing that was there is written. No condition.
  An order is drawn: so many numbers below so many, in new memory; only the reader is written.
  Awards are drawn: at most five small numbers, in new memory; only the reader is written. No condition but a small case.
  A drawn case and drawn awards: at most five claims and five small numbers, in new memory; nothing that was there is written. No condition.
-/
import Derived.Test.YtdbohnaohinieaaGA
import Derived.Deep.RegionLaw
import Derived.Deep.RegionHeld3
import Derived.Deep.AppendLies
import Derived.Test.YtdbohnaohinieaaGC
import Derived.BigQuiet
namespace Go.Proofs.Ytdbohnaohinieaa
open Go.RowKit

theorem Rd.of_block {w w' : World} {R : Nat} {A : Option Addr} {c : Nat} {bs : List Int} {q : Nat} (h : Rd w R A c bs q) (e : ∀ k, k ≤ R → w'.heap[k]? = w.heap[k]?) (hs : w.heap.size ≤ w'.heap.size) : Rd w' R A c bs q := by
  refine ⟨(World.cell?_of_block (w := w) (a := ⟨R, 0, none⟩) (e R (Nat.le_refl _))).trans h.s, (World.cell?_of_block (w := w) (a := ⟨R, 1, none⟩) (e R (Nat.le_refl _))).trans h.p, (World.frozen?_of_block (w := w) (a := ⟨R, 1, none⟩) (e R (Nat.le_refl _))).trans h.f, ?_, Nat.lt_of_lt_of_le h.lt hs⟩
  intro hn
  obtain ⟨b, o, e1, h1, hc, hr⟩ := h.b hn
  exact ⟨b, o, e1, h1, fun j hj => (World.cell?_of_block (w := w) (a := ⟨b, o + j, none⟩) (e b (by omega))).trans (hc j hj), hr⟩
theorem Rd.below {B : Nat} {w w' : World} {R : Nat} {A : Option Addr} {c : Nat} {bs : List Int} {q : Nat} (h : Rd w R A c bs q) (k : Below B w w') (hB : R < B) : Rd w' R A c bs q := h.of_block (fun i hi => k.block i (by omega)) k.size
theorem Rd.chg {lo hi : Nat} {w w' : World} {R : Nat} {A : Option Addr} {c : Nat} {bs : List Int} {q : Nat} (h : Rd w R A c bs q) (k : Chg lo hi w w') (hB : R < lo) : Rd w' R A c bs q := h.of_block (fun i hi => k.block i (by have := h.lt; omega) (by omega)) k.size
theorem Bytes.chg {lo hi H : Nat} {w w' : World} {A : Option Addr} {bs : List Int} (h : Bytes w H A bs) (k : Chg lo hi w w') (hs : H ≤ w.heap.size) (hd : H ≤ lo) : Bytes w' H A bs := fun hn => by
  obtain ⟨b, o, e, h1, hc, hr⟩ := h hn
  exact ⟨b, o, e, h1, fun j hj => (k.cell (by show b < _; omega) (by show ¬ (lo ≤ b ∧ b < hi); omega)).trans (hc j hj), hr⟩
theorem Rd.alloc {w : World} {R : Nat} {A : Option Addr} {c : Nat} {bs : List Int} {q : Nat} (h : Rd w R A c bs q) (o : Obj) : Rd (w.alloc o) R A c bs q := h.of_block (fun i hi => Below.heap_alloc w o i (by have := h.lt; omega)) (by simp)

theorem Rd.drew {w : World} {R : Nat} {A : Option Addr} {c : Nat} {bs : List Int} {q : Nat} (h : Rd w R A c bs q) : Rd w.drew R A c bs q := ⟨h.s, h.p, h.f, h.b, h.lt⟩
theorem Chg.of_drew {lo hi : Nat} {w w' : World} (h : Chg lo hi w.drew w') : Chg lo hi w w' := ⟨h.os, h.tape, h.output, h.size, h.block⟩

theorem Chg.one {R : Nat} {w w' : World} (h : Chg R (R + 1) w w') : w.grownBy w' (some R) :=
  ⟨h.os, h.tape, h.output, h.size, fun k hk hne => h.block k hk (fun ⟨h1, h2⟩ => hne (by rw [show k = R by omega]))⟩
theorem own_kept {R B : Nat} {w w' : World} {e : TypeId} {v : Value} {n : Nat} {xs : List Value} (h : w.ownsRow B e 1 v n xs) (hc : Chg R (R + 1) w w') (hR : R < B) : w'.ownsRow B e 1 v n xs :=
  h.kept hc.one (.inr (fun e1 => by have := (h.lt R e1).1; omega))
theorem drawn_eq (p1 p2 : Int) (h1 : 0 ≤ p1) (h2 : p1 < 7) (h3 : 0 ≤ p2) (h4 : p2 < 3) : IntKind.i64.wrap (p2.tdiv 2) = p2 / 2 ∧ IntKind.i64.wrap (p2 / 2 * 6) = p2 / 2 * 6 ∧ IntKind.i64.wrap (p1 + p2 / 2 * 6) = p1 + p2 / 2 * 6 ∧ 0 ≤ p1 + p2 / 2 * 6 ∧ p1 + p2 / 2 * 6 ≤ 12 :=
  ⟨by rw [Int.tdiv_eq_ediv_of_nonneg h3]; exact IntWalk.i64_in _ (by omega), IntWalk.i64_in _ (by omega), IntWalk.i64_in _ (by omega), by omega, by omega⟩

/-- What the drawing of a case leaves. -/
def CaseTo (w : World) (R : Nat) (A : Option Addr) (c : Nat) (bs : List Int) (q : Nat) (e : Ending) (w' : World) : Prop :=
  ∃ E A' c', ∃ xs : List Int, e = .returned (.agg #[.int .i64 E, .slice A' xs.length c']) ∧ Own w' w.heap.size w'.heap.size A' xs ∧ xs.length ≤ 5 ∧ (∃ q', q' ≤ q + 20 ∧ Rd w' R A c bs q') ∧ Chg R (R + 1) w w'

/-- What holds between the claims that are drawn. -/
def Mid (w : World) (R : Nat) (A : Option Addr) (c : Nat) (bs : List Int) (q : Nat) (j : Nat) (wr : World) : Prop :=
  ∃ v, ∃ xs : List Int, ∃ q', 1 ≤ xs.length + j ∧ xs.length + j ≤ 4 ∧ q' ≤ q + 1 + 2 * xs.length ∧ (∀ x ∈ xs, 0 ≤ x ∧ x ≤ 12) ∧ Box wr w.heap.size (.int .i64 0) (.slice none 0 0) ∧ Box wr (w.heap.size + 1) (.int .i64 0) v ∧
    wr.ownsRow (w.heap.size + 2) 3 1 v xs.length (ints xs) ∧ Rd wr R A c bs q' ∧ Chg R (R + 1) w wr ∧ w.heap.size + 2 ≤ wr.heap.size

theorem mid_step {w : World} {R : Nat} {A : Option Addr} {c : Nat} {bs : List Int} {q j q' : Nat} {v : Value} {xs : List Int} {wr w3 w4 : World} {x : Int} {g cp : Nat} (hR : R < w.heap.size) (hj : 0 < j) (hj1 : 1 ≤ xs.length + j) (hj2 : xs.length + j ≤ 4)
    (hq' : q' ≤ q + 1 + 2 * xs.length) (hx12 : ∀ x ∈ xs, 0 ≤ x ∧ x ≤ 12) (bx0 : Box wr w.heap.size (.int .i64 0) (.slice none 0 0)) (bx14 : Box w4 (w.heap.size + 1) (.int .i64 0) v)
    (own3 : (w3.alloc (.cells #[.int .i64 x] 3)).ownsRow (w.heap.size + 2) 3 1 v xs.length (ints xs)) (hch : Chg R (R + 1) w wr) (hsz' : w.heap.size + 2 ≤ wr.heap.size) (h3 : Chg R (R + 1) wr w3) (rd3 : Rd w3 R A c bs (q' + 2)) (hx : 0 ≤ x ∧ x ≤ 12)
    (hown4 : w4.ownsRow (w.heap.size + 2) 3 1 (.slice (some ⟨g, 0, none⟩) (xs.length + 1) cp) (xs.length + 1) (ints xs ++ [.int .i64 x])) (hgrow4 : (w3.alloc (.cells #[.int .i64 x] 3)).grownBy w4 v.ownBlock) :
    Mid w R A c bs q (j - 1) (w4.setCell ⟨w.heap.size + 1, 1, none⟩ (.slice (some ⟨g, 0, none⟩) (xs.length + 1) cp)) := by
  have hne : ∀ k, k < w.heap.size + 2 → some k ≠ v.ownBlock := fun k hk e => by have := (own3.lt k e.symm).1; omega
  have z3 := h3.size
  have z4 := hgrow4.size
  rw [hsz] at z4
  have hb : ∀ k, k < w3.heap.size → k < w.heap.size + 2 → w4.heap[k]? = w3.heap[k]? := fun k h1 h2 => (hgrow4.block k (by rw [hsz]; omega) (hne k h2)).trans (Below.heap_alloc w3 _ k h1)
  have b0 := bx0.chg h3 (by omega)
  have b04 : Box w4 w.heap.size (.int .i64 0) (.slice none 0 0) := b0.of_block (hb _ b0.lt (by omega)) (by omega)
  have r4 : Rd w4 R A c bs (q' + 2) := rd3.of_block (fun k hk => hb k (by have := rd3.lt; omega) (by omega)) (by omega)
  refine ⟨_, xs ++ [x], q' + 2, by simp; omega, by simp; omega, by simp; omega, ?_, b04.far (by simp) _, bx14.set1 _, ?_, r4.of_block (fun k hk => Below.heap_setCell _ _ _ _ (by show k ≠ w.heap.size + 1; omega)) (by simp [World.setCell]), ?_, by simp [World.setCell]; omega⟩
  · intro y hy
    rcases List.mem_append.1 hy with hy | hy
    · exact hx12 y hy
    · simp at hy; subst hy; exact hx
  · have e1 : ints (xs ++ [x]) = ints xs ++ [.int .i64 x] := by simp [ints]
    have e2 : (xs ++ [x]).length = xs.length + 1 := by simp
    rw [e1, e2]
    exact ownsRow_setCell_below hown4 (by show w.heap.size + 1 < _; omega) _
  · have hc := hch.trans h3
    refine ⟨?_, ?_, ?_, ?_, fun k hk hn => ?_⟩
    · exact hgrow4.os.trans hc.os
    · exact hgrow4.tape.trans hc.tape
    · exact hgrow4.output.trans hc.output
    · have := hc.size; simp [World.setCell]; omega
    · rw [Below.heap_setCell _ _ _ _ (by show k ≠ w.heap.size + 1; omega), hb k (by have := hc.size; omega) (by omega)]
      exact hc.block k hk hn

theorem Chg.set_new {lo hi : Nat} {w w2 : World} (h : Chg lo hi w w2) {p : Addr} (hp : w.heap.size ≤ p.block) (u : Value) : Chg lo hi w (w2.setCell p u) :=
  ⟨h.os, h.tape, h.output, by have := h.size; simpa [World.setCell] using this, fun k hk hn => (Below.heap_setCell _ _ _ _ (by omega)).trans (h.block k hk hn)⟩
theorem Rd.set_new {w : World} {R : Nat} {A : Option Addr} {c : Nat} {bs : List Int} {q : Nat} (h : Rd w R A c bs q) {p : Addr} (hp : R < p.block) (u : Value) : Rd (w.setCell p u) R A c bs q :=
  h.of_block (fun k hk => Below.heap_setCell _ _ _ _ (by omega)) (by simp [World.setCell])
theorem own_new (w : World) (t : TypeId) (l : List Int) : Own (w.alloc (.cells (ints l).toArray t)) w.heap.size (w.heap.size + 1) (some ⟨w.heap.size, 0, none⟩) l := fun _ => by
  have hh := heap_alloc_new w (.cells (ints l).toArray t)
  refine ⟨w.heap.size, 0, rfl, Nat.le_refl _, Nat.lt_succ_self _, fun j hj => ?_, fun j hj => ?_⟩
  · rw [cell_of_row _ _ _ (ints l).toArray t (0, 0) hh, Nat.zero_add]
    have e := ints_at l j hj
    simpa using e
  · exact frozen_of_row _ _ _ _ _ hh
theorem case_new {w : World} {R : Nat} {A : Option Addr} {c : Nat} {bs : List Int} {q q' : Nat} {wf : World} {E : Int} (l : List Int) (hR : R < w.heap.size) (hlen : l.length ≤ 5) (hs : w.heap.size + 2 ≤ wf.heap.size)
    (rd : Rd wf R A c bs q') (hq' : q' ≤ q + 20) (hch : Chg R (R + 1) w wf) :
    CaseTo w R A c bs q (.returned (.agg #[.int .i64 E, .slice (some ⟨wf.heap.size, 0, none⟩) l.length l.length])) (((wf.setCell ⟨w.heap.size, 0, none⟩ (.int .i64 E)).setCell ⟨w.heap.size, 1, none⟩ (.slice (some ⟨wf.heap.size, 0, none⟩) l.length l.length)).alloc (.cells (ints l).toArray 3)) := by
  have hn := own_new ((wf.setCell ⟨w.heap.size, 0, none⟩ (.int .i64 E)).setCell ⟨w.heap.size, 1, none⟩ (.slice (some ⟨wf.heap.size, 0, none⟩) l.length l.length)) 3 l
  have e : ((wf.setCell ⟨w.heap.size, 0, none⟩ (.int .i64 E)).setCell ⟨w.heap.size, 1, none⟩ (.slice (some ⟨wf.heap.size, 0, none⟩) l.length l.length)).heap.size = wf.heap.size := by simp [World.setCell]
  rw [e] at hn
  refine ⟨E, some ⟨wf.heap.size, 0, none⟩, l.length, l, rfl, hn.more (by omega) (by rw [hsz, e]; exact Nat.le_refl _), hlen, ⟨q', hq', ?_⟩, ?_⟩
  · exact ((rd.set_new (p := ⟨w.heap.size, 0, none⟩) hR _).set_new (p := ⟨w.heap.size, 1, none⟩) hR _).alloc _
  · exact ((hch.set_new (p := ⟨w.heap.size, 0, none⟩) (Nat.le_refl _) _).set_new (p := ⟨w.heap.size, 1, none⟩) (Nat.le_refl _) _).trans (Chg.alloc _ _)
theorem case_end {w : World} {R : Nat} {A : Option Addr} {c : Nat} {bs : List Int} {q q' : Nat} {wf : World} {A' : Option Addr} {c' : Nat} {xs : List Int} {E : Int} (hR : R < w.heap.size) (own : Own wf (w.heap.size + 2) wf.heap.size A' xs) (hlen : xs.length ≤ 5)
    (rd : Rd wf R A c bs q') (hq' : q' ≤ q + 20) (hch : Chg R (R + 1) w wf) :
    CaseTo w R A c bs q (.returned (.agg #[.int .i64 E, .slice A' xs.length c'])) ((wf.setCell ⟨w.heap.size, 0, none⟩ (.int .i64 E)).setCell ⟨w.heap.size, 1, none⟩ (.slice A' xs.length c')) := by
  refine ⟨E, A', c', xs, rfl, ((own.set_out (.inl (by simp)) _).set_out (.inl (by simp)) _).more (by omega) (by simp [World.setCell]), hlen, ⟨q', hq', ?_⟩, ?_⟩
  · exact rd.of_block (fun k hk => (Below.heap_setCell _ _ _ _ (by show k ≠ w.heap.size; omega)).trans (Below.heap_setCell _ _ _ _ (by show k ≠ w.heap.size; omega))) (by simp [World.setCell])
  · exact ⟨hch.os, hch.tape, hch.output, by have := hch.size; simp [World.setCell]; omega, fun k hk hn => by
      rw [Below.heap_setCell _ _ _ _ (by show k ≠ w.heap.size; omega), Below.heap_setCell _ _ _ _ (by show k ≠ w.heap.size; omega)]
      exact hch.block k hk hn⟩

theorem CaseTo.alloc {w w' : World} {R : Nat} {A : Option Addr} {c : Nat} {bs : List Int} {q : Nat} {e : Ending} (h : CaseTo w R A c bs q e w') (o : Obj) : CaseTo w R A c bs q e (w'.alloc o) := by
  obtain ⟨E, A', c', xs, rfl, ho, hl, ⟨q', hq, hr⟩, hc⟩ := h
  exact ⟨E, A', c', xs, rfl, (ho.alloc (Nat.le_refl _) o).more (Nat.le_refl _) (by rw [hsz]; omega), hl, ⟨q', hq, hr.alloc o⟩, hc.trans (Chg.alloc _ _)⟩
theorem two_at (p : Int) (h0 : 0 ≤ p) (h1 : p < 2) : ∃ u : Int, (#[Value.int .i64 (-1), Value.int .i64 13] : Array Value)[p.toNat]? = some (.int .i64 u) ∧ ∀ h : p.toNat < [Value.int .i64 (-1), Value.int .i64 13].length, [Value.int .i64 (-1), Value.int .i64 13][p.toNat]'h = .int .i64 u := by
  rcases (show p = 0 ∨ p = 1 from by omega) with rfl | rfl
  · exact ⟨-1, rfl, fun _ => rfl⟩
  · exact ⟨13, rfl, fun _ => rfl⟩

end Go.Proofs.Ytdbohnaohinieaa
namespace Go.Proofs.Ytdbohnaohinieaa
open Go.RowKit

def Sm (E : Int) (xs : List Int) : Prop := 0 ≤ E ∧ E ≤ 60 ∧ ∀ x ∈ xs, -1 ≤ x ∧ x ≤ 13
theorem sm_of {E : Int} {xs : List Int} (h : ∀ x ∈ xs, 0 ≤ x ∧ x ≤ 12) (hs : xs.sum ≤ 48) (h0 : 0 ≤ E) (h1 : E ≤ xs.sum + 1) : Sm E xs := ⟨h0, by omega, fun x hx => by have := h x hx; omega⟩
theorem sm_nil : Sm 0 [] := ⟨by omega, by omega, fun x hx => by cases hx⟩
theorem sm_five : Sm 2 [1, 1, 1, 1, 1] := ⟨by omega, by omega, fun x hx => by simp at hx; omega⟩
theorem sm_set {E u : Int} {xs : List Int} {i : Nat} (h : Sm E xs) (hu : -1 ≤ u ∧ u ≤ 13) : Sm E (xs.set i u) := ⟨h.1, h.2.1, fun x hx => by
  rcases List.mem_or_eq_of_mem_set hx with hx | hx
  · exact h.2.2 x hx
  · subst hx; exact hu⟩
def CaseToB (w : World) (R : Nat) (A : Option Addr) (c : Nat) (bs : List Int) (q : Nat) (e : Ending) (w' : World) : Prop :=
  ∃ E A' c', ∃ xs : List Int, e = .returned (.agg #[.int .i64 E, .slice A' xs.length c']) ∧ Own w' w.heap.size w'.heap.size A' xs ∧ xs.length ≤ 5 ∧ (∃ q', q' ≤ q + 20 ∧ Rd w' R A c bs q') ∧ Chg R (R + 1) w w' ∧ Sm E xs
theorem case_newB {w : World} {R : Nat} {A : Option Addr} {c : Nat} {bs : List Int} {q q' : Nat} {wf : World} {E : Int} (l : List Int) (hR : R < w.heap.size) (hlen : l.length ≤ 5) (hs : w.heap.size + 2 ≤ wf.heap.size)
    (rd : Rd wf R A c bs q') (hq' : q' ≤ q + 20) (hch : Chg R (R + 1) w wf) (hsm : Sm E l) :
    CaseToB w R A c bs q (.returned (.agg #[.int .i64 E, .slice (some ⟨wf.heap.size, 0, none⟩) l.length l.length])) (((wf.setCell ⟨w.heap.size, 0, none⟩ (.int .i64 E)).setCell ⟨w.heap.size, 1, none⟩ (.slice (some ⟨wf.heap.size, 0, none⟩) l.length l.length)).alloc (.cells (ints l).toArray 3)) := by
  have hn := own_new ((wf.setCell ⟨w.heap.size, 0, none⟩ (.int .i64 E)).setCell ⟨w.heap.size, 1, none⟩ (.slice (some ⟨wf.heap.size, 0, none⟩) l.length l.length)) 3 l
  have e : ((wf.setCell ⟨w.heap.size, 0, none⟩ (.int .i64 E)).setCell ⟨w.heap.size, 1, none⟩ (.slice (some ⟨wf.heap.size, 0, none⟩) l.length l.length)).heap.size = wf.heap.size := by simp [World.setCell]
  rw [e] at hn
  refine ⟨E, some ⟨wf.heap.size, 0, none⟩, l.length, l, rfl, hn.more (by omega) (by rw [hsz, e]; exact Nat.le_refl _), hlen, ⟨q', hq', ?_⟩, ?_, hsm⟩
  · exact ((rd.set_new (p := ⟨w.heap.size, 0, none⟩) hR _).set_new (p := ⟨w.heap.size, 1, none⟩) hR _).alloc _
  · exact ((hch.set_new (p := ⟨w.heap.size, 0, none⟩) (Nat.le_refl _) _).set_new (p := ⟨w.heap.size, 1, none⟩) (Nat.le_refl _) _).trans (Chg.alloc _ _)
theorem case_endB {w : World} {R : Nat} {A : Option Addr} {c : Nat} {bs : List Int} {q q' : Nat} {wf : World} {A' : Option Addr} {c' : Nat} {xs : List Int} {E : Int} (hR : R < w.heap.size) (own : Own wf (w.heap.size + 2) wf.heap.size A' xs) (hlen : xs.length ≤ 5)
    (rd : Rd wf R A c bs q') (hq' : q' ≤ q + 20) (hch : Chg R (R + 1) w wf) (hsm : Sm E xs) :
    CaseToB w R A c bs q (.returned (.agg #[.int .i64 E, .slice A' xs.length c'])) ((wf.setCell ⟨w.heap.size, 0, none⟩ (.int .i64 E)).setCell ⟨w.heap.size, 1, none⟩ (.slice A' xs.length c')) := by
  refine ⟨E, A', c', xs, rfl, ((own.set_out (.inl (by simp)) _).set_out (.inl (by simp)) _).more (by omega) (by simp [World.setCell]), hlen, ⟨q', hq', ?_⟩, ?_, hsm⟩
  · exact rd.of_block (fun k hk => (Below.heap_setCell _ _ _ _ (by show k ≠ w.heap.size; omega)).trans (Below.heap_setCell _ _ _ _ (by show k ≠ w.heap.size; omega))) (by simp [World.setCell])
  · exact ⟨hch.os, hch.tape, hch.output, by have := hch.size; simp [World.setCell]; omega, fun k hk hn => by
      rw [Below.heap_setCell _ _ _ _ (by show k ≠ w.heap.size; omega), Below.heap_setCell _ _ _ _ (by show k ≠ w.heap.size; omega)]
      exact hch.block k hk hn⟩

theorem CaseToB.alloc {w w' : World} {R : Nat} {A : Option Addr} {c : Nat} {bs : List Int} {q : Nat} {e : Ending} (h : CaseToB w R A c bs q e w') (o : Obj) : CaseToB w R A c bs q e (w'.alloc o) := by
  obtain ⟨E, A', c', xs, rfl, ho, hl, ⟨q', hq, hr⟩, hc, hsm⟩ := h
  exact ⟨E, A', c', xs, rfl, (ho.alloc (Nat.le_refl _) o).more (Nat.le_refl _) (by rw [hsz]; omega), hl, ⟨q', hq, hr.alloc o⟩, hc.trans (Chg.alloc _ _), hsm⟩
theorem two_atB (p : Int) (h0 : 0 ≤ p) (h1 : p < 2) : ∃ u : Int, (-1 ≤ u ∧ u ≤ 13) ∧ (#[Value.int .i64 (-1), Value.int .i64 13] : Array Value)[p.toNat]? = some (.int .i64 u) ∧ ∀ h : p.toNat < [Value.int .i64 (-1), Value.int .i64 13].length, [Value.int .i64 (-1), Value.int .i64 13][p.toNat]'h = .int .i64 u := by
  rcases (show p = 0 ∨ p = 1 from by omega) with rfl | rfl
  · exact ⟨-1, by omega, rfl, fun _ => rfl⟩
  · exact ⟨13, by omega, rfl, fun _ => rfl⟩

end Go.Proofs.Ytdbohnaohinieaa
namespace Go.Proofs.Ytdbohnaohinieaa
open Go.RowKit

/-- What a function leaves that draws a case. -/
def DrawnCase (w : World) (e : Ending) (w' : World) : Prop :=
  ∃ E A' c', ∃ xs : List Int, xs.length ≤ 5 ∧ e = .returned (.agg #[.int .i64 E, .slice A' xs.length c']) ∧ Own w' w.heap.size w'.heap.size A' xs ∧ Below w.heap.size w w'

end Go.Proofs.Ytdbohnaohinieaa
namespace Go.Proofs.Ytdbohnaohinieaa
open Go.RowKit

theorem own_some {w : World} {B : Nat} {e : TypeId} {v : Value} {n : Nat} {xs : List Value} (h : w.ownsRow B e 1 v n xs) (hv : ¬ v = .slice none 0 0) : ∃ g cap, v = .slice (some ⟨g, 0, none⟩) n cap ∧ B ≤ g ∧ g < w.heap.size ∧ n ≤ cap := by
  rcases h.2 with ⟨h1, _⟩ | ⟨g, cap, cur, hv', hb, hg, hnc, _⟩
  · exact absurd h1 hv
  · refine ⟨g, cap, hv', hb, ?_, hnc⟩
    rw [hv'] at h
    exact (h.lt g rfl).2
theorem own_lower {w : World} {B B' : Nat} {e : TypeId} {v : Value} {n : Nat} {xs : List Value} (h : w.ownsRow B e 1 v n xs) (hB : B' ≤ B) : w.ownsRow B' e 1 v n xs := by
  refine ⟨h.1, ?_⟩
  rcases h.2 with h1 | ⟨g, cap, cur, hv', hb, r⟩
  · exact .inl h1
  · exact .inr ⟨g, cap, cur, hv', Nat.le_trans hB hb, r⟩
/-- The numbers of an owned row, read from a place on. -/
theorem own_news {w : World} {B : Nat} {e : TypeId} {g n cap : Nat} {xs : List Int} (h : w.ownsRow B e 1 (.slice (some ⟨g, 0, none⟩) n cap) n (ints xs)) (a : Nat) (ys : List Int) (hy : ∀ j, j < ys.length → a + j < n ∧ xs.getD (a + j) 0 = ys.getD j 0) :
    ∀ j u, (ints ys)[j]? = some u → w.cell? ((⟨g, a, none⟩ : Addr).add j) = some u := fun j u hu => by
  have hj : j < ys.length := by
    have := (List.getElem?_eq_some_iff.1 hu).1
    rwa [ints_length] at this
  obtain ⟨h1, h2⟩ := hy j hj
  have hl : n = xs.length := by have := h.1; rw [ints_length] at this; omega
  rw [ints_at ys j hj] at hu
  rw [addr_add, h.cellAt (a + j) (by omega), ints_at xs (a + j) (by omega), h2]
  exact hu

/-- What an append to another row leaves of the row at g, and of the reader. -/
theorem append_keep {w w' : World} {R g k cap B : Nat} {A : Option Addr} {c : Nat} {bs : List Int} {q : Nat} {os : List Int} {o : Obj} {n' c' gv : Nat} (own : w.ownsRow B 3 1 (.slice (some ⟨g, 0, none⟩) k cap) k (ints os)) (rd : Rd w R A c bs q) (hR : R < gv)
    (hgr : (w.alloc o).grownBy w' (Value.ownBlock (.slice (some ⟨gv, 0, none⟩) n' c'))) (hne : g ≠ gv) :
    w'.ownsRow B 3 1 (.slice (some ⟨g, 0, none⟩) k cap) k (ints os) ∧ Rd w' R A c bs q ∧ w.heap.size + 1 ≤ w'.heap.size := by
  have z := hgr.size
  rw [hsz] at z
  exact ⟨(own.alloc o).kept hgr (.inr (fun e => hne (Option.some.inj e))), (rd.alloc o).of_block (fun i hi => hgr.block i (by rw [hsz]; have := rd.lt; omega) (fun e => by have e' : i = gv := Option.some.inj e; omega)) (by rw [hsz]; exact z), z⟩

/-- What the drawing of an order leaves. -/
def OrderTo (w : World) (R : Nat) (A : Option Addr) (c : Nat) (bs : List Int) (q many : Nat) (n : Int) (e : Ending) (w' : World) : Prop :=
  ∃ A' c', ∃ os : List Int, e = .returned (.slice A' os.length c') ∧ Own w' w.heap.size w'.heap.size A' os ∧ os.length ≤ many + 1 ∧ (n = 0 → os.length = many ∧ ∀ x ∈ os, 0 ≤ x ∧ x < many) ∧ (∃ q', q' ≤ q + many + 1 ∧ Rd w' R A c bs q') ∧ Chg R (R + 1) w w'

/-- What holds between the numbers that are drawn. -/
def OMid (w : World) (R : Nat) (A : Option Addr) (c : Nat) (bs : List Int) (q k : Nat) (v : Value) (wr : World) : Prop :=
  ∃ g cap, ∃ os : List Int, v = .slice (some ⟨g, 0, none⟩) k cap ∧ os.length = k ∧ (∀ x ∈ os, 0 ≤ x ∧ x < k) ∧ k ≤ cap ∧ wr.ownsRow w.heap.size 3 1 (.slice (some ⟨g, 0, none⟩) k cap) k (ints os) ∧ Rd wr R A c bs (q + k) ∧ Chg R (R + 1) w wr ∧ w.heap.size ≤ wr.heap.size

theorem Chg.grow {w u u' : World} {lo hi gv n' c' : Nat} (h : Chg lo hi w u) (hg : u.grownBy u' (Value.ownBlock (.slice (some ⟨gv, 0, none⟩) n' c'))) (hgv : w.heap.size ≤ gv) : Chg lo hi w u' :=
  ⟨hg.os.trans h.os, hg.tape.trans h.tape, hg.output.trans h.output, Nat.le_trans h.size hg.size, fun k hk hn => (hg.block k (Nat.lt_of_lt_of_le hk h.size) (fun e => by have e' : k = gv := Option.some.inj e; omega)).trans (h.block k hk hn)⟩
theorem Rd.grow {u u' : World} {R : Nat} {A : Option Addr} {c : Nat} {bs : List Int} {q gv n' c' : Nat} (h : Rd u R A c bs q) (hg : u.grownBy u' (Value.ownBlock (.slice (some ⟨gv, 0, none⟩) n' c'))) (hR : R < gv) : Rd u' R A c bs q :=
  h.of_block (fun i hi => hg.block i (by have := h.lt; omega) (fun e => by have e' : i = gv := Option.some.inj e; omega)) hg.size
theorem order_step {w wr w2 w3 w4 w5 : World} {R : Nat} {A : Option Addr} {c : Nat} {bs : List Int} {q k a n5 g1 g2 g3 cap3 n1 c1 n2 c2 : Nat} {os : List Int} {o o' : Obj} (hol : os.length = k) (hos : ∀ x ∈ os, 0 ≤ x ∧ x < (k : Int)) (hak : a ≤ k) (hn5 : n5 = k + 1)
    (hown5 : w5.ownsRow w2.heap.size 3 1 (.slice (some ⟨g3, 0, none⟩) n5 cap3) n5 (ints (os.take a) ++ [.int .i64 (k : Int)] ++ ints (os.drop a))) (hcp3 : n5 ≤ cap3) (rd4 : Rd w4 R A c bs (q + k + 1)) (hch : Chg R (R + 1) w wr) (hch2 : Chg R (R + 1) wr w2) (hRw : R < w.heap.size)
    (hgrow3 : (w2.alloc o).grownBy w3 (Value.ownBlock (.slice (some ⟨w2.heap.size, 0, none⟩) 0 0))) (hgrow4 : (w3.alloc o').grownBy w4 (Value.ownBlock (.slice (some ⟨g1, 0, none⟩) n1 c1))) (hgrow5 : w4.grownBy w5 (Value.ownBlock (.slice (some ⟨g2, 0, none⟩) n2 c2))) (hg1 : w2.heap.size ≤ g1) (hg2 : w2.heap.size ≤ g2) :
    OMid w R A c bs q (k + 1) (.slice (some ⟨g3, 0, none⟩) n5 cap3) w5 := by
  subst hn5
  have z : w.heap.size ≤ w2.heap.size := (hch.trans hch2).size
  refine ⟨g3, cap3, os.take a ++ [(k : Int)] ++ os.drop a, rfl, by simp; omega, ?_, hcp3, ?_, rd4.grow hgrow5 (by omega), ?_, ?_⟩
  · intro x hx
    rcases List.mem_append.1 hx with hx | hx
    · rcases List.mem_append.1 hx with hx | hx
      · have := hos x (List.mem_of_mem_take hx); omega
      · simp at hx; omega
    · have := hos x (List.mem_of_mem_drop hx); omega
  · have e : ints (os.take a ++ [(k : Int)] ++ os.drop a) = ints (os.take a) ++ [.int .i64 (k : Int)] ++ ints (os.drop a) := by simp [ints]
    rw [e]
    exact own_lower hown5 z
  · exact ((((hch.trans hch2).trans (Chg.alloc _ o)).grow hgrow3 z).trans (Chg.alloc _ o')).grow hgrow4 (by omega) |>.grow hgrow5 (by omega)
  · have z3 := hgrow3.size
    have z4 := hgrow4.size
    rw [hsz] at z3 z4
    have z5 := hgrow5.size
    omega
theorem odd_zero (R : Nat) (w : World) :
    Calls Try.prog 45 #[.pointer (some ⟨R, 0, none⟩), .int .i64 0] w (fun e w' => e = .returned (.bool false) ∧ w' = w) := by
  go_enter Try.func45, Try.ntmps45
  go_wp2
  go_ret
  exact ⟨rfl, rfl⟩
theorem drawnOrder_end {w w' : World} {R : Nat} {A : Option Addr} {c : Nat} {bs : List Int} {q many k g cap q' : Nat} {n : Int} {os : List Int} (own : w'.ownsRow w.heap.size 3 1 (.slice (some ⟨g, 0, none⟩) k cap) k (ints os)) (hl : os.length = k) (hk : k ≤ many + 1) (h0 : n = 0 → k = many ∧ ∀ x ∈ os, 0 ≤ x ∧ x < (many : Int)) (hq : q' ≤ q + many + 1) (rd : Rd w' R A c bs q') (hch : Chg R (R + 1) w w') :
    OrderTo w R A c bs q many n (.returned (.slice (some ⟨g, 0, none⟩) k cap)) w' := by
  subst hl
  obtain ⟨A', c', e, _, ho⟩ := own_of_row own
  exact ⟨A', c', os, by rw [e], ho, hk, h0, ⟨q', hq, rd⟩, hch⟩

end Go.Proofs.Ytdbohnaohinieaa
namespace Go.Proofs.Ytdbohnaohinieaa
open Go.RowKit

/-- What the drawing of awards leaves. -/
def AwardsTo (w : World) (R : Nat) (A : Option Addr) (c : Nat) (bs : List Int) (q : Nat) (e : Ending) (w' : World) : Prop :=
  ∃ A' c', ∃ ys : List Int, e = .returned (.slice A' ys.length c') ∧ Own w' w.heap.size w'.heap.size A' ys ∧ ys.length ≤ 5 ∧ (∀ y ∈ ys, -1 ≤ y ∧ y ≤ 1000) ∧ (∃ q', q' ≤ q + 20 ∧ Rd w' R A c bs q') ∧ Chg R (R + 1) w w'

/-- What holds while awards are drawn. -/
structure AMid (w : World) (R : Nat) (A : Option Addr) (c : Nat) (bs : List Int) (E : Int) (A1 : Option Addr) (c1 : Nat) (xs : List Int) (D : Option Addr) (os : List Int) (lo hi S Q : Nat) (ys : List Int) (wr : World) : Prop where
  box : Box wr w.heap.size (.int .i64 E) (.slice A1 xs.length c1)
  kx : Ints wr lo hi A1 xs
  ko : Ints wr (w.heap.size + 2) S D os
  row : wr.ownsRow (w.heap.size + 1) 3 1 (.slice (some ⟨w.heap.size + 1, 0, none⟩) xs.length xs.length) xs.length (ints ys)
  rd : ∃ q', q' ≤ Q ∧ Rd wr R A c bs q'
  ch : Chg R (R + 1) w wr
  sz : S ≤ wr.heap.size
  sm : ∀ y ∈ ys, 0 ≤ y ∧ y ≤ 700
section
variable {w wr w' : World} {R : Nat} {A : Option Addr} {c : Nat} {bs : List Int} {E : Int} {A1 : Option Addr} {c1 : Nat} {xs : List Int} {D : Option Addr} {os : List Int} {lo hi S Q : Nat} {ys : List Int}
theorem AMid.len (h : AMid w R A c bs E A1 c1 xs D os lo hi S Q ys wr) : ys.length = xs.length := by have := h.row.1; rw [ints_length] at this; omega
theorem AMid.more {Q' : Nat} (h : AMid w R A c bs E A1 c1 xs D os lo hi S Q ys wr) (hq : Q ≤ Q') : AMid w R A c bs E A1 c1 xs D os lo hi S Q' ys wr :=
  ⟨h.box, h.kx, h.ko, h.row, by obtain ⟨q, h1, h2⟩ := h.rd; exact ⟨q, by omega, h2⟩, h.ch, h.sz, h.sm⟩
theorem AMid.drewN (h : AMid w R A c bs E A1 c1 xs D os lo hi S Q ys wr) (n : Nat) : AMid w R A c bs E A1 c1 xs D os lo hi S Q ys (wr.drewN n) :=
  ⟨⟨h.box.c0, h.box.c1, h.box.f0, h.box.f1, h.box.lt⟩, h.kx, h.ko, h.row, by obtain ⟨q, h1, h2⟩ := h.rd; exact ⟨q, h1, ⟨h2.s, h2.p, h2.f, h2.b, h2.lt⟩⟩, ⟨h.ch.os, h.ch.tape, h.ch.output, h.ch.size, h.ch.block⟩, h.sz, h.sm⟩
theorem AMid.pick {q' : Nat} (h : AMid w R A c bs E A1 c1 xs D os lo hi S Q ys wr) (hR : R < w.heap.size) (hlo : R + 1 ≤ lo) (hhi : hi ≤ w.heap.size) (hc : Chg R (R + 1) wr w') (rd : Rd w' R A c bs q') (hq : q' ≤ Q + 1) :
    AMid w R A c bs E A1 c1 xs D os lo hi S (Q + 1) ys w' := by
  have hz := h.ch.size
  have hs := h.sz
  exact ⟨h.box.chg hc (by omega), h.kx.chg hc (by omega) (.inr (by omega)), h.ko.chg hc hs (.inr (by omega)), own_kept h.row hc (by omega), ⟨q', hq, rd⟩, h.ch.trans hc, Nat.le_trans hs hc.size, h.sm⟩
theorem AMid.store {p : Nat} (h : AMid w R A c bs E A1 c1 xs D os lo hi S Q ys wr) (hR : R < w.heap.size) (hhi : hi ≤ w.heap.size) (v : Int) (hv : 0 ≤ v ∧ v ≤ 700) :
    AMid w R A c bs E A1 c1 xs D os lo hi S Q (ys.set p v) (wr.setCell ⟨w.heap.size + 1, p, none⟩ (.int .i64 v)) := by
  have hs := h.sz
  refine ⟨h.box.far (by show w.heap.size ≠ w.heap.size + 1; omega) _, h.kx.set_out (.inr (by show hi ≤ w.heap.size + 1; omega)) _, h.ko.set_out (.inl (by show w.heap.size + 1 < _; omega)) _, ?_, ?_, h.ch.set_new (by show w.heap.size ≤ w.heap.size + 1; omega) _, by simp [World.setCell]; exact hs, ?_⟩
  · rw [ints_set]; exact (h.row.stored p (.int .i64 v)).1
  · obtain ⟨q, h1, h2⟩ := h.rd; exact ⟨q, h1, h2.set_new (by show R < w.heap.size + 1; omega) _⟩
  · intro y hy
    rcases List.mem_or_eq_of_mem_set hy with hy | hy
    · exact h.sm y hy
    · rw [hy]; exact hv
end
theorem getD_rg {ys : List Int} {lo hi : Int} (h : ∀ y ∈ ys, lo ≤ y ∧ y ≤ hi) (h0 : lo ≤ 0 ∧ 0 ≤ hi) (p : Nat) : lo ≤ ys.getD p 0 ∧ ys.getD p 0 ≤ hi := by
  by_cases hp : p < ys.length
  · rw [getD_of_lt ys p hp]; exact h _ (List.getElem_mem hp)
  · simp [List.getD, List.getElem?_eq_none (Nat.le_of_not_lt hp)]; exact h0
theorem eighth (r v : Int) (h0 : 0 < r) (h1 : r ≤ 3000) (hv0 : 0 ≤ v) (hv : v < 9) : IntKind.i64.wrap (r * v) = r * v ∧ IntKind.i64.wrap ((r * v).tdiv 8) = r * v / 8 ∧ 0 ≤ r * v / 8 ∧ r * v / 8 ≤ r := by
  rcases (show v = 0 ∨ v = 1 ∨ v = 2 ∨ v = 3 ∨ v = 4 ∨ v = 5 ∨ v = 6 ∨ v = 7 ∨ v = 8 from by omega) with rfl | rfl | rfl | rfl | rfl | rfl | rfl | rfl | rfl <;>
    (refine ⟨IntWalk.i64_in _ (by omega), ?_, by omega, by omega⟩; rw [Int.tdiv_eq_ediv_of_nonneg (by omega)]; exact IntWalk.i64_in _ (by omega))

theorem awards_end {w w' : World} {R : Nat} {A : Option Addr} {c : Nat} {bs : List Int} {q Q : Nat} {E : Int} {A1 : Option Addr} {c1 : Nat} {xs : List Int} {D : Option Addr} {os : List Int} {lo hi S : Nat} {ys : List Int} (h : AMid w R A c bs E A1 c1 xs D os lo hi S Q ys w') (hQ : Q ≤ q + 20) (hx : xs.length ≤ 5) :
    AwardsTo w R A c bs q (.returned (.slice (some ⟨w.heap.size + 1, 0, none⟩) xs.length xs.length)) w' := by
  have hl := h.len
  have hr := h.row
  rw [← hl] at hr
  obtain ⟨A', c', e, _, ho⟩ := own_of_row hr
  injection e with e1 e2 e3
  subst e1
  obtain ⟨q', h1, h2⟩ := h.rd
  exact ⟨some ⟨w.heap.size + 1, 0, none⟩, xs.length, ys, by rw [hl], ho.more (by omega) (Nat.le_refl _), by omega, fun y hy => by have := h.sm y hy; omega, ⟨q', by omega, h2⟩, h.ch⟩
theorem awards_minus {w w' : World} {R : Nat} {A : Option Addr} {c : Nat} {bs : List Int} {q Q : Nat} {E : Int} {A1 : Option Addr} {c1 : Nat} {xs : List Int} {D : Option Addr} {os : List Int} {lo hi S : Nat} {ys : List Int} (h : AMid w R A c bs E A1 c1 xs D os lo hi S Q ys w') (hQ : Q ≤ q + 20) (hx : xs.length ≤ 5) (hR : R < w.heap.size) (v : Int) (hv : -1 ≤ v ∧ v ≤ 1000) :
    AwardsTo w R A c bs q (.returned (.slice (some ⟨w.heap.size + 1, 0, none⟩) xs.length xs.length)) (w'.setCell ⟨w.heap.size + 1, 0, none⟩ (.int .i64 v)) := by
  have hl := h.len
  have hr := (h.row.stored 0 (.int .i64 v)).1
  rw [← ints_set] at hr
  have hl2 : (ys.set 0 v).length = xs.length := by simpa using hl
  rw [← hl2] at hr
  obtain ⟨A', c', e, _, ho⟩ := own_of_row hr
  injection e with e1 e2 e3
  subst e1
  obtain ⟨q', h1, h2⟩ := h.rd
  refine ⟨some ⟨w.heap.size + 1, 0, none⟩, xs.length, ys.set 0 v, by rw [hl2], ho.more (by omega) (Nat.le_refl _), by omega, fun y hy => ?_, ⟨q', by omega, h2.set_new (by show R < w.heap.size + 1; omega) _⟩, h.ch.set_new (by show w.heap.size ≤ w.heap.size + 1; omega) _⟩
  rcases List.mem_or_eq_of_mem_set hy with hy | hy
  · have := h.sm y hy; omega
  · rw [hy]; exact hv
theorem awards_rest {w w' : World} {R : Nat} {A : Option Addr} {c : Nat} {bs : List Int} {q Q m c2 : Nat} {E : Int} {A1 : Option Addr} {c1 : Nat} {xs : List Int} {D : Option Addr} {os : List Int} {lo hi S : Nat} {ys : List Int} {o2 : Nat} (h : AMid w R A c bs E A1 c1 xs D os lo hi S Q ys w') (hQ : Q ≤ q + 20) (hx : xs.length ≤ 5) (hm : m + 1 = xs.length) (ho : m = 0 ∨ o2 = 1) :
    AwardsTo w R A c bs q (.returned (.slice (some ⟨w.heap.size + 1, o2, none⟩) m c2)) w' := by
  have hl := h.len
  have hlt := (h.row.lt _ rfl).2
  obtain ⟨q', h1, h2⟩ := h.rd
  have hd : (ys.drop 1).length = m := by rw [List.length_drop]; omega
  refine ⟨some ⟨w.heap.size + 1, o2, none⟩, c2, ys.drop 1, by rw [hd], fun h0 => ?_, by omega, fun y hy => by have := h.sm y (List.mem_of_mem_drop hy); omega, ⟨q', by omega, h2⟩, h.ch⟩
  rw [hd] at h0
  have ho2 : o2 = 1 := by omega
  subst ho2
  refine ⟨w.heap.size + 1, 1, rfl, by omega, hlt, fun j hj => ?_, fun j hj => h.row.frozenAt (1 + j)⟩
  rw [hd] at hj
  rw [h.row.cellAt (1 + j) (by omega), ints_at ys (1 + j) (by omega)]
  simp [List.getD, Nat.add_comm]

end Go.Proofs.Ytdbohnaohinieaa
namespace Go.Proofs.Ytdbohnaohinieaa
open Go.RowKit

def DrawnAwards (w : World) (e : Ending) (w' : World) : Prop :=
  ∃ E A1 c1 A2 c2, ∃ xs ys : List Int, xs.length ≤ 5 ∧ ys.length ≤ 5 ∧ (∀ y ∈ ys, -1 ≤ y ∧ y ≤ 1000) ∧ e = .returned (.tuple #[.agg #[.int .i64 E, .slice A1 xs.length c1], .slice A2 ys.length c2]) ∧ Own w' w.heap.size w'.heap.size A1 xs ∧ Own w' w.heap.size w'.heap.size A2 ys ∧ Below w.heap.size w w'

end Go.Proofs.Ytdbohnaohinieaa
