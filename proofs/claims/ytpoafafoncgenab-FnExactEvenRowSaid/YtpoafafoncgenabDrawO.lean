/-
  An order is drawn: so many numbers below so many, in new memory; only the reader is written.
-/
import Derived.Test.YtpoafafoncgenabDraw3
namespace Go.Proofs.Ytpoafafoncgenab
open Go.RowKit

theorem own_some {w : World} {B : Nat} {e : TypeId} {v : Value} {n : Nat} {xs : List Value} (h : w.ownsRow B e 1 v n xs) (hv : ¬ v = .slice none 0 0) : ∃ g cap, v = .slice (some ⟨g, 0, none⟩) n cap ∧ B ≤ g ∧ g < w.heap.size ∧ n ≤ cap := by
  rcases h.2 with ⟨h1, _⟩ | ⟨g, cap, cur, hv', hb, hg, hnc, _⟩
  · exact absurd h1 hv
  · refine ⟨g, cap, hv', hb, ?_, hnc⟩
    rw [hv'] at h
    exact (h.lt g rfl).2
theorem own_lower {w : World} {B B' : Nat} {e : TypeId} {v : Value} {n : Nat} {xs : List Value} (h : w.ownsRow B e 1 v n xs) (hB : B' ≤ B) : w.ownsRow B' e 1 v n xs := by
  refine ⟨h.1, ?_⟩
  rcases h.2 with h1 | ⟨g, cap, cur, hv', hb, r⟩
  · exact .inl h1
  · exact .inr ⟨g, cap, cur, hv', Nat.le_trans hB hb, r⟩
/-- The numbers of an owned row, read from a place on. -/
theorem own_news {w : World} {B : Nat} {e : TypeId} {g n cap : Nat} {xs : List Int} (h : w.ownsRow B e 1 (.slice (some ⟨g, 0, none⟩) n cap) n (ints xs)) (a : Nat) (ys : List Int) (hy : ∀ j, j < ys.length → a + j < n ∧ xs.getD (a + j) 0 = ys.getD j 0) :
    ∀ j u, (ints ys)[j]? = some u → w.cell? ((⟨g, a, none⟩ : Addr).add j) = some u := fun j u hu => by
  have hj : j < ys.length := by
    have := (List.getElem?_eq_some_iff.1 hu).1
    rwa [ints_length] at this
  obtain ⟨h1, h2⟩ := hy j hj
  have hl : n = xs.length := by have := h.1; rw [ints_length] at this; omega
  rw [ints_at ys j hj] at hu
  rw [addr_add, h.cellAt (a + j) (by omega), ints_at xs (a + j) (by omega), h2]
  exact hu

/-- What an append to another row leaves of the row at g, and of the reader. -/
theorem append_keep {w w' : World} {R g k cap B : Nat} {A : Option Addr} {c : Nat} {bs : List Int} {q : Nat} {os : List Int} {o : Obj} {n' c' gv : Nat} (own : w.ownsRow B 3 1 (.slice (some ⟨g, 0, none⟩) k cap) k (ints os)) (rd : Rd w R A c bs q) (hR : R < gv)
    (hgr : (w.alloc o).grownBy w' (Value.ownBlock (.slice (some ⟨gv, 0, none⟩) n' c'))) (hne : g ≠ gv) :
    w'.ownsRow B 3 1 (.slice (some ⟨g, 0, none⟩) k cap) k (ints os) ∧ Rd w' R A c bs q ∧ w.heap.size + 1 ≤ w'.heap.size := by
  have z := hgr.size
  rw [hsz] at z
  exact ⟨(own.alloc o).kept hgr (.inr (fun e => hne (Option.some.inj e))), (rd.alloc o).of_block (fun i hi => hgr.block i (by rw [hsz]; have := rd.lt; omega) (fun e => by have e' : i = gv := Option.some.inj e; omega)) (by rw [hsz]; exact z), z⟩

/-- What the drawing of an order leaves. -/
def OrderTo (w : World) (R : Nat) (A : Option Addr) (c : Nat) (bs : List Int) (q many : Nat) (n : Int) (e : Ending) (w' : World) : Prop :=
  ∃ A' c', ∃ os : List Int, e = .returned (.slice A' os.length c') ∧ Own w' w.heap.size w'.heap.size A' os ∧ os.length ≤ many + 1 ∧ (n = 0 → os.length = many ∧ ∀ x ∈ os, 0 ≤ x ∧ x < many) ∧ (∃ q', q' ≤ q + many + 1 ∧ Rd w' R A c bs q') ∧ Chg R (R + 1) w w'

/-- What holds between the numbers that are drawn. -/
def OMid (w : World) (R : Nat) (A : Option Addr) (c : Nat) (bs : List Int) (q k : Nat) (v : Value) (wr : World) : Prop :=
  ∃ g cap, ∃ os : List Int, v = .slice (some ⟨g, 0, none⟩) k cap ∧ os.length = k ∧ (∀ x ∈ os, 0 ≤ x ∧ x < k) ∧ k ≤ cap ∧ wr.ownsRow w.heap.size 3 1 (.slice (some ⟨g, 0, none⟩) k cap) k (ints os) ∧ Rd wr R A c bs (q + k) ∧ Chg R (R + 1) w wr ∧ w.heap.size ≤ wr.heap.size

theorem Chg.grow {w u u' : World} {lo hi gv n' c' : Nat} (h : Chg lo hi w u) (hg : u.grownBy u' (Value.ownBlock (.slice (some ⟨gv, 0, none⟩) n' c'))) (hgv : w.heap.size ≤ gv) : Chg lo hi w u' :=
  ⟨hg.os.trans h.os, hg.tape.trans h.tape, hg.output.trans h.output, Nat.le_trans h.size hg.size, fun k hk hn => (hg.block k (Nat.lt_of_lt_of_le hk h.size) (fun e => by have e' : k = gv := Option.some.inj e; omega)).trans (h.block k hk hn)⟩
theorem Rd.grow {u u' : World} {R : Nat} {A : Option Addr} {c : Nat} {bs : List Int} {q gv n' c' : Nat} (h : Rd u R A c bs q) (hg : u.grownBy u' (Value.ownBlock (.slice (some ⟨gv, 0, none⟩) n' c'))) (hR : R < gv) : Rd u' R A c bs q :=
  h.of_block (fun i hi => hg.block i (by have := h.lt; omega) (fun e => by have e' : i = gv := Option.some.inj e; omega)) hg.size
theorem order_step {w wr w2 w3 w4 w5 : World} {R : Nat} {A : Option Addr} {c : Nat} {bs : List Int} {q k a n5 g1 g2 g3 cap3 n1 c1 n2 c2 : Nat} {os : List Int} {o o' : Obj} (hol : os.length = k) (hos : ∀ x ∈ os, 0 ≤ x ∧ x < (k : Int)) (hak : a ≤ k) (hn5 : n5 = k + 1)
    (hown5 : w5.ownsRow w2.heap.size 3 1 (.slice (some ⟨g3, 0, none⟩) n5 cap3) n5 (ints (os.take a) ++ [.int .i64 (k : Int)] ++ ints (os.drop a))) (hcp3 : n5 ≤ cap3) (rd4 : Rd w4 R A c bs (q + k + 1)) (hch : Chg R (R + 1) w wr) (hch2 : Chg R (R + 1) wr w2) (hRw : R < w.heap.size)
    (hgrow3 : (w2.alloc o).grownBy w3 (Value.ownBlock (.slice (some ⟨w2.heap.size, 0, none⟩) 0 0))) (hgrow4 : (w3.alloc o').grownBy w4 (Value.ownBlock (.slice (some ⟨g1, 0, none⟩) n1 c1))) (hgrow5 : w4.grownBy w5 (Value.ownBlock (.slice (some ⟨g2, 0, none⟩) n2 c2))) (hg1 : w2.heap.size ≤ g1) (hg2 : w2.heap.size ≤ g2) :
    OMid w R A c bs q (k + 1) (.slice (some ⟨g3, 0, none⟩) n5 cap3) w5 := by
  subst hn5
  have z : w.heap.size ≤ w2.heap.size := (hch.trans hch2).size
  refine ⟨g3, cap3, os.take a ++ [(k : Int)] ++ os.drop a, rfl, by simp; omega, ?_, hcp3, ?_, rd4.grow hgrow5 (by omega), ?_, ?_⟩
  · intro x hx
    rcases List.mem_append.1 hx with hx | hx
    · rcases List.mem_append.1 hx with hx | hx
      · have := hos x (List.mem_of_mem_take hx); omega
      · simp at hx; omega
    · have := hos x (List.mem_of_mem_drop hx); omega
  · have e : ints (os.take a ++ [(k : Int)] ++ os.drop a) = ints (os.take a) ++ [.int .i64 (k : Int)] ++ ints (os.drop a) := by simp [ints]
    rw [e]
    exact own_lower hown5 z
  · exact ((((hch.trans hch2).trans (Chg.alloc _ o)).grow hgrow3 z).trans (Chg.alloc _ o')).grow hgrow4 (by omega) |>.grow hgrow5 (by omega)
  · have z3 := hgrow3.size
    have z4 := hgrow4.size
    rw [hsz] at z3 z4
    have z5 := hgrow5.size
    omega
theorem drawnOrder_end {w w' : World} {R : Nat} {A : Option Addr} {c : Nat} {bs : List Int} {q many k g cap q' : Nat} {n : Int} {os : List Int} (own : w'.ownsRow w.heap.size 3 1 (.slice (some ⟨g, 0, none⟩) k cap) k (ints os)) (hl : os.length = k) (hk : k ≤ many + 1) (h0 : n = 0 → k = many ∧ ∀ x ∈ os, 0 ≤ x ∧ x < (many : Int)) (hq : q' ≤ q + many + 1) (rd : Rd w' R A c bs q') (hch : Chg R (R + 1) w w') :
    OrderTo w R A c bs q many n (.returned (.slice (some ⟨g, 0, none⟩) k cap)) w' := by
  subst hl
  obtain ⟨A', c', e, _, ho⟩ := own_of_row own
  exact ⟨A', c', os, by rw [e], ho, hk, h0, ⟨q', hq, rd⟩, hch⟩

end Go.Proofs.Ytpoafafoncgenab
