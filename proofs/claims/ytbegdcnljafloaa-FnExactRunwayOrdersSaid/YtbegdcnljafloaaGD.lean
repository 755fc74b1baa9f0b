/-
  A case is drawn: whatever is read, it has at most five claims, in new memory, and only the reader is written.
  A case is drawn: as XDraw3 says it, and its numbers are small.
  The drawn cases: at most five claims, in new memory; nothing that was there is written. No condition.
  An order is drawn: so many numbers below so many, in new memory; only the reader is written.
  Awards are drawn: at most five small numbers, in new memory; only the reader is written. No condition but a small case.
  A drawn case and drawn awards: at most five claims and five small numbers, in new memory; nothing that was there is written. No condition.
-/
import Derived.Test.YtbegdcnljafloaaGA
import Derived.Deep.RegionLaw
import Derived.Deep.RegionHeld3
import Derived.Deep.AppendLies
import Derived.Test.YtbegdcnljafloaaGC
import Derived.BigQuiet
namespace Go.Proofs.Ytbegdcnljafloaa
open Go.RowKit

theorem Rd.of_block {w w' : World} {R : Nat} {A : Option Addr} {c : Nat} {bs : List Int} {q : Nat} (h : Rd w R A c bs q) (e : ∀ k, k ≤ R → w'.heap[k]? = w.heap[k]?) (hs : w.heap.size ≤ w'.heap.size) : Rd w' R A c bs q := by
  refine ⟨(World.cell?_of_block (w := w) (a := ⟨R, 0, none⟩) (e R (Nat.le_refl _))).trans h.s, (World.cell?_of_block (w := w) (a := ⟨R, 1, none⟩) (e R (Nat.le_refl _))).trans h.p, (World.frozen?_of_block (w := w) (a := ⟨R, 1, none⟩) (e R (Nat.le_refl _))).trans h.f, ?_, Nat.lt_of_lt_of_le h.lt hs⟩
  intro hn
  obtain ⟨b, o, e1, h1, hc, hr⟩ := h.b hn
  exact ⟨b, o, e1, h1, fun j hj => (World.cell?_of_block (w := w) (a := ⟨b, o + j, none⟩) (e b (by omega))).trans (hc j hj), hr⟩
theorem Rd.below {B : Nat} {w w' : World} {R : Nat} {A : Option Addr} {c : Nat} {bs : List Int} {q : Nat} (h : Rd w R A c bs q) (k : Below B w w') (hB : R < B) : Rd w' R A c bs q := h.of_block (fun i hi => k.block i (by omega)) k.size
theorem Rd.chg {lo hi : Nat} {w w' : World} {R : Nat} {A : Option Addr} {c : Nat} {bs : List Int} {q : Nat} (h : Rd w R A c bs q) (k : Chg lo hi w w') (hB : R < lo) : Rd w' R A c bs q := h.of_block (fun i hi => k.block i (by have := h.lt; omega) (by omega)) k.size
theorem Bytes.chg {lo hi H : Nat} {w w' : World} {A : Option Addr} {bs : List Int} (h : Bytes w H A bs) (k : Chg lo hi w w') (hs : H ≤ w.heap.size) (hd : H ≤ lo) : Bytes w' H A bs := fun hn => by
  obtain ⟨b, o, e, h1, hc, hr⟩ := h hn
  exact ⟨b, o, e, h1, fun j hj => (k.cell (by show b < _; omega) (by show ¬ (lo ≤ b ∧ b < hi); omega)).trans (hc j hj), hr⟩
theorem Rd.alloc {w : World} {R : Nat} {A : Option Addr} {c : Nat} {bs : List Int} {q : Nat} (h : Rd w R A c bs q) (o : Obj) : Rd (w.alloc o) R A c bs q := h.of_block (fun i hi => Below.heap_alloc w o i (by have := h.lt; omega)) (by simp)

theorem Rd.drew {w : World} {R : Nat} {A : Option Addr} {c : Nat} {bs : List Int} {q : Nat} (h : Rd w R A c bs q) : Rd w.drew R A c bs q := ⟨h.s, h.p, h.f, h.b, h.lt⟩
theorem Chg.of_drew {lo hi : Nat} {w w' : World} (h : Chg lo hi w.drew w') : Chg lo hi w w' := ⟨h.os, h.tape, h.output, h.size, h.block⟩

theorem Chg.one {R : Nat} {w w' : World} (h : Chg R (R + 1) w w') : w.grownBy w' (some R) :=
  ⟨h.os, h.tape, h.output, h.size, fun k hk hne => h.block k hk (fun ⟨h1, h2⟩ => hne (by rw [show k = R by omega]))⟩
theorem own_kept {R B : Nat} {w w' : World} {e : TypeId} {v : Value} {n : Nat} {xs : List Value} (h : w.ownsRow B e 1 v n xs) (hc : Chg R (R + 1) w w') (hR : R < B) : w'.ownsRow B e 1 v n xs :=
  h.kept hc.one (.inr (fun e1 => by have := (h.lt R e1).1; omega))
theorem drawn_eq (p1 p2 : Int) (h1 : 0 ≤ p1) (h2 : p1 < 7) (h3 : 0 ≤ p2) (h4 : p2 < 3) : IntKind.i64.wrap (p2.tdiv 2) = p2 / 2 ∧ IntKind.i64.wrap (p2 / 2 * 6) = p2 / 2 * 6 ∧ IntKind.i64.wrap (p1 + p2 / 2 * 6) = p1 + p2 / 2 * 6 ∧ 0 ≤ p1 + p2 / 2 * 6 ∧ p1 + p2 / 2 * 6 ≤ 12 :=
  ⟨by rw [Int.tdiv_eq_ediv_of_nonneg h3]; exact IntWalk.i64_in _ (by omega), IntWalk.i64_in _ (by omega), IntWalk.i64_in _ (by omega), by omega, by omega⟩

/-- What the drawing of a case leaves. -/
def CaseTo (w : World) (R : Nat) (A : Option Addr) (c : Nat) (bs : List Int) (q : Nat) (e : Ending) (w' : World) : Prop :=
  ∃ E A' c', ∃ xs : List Int, e = .returned (.agg #[.int .i64 E, .slice A' xs.length c']) ∧ Own w' w.heap.size w'.heap.size A' xs ∧ xs.length ≤ 5 ∧ (∃ q', q' ≤ q + 20 ∧ Rd w' R A c bs q') ∧ Chg R (R + 1) w w'

/-- What holds between the claims that are drawn. -/
def Mid (w : World) (R : Nat) (A : Option Addr) (c : Nat) (bs : List Int) (q : Nat) (j : Nat) (wr : World) : Prop :=
  ∃ v, ∃ xs : List Int, ∃ q', 1 ≤ xs.length + j ∧ xs.length + j ≤ 4 ∧ q' ≤ q + 1 + 2 * xs.length ∧ (∀ x ∈ xs, 0 ≤ x ∧ x ≤ 12) ∧ Box wr w.heap.size (.int .i64 0) (.slice none 0 0) ∧ Box wr (w.heap.size + 1) (.int .i64 0) v ∧
    wr.ownsRow (w.heap.size + 2) 3 1 v xs.length (ints xs) ∧ Rd wr R A c bs q' ∧ Chg R (R + 1) w wr ∧ w.heap.size + 2 ≤ wr.heap.size

theorem mid_step {w : World} {R : Nat} {A : Option Addr} {c : Nat} {bs : List Int} {q j q' : Nat} {v : Value} {xs : List Int} {wr w3 w4 : World} {x : Int} {g cp : Nat} (hR : R < w.heap.size) (hj : 0 < j) (hj1 : 1 ≤ xs.length + j) (hj2 : xs.length + j ≤ 4)
    (hq' : q' ≤ q + 1 + 2 * xs.length) (hx12 : ∀ x ∈ xs, 0 ≤ x ∧ x ≤ 12) (bx0 : Box wr w.heap.size (.int .i64 0) (.slice none 0 0)) (bx14 : Box w4 (w.heap.size + 1) (.int .i64 0) v)
    (own3 : (w3.alloc (.cells #[.int .i64 x] 3)).ownsRow (w.heap.size + 2) 3 1 v xs.length (ints xs)) (hch : Chg R (R + 1) w wr) (hsz' : w.heap.size + 2 ≤ wr.heap.size) (h3 : Chg R (R + 1) wr w3) (rd3 : Rd w3 R A c bs (q' + 2)) (hx : 0 ≤ x ∧ x ≤ 12)
    (hown4 : w4.ownsRow (w.heap.size + 2) 3 1 (.slice (some ⟨g, 0, none⟩) (xs.length + 1) cp) (xs.length + 1) (ints xs ++ [.int .i64 x])) (hgrow4 : (w3.alloc (.cells #[.int .i64 x] 3)).grownBy w4 v.ownBlock) :
    Mid w R A c bs q (j - 1) (w4.setCell ⟨w.heap.size + 1, 1, none⟩ (.slice (some ⟨g, 0, none⟩) (xs.length + 1) cp)) := by
  have hne : ∀ k, k < w.heap.size + 2 → some k ≠ v.ownBlock := fun k hk e => by have := (own3.lt k e.symm).1; omega
  have z3 := h3.size
  have z4 := hgrow4.size
  rw [hsz] at z4
  have hb : ∀ k, k < w3.heap.size → k < w.heap.size + 2 → w4.heap[k]? = w3.heap[k]? := fun k h1 h2 => (hgrow4.block k (by rw [hsz]; omega) (hne k h2)).trans (Below.heap_alloc w3 _ k h1)
  have b0 := bx0.chg h3 (by omega)
  have b04 : Box w4 w.heap.size (.int .i64 0) (.slice none 0 0) := b0.of_block (hb _ b0.lt (by omega)) (by omega)
  have r4 : Rd w4 R A c bs (q' + 2) := rd3.of_block (fun k hk => hb k (by have := rd3.lt; omega) (by omega)) (by omega)
  refine ⟨_, xs ++ [x], q' + 2, by simp; omega, by simp; omega, by simp; omega, ?_, b04.far (by simp) _, bx14.set1 _, ?_, r4.of_block (fun k hk => Below.heap_setCell _ _ _ _ (by show k ≠ w.heap.size + 1; omega)) (by simp [World.setCell]), ?_, by simp [World.setCell]; omega⟩
  · intro y hy
    rcases List.mem_append.1 hy with hy | hy
    · exact hx12 y hy
    · simp at hy; subst hy; exact hx
  · have e1 : ints (xs ++ [x]) = ints xs ++ [.int .i64 x] := by simp [ints]
    have e2 : (xs ++ [x]).length = xs.length + 1 := by simp
    rw [e1, e2]
    exact ownsRow_setCell_below hown4 (by show w.heap.size + 1 < _; omega) _
  · have hc := hch.trans h3
    refine ⟨?_, ?_, ?_, ?_, fun k hk hn => ?_⟩
    · exact hgrow4.os.trans hc.os
    · exact hgrow4.tape.trans hc.tape
    · exact hgrow4.output.trans hc.output
    · have := hc.size; simp [World.setCell]; omega
    · rw [Below.heap_setCell _ _ _ _ (by show k ≠ w.heap.size + 1; omega), hb k (by have := hc.size; omega) (by omega)]
      exact hc.block k hk hn

theorem Chg.set_new {lo hi : Nat} {w w2 : World} (h : Chg lo hi w w2) {p : Addr} (hp : w.heap.size ≤ p.block) (u : Value) : Chg lo hi w (w2.setCell p u) :=
  ⟨h.os, h.tape, h.output, by have := h.size; simpa [World.setCell] using this, fun k hk hn => (Below.heap_setCell _ _ _ _ (by omega)).trans (h.block k hk hn)⟩
theorem Rd.set_new {w : World} {R : Nat} {A : Option Addr} {c : Nat} {bs : List Int} {q : Nat} (h : Rd w R A c bs q) {p : Addr} (hp : R < p.block) (u : Value) : Rd (w.setCell p u) R A c bs q :=
  h.of_block (fun k hk => Below.heap_setCell _ _ _ _ (by omega)) (by simp [World.setCell])
theorem own_new (w : World) (t : TypeId) (l : List Int) : Own (w.alloc (.cells (ints l).toArray t)) w.heap.size (w.heap.size + 1) (some ⟨w.heap.size, 0, none⟩) l := fun _ => by
  have hh := heap_alloc_new w (.cells (ints l).toArray t)
  refine ⟨w.heap.size, 0, rfl, Nat.le_refl _, Nat.lt_succ_self _, fun j hj => ?_, fun j hj => ?_⟩
  · rw [cell_of_row _ _ _ (ints l).toArray t (0, 0) hh, Nat.zero_add]
    have e := ints_at l j hj
    simpa using e
  · exact frozen_of_row _ _ _ _ _ hh
theorem case_new {w : World} {R : Nat} {A : Option Addr} {c : Nat} {bs : List Int} {q q' : Nat} {wf : World} {E : Int} (l : List Int) (hR : R < w.heap.size) (hlen : l.length ≤ 5) (hs : w.heap.size + 2 ≤ wf.heap.size)
    (rd : Rd wf R A c bs q') (hq' : q' ≤ q + 20) (hch : Chg R (R + 1) w wf) :
    CaseTo w R A c bs q (.returned (.agg #[.int .i64 E, .slice (some ⟨wf.heap.size, 0, none⟩) l.length l.length])) (((wf.setCell ⟨w.heap.size, 0, none⟩ (.int .i64 E)).setCell ⟨w.heap.size, 1, none⟩ (.slice (some ⟨wf.heap.size, 0, none⟩) l.length l.length)).alloc (.cells (ints l).toArray 3)) := by
  have hn := own_new ((wf.setCell ⟨w.heap.size, 0, none⟩ (.int .i64 E)).setCell ⟨w.heap.size, 1, none⟩ (.slice (some ⟨wf.heap.size, 0, none⟩) l.length l.length)) 3 l
  have e : ((wf.setCell ⟨w.heap.size, 0, none⟩ (.int .i64 E)).setCell ⟨w.heap.size, 1, none⟩ (.slice (some ⟨wf.heap.size, 0, none⟩) l.length l.length)).heap.size = wf.heap.size := by simp [World.setCell]
  rw [e] at hn
  refine ⟨E, some ⟨wf.heap.size, 0, none⟩, l.length, l, rfl, hn.more (by omega) (by rw [hsz, e]; exact Nat.le_refl _), hlen, ⟨q', hq', ?_⟩, ?_⟩
  · exact ((rd.set_new (p := ⟨w.heap.size, 0, none⟩) hR _).set_new (p := ⟨w.heap.size, 1, none⟩) hR _).alloc _
  · exact ((hch.set_new (p := ⟨w.heap.size, 0, none⟩) (Nat.le_refl _) _).set_new (p := ⟨w.heap.size, 1, none⟩) (Nat.le_refl _) _).trans (Chg.alloc _ _)
theorem case_end {w : World} {R : Nat} {A : Option Addr} {c : Nat} {bs : List Int} {q q' : Nat} {wf : World} {A' : Option Addr} {c' : Nat} {xs : List Int} {E : Int} (hR : R < w.heap.size) (own : Own wf (w.heap.size + 2) wf.heap.size A' xs) (hlen : xs.length ≤ 5)
    (rd : Rd wf R A c bs q') (hq' : q' ≤ q + 20) (hch : Chg R (R + 1) w wf) :
    CaseTo w R A c bs q (.returned (.agg #[.int .i64 E, .slice A' xs.length c'])) ((wf.setCell ⟨w.heap.size, 0, none⟩ (.int .i64 E)).setCell ⟨w.heap.size, 1, none⟩ (.slice A' xs.length c')) := by
  refine ⟨E, A', c', xs, rfl, ((own.set_out (.inl (by simp)) _).set_out (.inl (by simp)) _).more (by omega) (by simp [World.setCell]), hlen, ⟨q', hq', ?_⟩, ?_⟩
  · exact rd.of_block (fun k hk => (Below.heap_setCell _ _ _ _ (by show k ≠ w.heap.size; omega)).trans (Below.heap_setCell _ _ _ _ (by show k ≠ w.heap.size; omega))) (by simp [World.setCell])
  · exact ⟨hch.os, hch.tape, hch.output, by have := hch.size; simp [World.setCell]; omega, fun k hk hn => by
      rw [Below.heap_setCell _ _ _ _ (by show k ≠ w.heap.size; omega), Below.heap_setCell _ _ _ _ (by show k ≠ w.heap.size; omega)]
      exact hch.block k hk hn⟩

theorem CaseTo.alloc {w w' : World} {R : Nat} {A : Option Addr} {c : Nat} {bs : List Int} {q : Nat} {e : Ending} (h : CaseTo w R A c bs q e w') (o : Obj) : CaseTo w R A c bs q e (w'.alloc o) := by
  obtain ⟨E, A', c', xs, rfl, ho, hl, ⟨q', hq, hr⟩, hc⟩ := h
  exact ⟨E, A', c', xs, rfl, (ho.alloc (Nat.le_refl _) o).more (Nat.le_refl _) (by rw [hsz]; omega), hl, ⟨q', hq, hr.alloc o⟩, hc.trans (Chg.alloc _ _)⟩
theorem two_at (p : Int) (h0 : 0 ≤ p) (h1 : p < 2) : ∃ u : Int, (#[Value.int .i64 (-1), Value.int .i64 13] : Array Value)[p.toNat]? = some (.int .i64 u) ∧ ∀ h : p.toNat < [Value.int .i64 (-1), Value.int .i64 13].length, [Value.int .i64 (-1), Value.int .i64 13][p.toNat]'h = .int .i64 u := by
  rcases (show p = 0 ∨ p = 1 from by omega) with rfl | rfl
  · exact ⟨-1, rfl, fun _ => rfl⟩
  · exact ⟨13, rfl, fun _ => rfl⟩

set_option maxRecDepth 10000 in
set_option maxHeartbeats 4000000 in
theorem l20Case_any (R : Nat) (A : Option Addr) (c : Nat) (bs : List Int) (q : Nat) (n : Int) (w : World) (h : Rd w R A c bs q) (hn : 0 ≤ n) (hn' : n ≤ 1000000) (hl : bs.length ≤ 2000) (hq : q ≤ 100000) :
    Calls Try.prog 46 #[.pointer (some ⟨R, 0, none⟩), .int .i64 n] w (CaseTo w R A c bs q) := by
  obtain ⟨i0, hi0, hq0, hq1, hq2⟩ := info_parts info_int
  have hRw := h.lt
  have bx0 := (Box.new w (.int .i64 0) (.slice none 0 0) 31).alloc (.cells #[.int .i64 0, .slice none 0 0] 31)
  have bx1 := Box.new (w.alloc (.cells #[.int .i64 0, .slice none 0 0] 31)) (.int .i64 0) (.slice none 0 0) 31
  rw [hsz] at bx1
  have rd0 := (h.alloc (.cells #[.int .i64 0, .slice none 0 0] 31)).alloc (.cells #[.int .i64 0, .slice none 0 0] 31)
  have ch0 : Chg R (R + 1) w ((w.alloc (.cells #[.int .i64 0, .slice none 0 0] 31)).alloc (.cells #[.int .i64 0, .slice none 0 0] 31)) := (Chg.alloc _ _).trans (Chg.alloc _ _)
  have hsz0 : w.heap.size + 2 ≤ ((w.alloc (.cells #[.int .i64 0, .slice none 0 0] 31)).alloc (.cells #[.int .i64 0, .slice none 0 0] 31)).heap.size := by simp
  go_enter Try.func46, Try.ntmps46
  go_wp2_with fail
  refine (pick_to R A c bs q 4 _ rd0 (by omega) (by omega) hl (by omega)).mono ?_
  rintro e w1 ⟨v0, rfl, hv0, hv0', rd1, hch1⟩
  have mid0 : Mid w R A c bs q (1 + v0).toNat w1 := ⟨.slice none 0 0, [], q + 1, by simp; omega, by simp; omega, by omega, by simp, bx0.chg hch1 (by omega), bx1.chg hch1 (by omega), World.ownsRow_nil _ _ _ _, rd1, ch0.trans hch1, Nat.le_trans hsz0 hch1.size⟩
  clear bx0 bx1 rd0 ch0 hsz0 rd1 hch1
  go_wp2
  go_loopw [6] (fun i wr => ∃ j : Nat, j ≤ 4 ∧ i = .int .i64 j ∧ Mid w R A c bs q j wr) (fun i _ => (intOf i).toNat)
  case atStart => exact ⟨(1 + v0).toNat, by omega, by rw [Int.toNat_of_nonneg (by omega)], mid0⟩
  case round =>
    obtain ⟨j, hj, rfl, hm⟩ := hrel
    clear mid0
    obtain ⟨v, xs, q', hj1, hj2, hq', hx12, bx0, bx1, hown, rd, hch, hsz'⟩ := hm
    by_cases hlt : 0 < j
    · have c1 := bx1.c1
      have rdd := rd.drew
      have f1 := bx1.f1
      have d1 := bx1.lt
      have hx5 : xs.length ≤ 4 := by omega
      go_wp2_with fail
      go_region_law (first
        | ((with_reducible refine step_append_lies _ rfl _ _ 29 rfl (w.heap.size + 2) 3 i0 (.int .i64 0) 1 8 Try.underlying29 hi0 hq0 hq1 hq2 rfl (by decide) v xs.length (ints xs) rfl (by exact own3) ⟨w3.heap.size, 0, none⟩ 1 1 [.int .i64 (p1 + p2 / 2 * 6)] rfl rfl (by exact hnw) hon (by omega) (by unfold maxLen; omega) (by omega) (by exact hba) (w3.heap.size + 1) (by exact hbe) ?_)
           intro g cp w4 hown4 hgrow4 hat4 hlt4
           have bx14 := (bx13.alloc (.cells #[.int .i64 (p1 + p2 / 2 * 6)] 3)).grown hgrow4 (fun e => by have := (own3.lt _ e.symm).1; omega)
           have c14 := bx14.c1
           have f14 := bx14.f1
           have d14 := bx14.lt)
        | (go_simp
           go_at_call 41
           (with_reducible refine (pick_to R A c bs q' 7 _ rdd (by omega) (by omega) hl (by omega)).mono ?_)
           rintro e w2 ⟨p1, rfl, hp1, hp1', rd2, hch2'⟩
           have hch2 := hch2'.of_drew
           have bx12 := bx1.chg hch2 (by omega)
           have c12 := bx12.c1)
        | (go_simp
           go_at_call 41
           (with_reducible refine (pick_to R A c bs (q' + 1) 3 _ rd2 (by omega) (by omega) hl (by omega)).mono ?_)
           rintro e w3 ⟨p2, rfl, hp2, hp2', rd3, hch3⟩
           have bx13 := bx12.chg hch3 (by omega)
           have c13 := bx13.c1
           have f13 := bx13.f1
           have d13 := bx13.lt
           have z3 : w.heap.size + 2 ≤ w3.heap.size := Nat.le_trans hsz' (Nat.le_trans hch2.size hch3.size)
           obtain ⟨y1, y2, y3, y4, y5⟩ := drawn_eq p1 p2 hp1 hp1' hp2 hp2'
           have own3 := (own_kept (own_kept hown hch2 (by omega)) hch3 (by omega)).alloc (.cells #[.int .i64 (p1 + p2 / 2 * 6)] 3)
           have hnw := news_one w3 (p1 + p2 / 2 * 6) 3
           have hon := one_cell (p1 + p2 / 2 * 6)
           have hba : w.heap.size + 2 ≤ (w3.alloc (.cells #[.int .i64 (p1 + p2 / 2 * 6)] 3)).heap.size := by rw [hsz]; omega
           have hbe : (w3.alloc (.cells #[.int .i64 (p1 + p2 / 2 * 6)] 3)).heap.size = w3.heap.size + 1 := hsz _ _))
      all_goals
        have H := Lib.hid (mid_step hRw hlt hj1 hj2 hq' hx12 bx0 bx14 own3 hch hsz' (hch2.trans hch3) rd3 ⟨y4, y5⟩ hown4 hgrow4)
        clear bx0 bx1 hown rd hch hch2' hch2 hch3 rdd rd2 rd3 hown4 hgrow4 own3 hnw hon hba hbe bx12 bx13 bx14 y1 y2 y3
        go_wp2
        go_roundw
        case rel => exact ⟨j - 1, by omega, congrArg (Value.int .i64) (by omega), H.out⟩
        case measure => simp [intOf]; omega
    · obtain rfl : j = 0 := by omega
      obtain ⟨A', c', rfl, hcc, ho⟩ := own_of_row hown
      have hx5 : xs.length ≤ 4 := by omega
      have hx0 : 0 < xs.length := by omega
      have hsm := small_of hx5 hx12
      have hsum := sum_bd_aux 12 (by omega) xs fun x hx => by have := hx12 x hx; omega
      have hsum0 : 0 ≤ xs.sum := sum_nonneg xs fun x hx => (hx12 x hx).1
      have hsum1 : xs.sum ≤ 48 := by omega
      have hsum2 : (1 : Int) ≤ xs.sum + 1 := by omega
      have hsum3 : xs.sum + 1 ≤ 1000000 := by omega
      have c1 := bx1.c1
      have d1 := bx1.lt
      clear hsum hown hlt hx12 hj hj1 hj2
      go_wp2_with fail
      refine (l1Sum_any A' c' xs _ _ _ ho.ints hsm).mono ?_
      rintro e w' ⟨rfl, rfl⟩
      go_wp2_with fail
      refine (pick_to R A c bs q' (xs.sum + 1) _ rd hsum2 hsum3 hl (by omega)).mono ?_
      rintro e w2 ⟨E, rfl, hE0, hE1, rd2, hch2⟩
      have bx02 := bx0.chg hch2 (by omega)
      have bx12 := bx1.chg hch2 (by omega)
      have ho2 := ho.chg hch2 (Nat.le_refl _) (by omega)
      have hcw2 := hch.trans hch2
      have z2 := hch2.size
      have c12 := bx12.c0
      have c12' := bx12.c1
      have f12 := bx12.f0
      have rd2' : Rd (w2.setCell ⟨w.heap.size + 1, 0, none⟩ (.int .i64 E)) R A c bs (q' + 1) := rd2.of_block (fun k hk => Below.heap_setCell _ _ _ _ (by show k ≠ w.heap.size + 1; omega)) (by simp [World.setCell])
      go_wp2_with fail
      refine (odd_to R A c bs (q' + 1) n _ rd2' hn hn' hl (by omega)).mono ?_
      rintro e w3 ⟨b, rfl, ⟨q3, hq3, rd3⟩, hch3⟩
      have bx03 := (bx02.far (p := ⟨w.heap.size + 1, 0, none⟩) (by simp) (.int .i64 E)).chg hch3 (by omega)
      have bx13 := (bx12.set0 (.int .i64 E)).chg hch3 (by omega)
      have ho3 := (ho2.set_out (p := ⟨w.heap.size + 1, 0, none⟩) (.inl (by simp)) (.int .i64 E)).chg hch3 (by simp [World.setCell]; omega) (by omega)
      have z3 := hch3.size
      simp [World.setCell] at z3
      have hcw3 := (hcw2.set_new (p := ⟨w.heap.size + 1, 0, none⟩) (by show w.heap.size ≤ w.heap.size + 1; omega) (.int .i64 E)).trans hch3
      have ho3' := ho3.more (Nat.le_refl _) (Nat.le_trans z2 z3)
      clear c1 c12 c12' f12 bx0 bx1 bx02 bx12 rd rd2 rd2' hch hch2 hch3 ho ho2 ho3 hcw2
      have p1 := bx13.c0
      have p2 := bx13.c1
      have p3 := bx03.c0
      have p4 := bx03.c1
      have p5 := bx03.f0
      have p6 := bx03.f1
      have p7 := bx13.f0
      have p8 := bx13.f1
      have hq20 : q3 ≤ q + 20 := by omega
      cases b
      · have H := Lib.hid (case_end (E := E) (c' := c') hRw ho3' (by omega) rd3 hq20 hcw3)
        go_wp2
        refine bodyPost_ret (v := .agg #[.int .i64 E, .slice A' xs.length c']) (by simp [results, Try.results46, go_sem, p3, p4]) rfl ?_
        exact H.out
      · go_wp2_with fail
        refine (pick_to R A c bs q3 4 _ rd3 (by omega) (by omega) hl (by omega)).mono ?_
        rintro e w4 ⟨p, rfl, hp0, hp1, rd4, hch4⟩
        have bx04 := bx03.chg hch4 (by omega)
        have bx14 := bx13.chg hch4 (by omega)
        have ho4 := (ho3'.chg hch4 (Nat.le_refl _) (by omega)).more (Nat.le_refl _) hch4.size
        have hcw4 := hcw3.trans hch4
        have z4 := hch4.size
        have g1 := bx14.c0
        have g2 := bx14.c1
        have g3 := bx04.c0
        have g4 := bx04.c1
        have g5 := bx04.f0
        have g6 := bx04.f1
        have g7 := bx14.f0
        have g8 := bx14.f1
        have g9 := bx14.lt
        have g10 := bx04.lt
        have hq21 : q3 + 1 ≤ q + 20 := by omega
        clear p1 p2 p3 p4 p5 p6 p7 p8 bx03 bx13 rd3 hcw3 ho3' hch4
        rcases (show p = 0 ∨ p = 1 ∨ p = 2 ∨ p = 3 from by omega) with rfl | rfl | rfl | rfl
        · have H := Lib.hid (case_end (E := 0) (c' := 0) hRw (Own.nil (w := w4) (lo := w.heap.size + 2) (hi := w4.heap.size) (A := none)) (by simp) rd4 hq21 hcw4)
          go_wp2
          refine bodyPost_ret (v := .agg #[.int .i64 0, .slice none 0 0]) (by simp [results, Try.results46, go_sem, g3, g4]) rfl ?_
          exact H.out
        · have H := Lib.hid (case_end (E := xs.sum + 1) (c' := c') hRw ((ho4.set_out (p := ⟨w.heap.size + 1, 0, none⟩) (.inl (by simp)) (.int .i64 (xs.sum + 1))).more (Nat.le_refl _) (by simp [World.setCell])) (by omega) (rd4.set_new (p := ⟨w.heap.size + 1, 0, none⟩) (by show R < w.heap.size + 1; omega) (.int .i64 (xs.sum + 1))) hq21 (hcw4.set_new (p := ⟨w.heap.size + 1, 0, none⟩) (by show w.heap.size ≤ w.heap.size + 1; omega) (.int .i64 (xs.sum + 1))))
          go_wp2_with fail
          refine (l1Sum_any A' c' xs _ _ _ ho4.ints hsm).mono ?_
          rintro e w' ⟨rfl, rfl⟩
          go_wp2
          refine bodyPost_ret (v := .agg #[.int .i64 (xs.sum + 1), .slice A' xs.length c']) (by simp [results, Try.results46, go_sem, g3, g4]) rfl ?_
          exact H.out
        · obtain ⟨b, o, rfl, hb1, hb2, hcell, hfz⟩ := ho4.at_ (k := 0) hx0
          rw [Nat.add_zero] at hcell hfz
          have rd4a := (rd4.alloc (.cells #[.int .i64 (-1), .int .i64 13] 3)).drew
          go_wp2_with fail
          go_region_law (first
              | (go_simp
                 go_at_call 41
                 refine (pick_to R A c bs (q3 + 1) 2 _ (by first | exact rd4.drew | exact rd4a) (by omega) (by omega) hl (by omega)).mono ?_
                 rintro e w5 ⟨p, rfl, hp5, hp5', rd5, hch5'⟩
                 have hch5 : Chg R (R + 1) w4 w5 := by first | exact hch5'.of_drew | exact (Chg.alloc _ _).trans hch5'.of_drew
                 have bx05 := bx04.chg hch5 (by omega)
                 have bx15 := bx14.chg hch5 (by omega)
                 have ho5 := ho4.chg hch5 (Nat.le_refl _) (by omega)
                 have hcw5 := hcw4.trans hch5
                 have z5 := hch5.size
                 have cC := bx15.c1
                 have cE := bx15.c0
                 have k1 := bx05.c0
                 have k2 := bx05.c1
                 have k3 := bx05.f0
                 have k4 := bx05.f1
                 have k5 := bx05.lt
                 have k6 := bx15.lt
                 have k7 : w5.cell? ⟨b, o, none⟩ = some (.int .i64 (xs[0]'hx0)) := (hch5.cell (p := ⟨b, o, none⟩) hb2 (by show ¬ (R ≤ b ∧ b < R + 1); omega)).trans hcell
                 have k8 : w5.frozen? ⟨b, o, none⟩ = false := (hch5.frozen (p := ⟨b, o, none⟩) hb2 (by show ¬ (R ≤ b ∧ b < R + 1); omega)).trans hfz
                 have k9 : b < w5.heap.size := by omega
                 obtain ⟨u, hu, hu2⟩ := two_at p hp5 hp5'
                 (try have hu1 : w5.cell? ⟨w4.heap.size, p.toNat, none⟩ = some (.int .i64 u) := (hch5'.cell (p := ⟨w4.heap.size, p.toNat, none⟩) (by simp) (by show ¬ (R ≤ w4.heap.size ∧ w4.heap.size < R + 1); omega)).trans ((World.cell?_alloc_at (w := w4) #[.int .i64 (-1), .int .i64 13] 3 w4.heap.size p.toNat rfl).trans hu))))
          all_goals
            have ho6 := ho5.stored hx0 u
            rw [Nat.add_zero] at ho6
            have H0 := case_end (E := E) (c' := c') hRw (ho6.more (Nat.le_refl _) (by simpa [World.setCell] using z5)) (by rw [List.length_set]; omega) (rd5.set_new (p := ⟨b, o, none⟩) (by show R < b; omega) (.int .i64 u)) (by omega : q3 + 1 + 1 ≤ q + 20) (hcw5.set_new (p := ⟨b, o, none⟩) (by show w.heap.size ≤ b; omega) (.int .i64 u))
            rw [List.length_set] at H0
            have H := Lib.hid H0
            clear H0 ho6 ho5 ho4 hcw4 hcw5 hch5 hch5' rd4 rd4a rd5 bx04 bx14 bx05 bx15
            go_wp2
            refine bodyPost_ret (v := .agg #[.int .i64 E, .slice (some ⟨b, o, none⟩) xs.length c']) (by simp [results, Try.results46, go_sem, k1, k2, k5]) rfl ?_
            first | exact H.out | exact H.out.alloc _
        · have hz5 : ((w4.setCell ⟨w.heap.size + 1, 1, none⟩ (.slice (some ⟨w4.heap.size, 0, none⟩) 5 5)).setCell ⟨w.heap.size + 1, 0, none⟩ (.int .i64 2)).heap.size = w4.heap.size := by simp [World.setCell]
          have H0 := case_new (q := q) (E := 2) (wf := (w4.setCell ⟨w.heap.size + 1, 1, none⟩ (.slice (some ⟨w4.heap.size, 0, none⟩) 5 5)).setCell ⟨w.heap.size + 1, 0, none⟩ (.int .i64 2)) [1, 1, 1, 1, 1] hRw (by simp) (by rw [hz5]; omega)
            ((rd4.set_new (p := ⟨w.heap.size + 1, 1, none⟩) (by show R < w.heap.size + 1; omega) _).set_new (p := ⟨w.heap.size + 1, 0, none⟩) (by show R < w.heap.size + 1; omega) _) hq21
            ((hcw4.set_new (p := ⟨w.heap.size + 1, 1, none⟩) (by show w.heap.size ≤ w.heap.size + 1; omega) _).set_new (p := ⟨w.heap.size + 1, 0, none⟩) (by show w.heap.size ≤ w.heap.size + 1; omega) _)
          rw [hz5] at H0
          have H := Lib.hid H0
          clear H0 hz5
          go_wp2
          refine bodyPost_ret (v := .agg #[.int .i64 2, .slice (some ⟨w4.heap.size, 0, none⟩) 5 5]) (by simp [results, Try.results46, go_sem, g3, g4, g10]) rfl ?_
          exact H.out

end Go.Proofs.Ytbegdcnljafloaa
namespace Go.Proofs.Ytbegdcnljafloaa
open Go.RowKit

def Sm (E : Int) (xs : List Int) : Prop := 0 ≤ E ∧ E ≤ 60 ∧ ∀ x ∈ xs, -1 ≤ x ∧ x ≤ 13
theorem sm_of {E : Int} {xs : List Int} (h : ∀ x ∈ xs, 0 ≤ x ∧ x ≤ 12) (hs : xs.sum ≤ 48) (h0 : 0 ≤ E) (h1 : E ≤ xs.sum + 1) : Sm E xs := ⟨h0, by omega, fun x hx => by have := h x hx; omega⟩
theorem sm_nil : Sm 0 [] := ⟨by omega, by omega, fun x hx => by cases hx⟩
theorem sm_five : Sm 2 [1, 1, 1, 1, 1] := ⟨by omega, by omega, fun x hx => by simp at hx; omega⟩
theorem sm_set {E u : Int} {xs : List Int} {i : Nat} (h : Sm E xs) (hu : -1 ≤ u ∧ u ≤ 13) : Sm E (xs.set i u) := ⟨h.1, h.2.1, fun x hx => by
  rcases List.mem_or_eq_of_mem_set hx with hx | hx
  · exact h.2.2 x hx
  · subst hx; exact hu⟩
def CaseToB (w : World) (R : Nat) (A : Option Addr) (c : Nat) (bs : List Int) (q : Nat) (e : Ending) (w' : World) : Prop :=
  ∃ E A' c', ∃ xs : List Int, e = .returned (.agg #[.int .i64 E, .slice A' xs.length c']) ∧ Own w' w.heap.size w'.heap.size A' xs ∧ xs.length ≤ 5 ∧ (∃ q', q' ≤ q + 20 ∧ Rd w' R A c bs q') ∧ Chg R (R + 1) w w' ∧ Sm E xs
theorem case_newB {w : World} {R : Nat} {A : Option Addr} {c : Nat} {bs : List Int} {q q' : Nat} {wf : World} {E : Int} (l : List Int) (hR : R < w.heap.size) (hlen : l.length ≤ 5) (hs : w.heap.size + 2 ≤ wf.heap.size)
    (rd : Rd wf R A c bs q') (hq' : q' ≤ q + 20) (hch : Chg R (R + 1) w wf) (hsm : Sm E l) :
    CaseToB w R A c bs q (.returned (.agg #[.int .i64 E, .slice (some ⟨wf.heap.size, 0, none⟩) l.length l.length])) (((wf.setCell ⟨w.heap.size, 0, none⟩ (.int .i64 E)).setCell ⟨w.heap.size, 1, none⟩ (.slice (some ⟨wf.heap.size, 0, none⟩) l.length l.length)).alloc (.cells (ints l).toArray 3)) := by
  have hn := own_new ((wf.setCell ⟨w.heap.size, 0, none⟩ (.int .i64 E)).setCell ⟨w.heap.size, 1, none⟩ (.slice (some ⟨wf.heap.size, 0, none⟩) l.length l.length)) 3 l
  have e : ((wf.setCell ⟨w.heap.size, 0, none⟩ (.int .i64 E)).setCell ⟨w.heap.size, 1, none⟩ (.slice (some ⟨wf.heap.size, 0, none⟩) l.length l.length)).heap.size = wf.heap.size := by simp [World.setCell]
  rw [e] at hn
  refine ⟨E, some ⟨wf.heap.size, 0, none⟩, l.length, l, rfl, hn.more (by omega) (by rw [hsz, e]; exact Nat.le_refl _), hlen, ⟨q', hq', ?_⟩, ?_, hsm⟩
  · exact ((rd.set_new (p := ⟨w.heap.size, 0, none⟩) hR _).set_new (p := ⟨w.heap.size, 1, none⟩) hR _).alloc _
  · exact ((hch.set_new (p := ⟨w.heap.size, 0, none⟩) (Nat.le_refl _) _).set_new (p := ⟨w.heap.size, 1, none⟩) (Nat.le_refl _) _).trans (Chg.alloc _ _)
theorem case_endB {w : World} {R : Nat} {A : Option Addr} {c : Nat} {bs : List Int} {q q' : Nat} {wf : World} {A' : Option Addr} {c' : Nat} {xs : List Int} {E : Int} (hR : R < w.heap.size) (own : Own wf (w.heap.size + 2) wf.heap.size A' xs) (hlen : xs.length ≤ 5)
    (rd : Rd wf R A c bs q') (hq' : q' ≤ q + 20) (hch : Chg R (R + 1) w wf) (hsm : Sm E xs) :
    CaseToB w R A c bs q (.returned (.agg #[.int .i64 E, .slice A' xs.length c'])) ((wf.setCell ⟨w.heap.size, 0, none⟩ (.int .i64 E)).setCell ⟨w.heap.size, 1, none⟩ (.slice A' xs.length c')) := by
  refine ⟨E, A', c', xs, rfl, ((own.set_out (.inl (by simp)) _).set_out (.inl (by simp)) _).more (by omega) (by simp [World.setCell]), hlen, ⟨q', hq', ?_⟩, ?_, hsm⟩
  · exact rd.of_block (fun k hk => (Below.heap_setCell _ _ _ _ (by show k ≠ w.heap.size; omega)).trans (Below.heap_setCell _ _ _ _ (by show k ≠ w.heap.size; omega))) (by simp [World.setCell])
  · exact ⟨hch.os, hch.tape, hch.output, by have := hch.size; simp [World.setCell]; omega, fun k hk hn => by
      rw [Below.heap_setCell _ _ _ _ (by show k ≠ w.heap.size; omega), Below.heap_setCell _ _ _ _ (by show k ≠ w.heap.size; omega)]
      exact hch.block k hk hn⟩

theorem CaseToB.alloc {w w' : World} {R : Nat} {A : Option Addr} {c : Nat} {bs : List Int} {q : Nat} {e : Ending} (h : CaseToB w R A c bs q e w') (o : Obj) : CaseToB w R A c bs q e (w'.alloc o) := by
  obtain ⟨E, A', c', xs, rfl, ho, hl, ⟨q', hq, hr⟩, hc, hsm⟩ := h
  exact ⟨E, A', c', xs, rfl, (ho.alloc (Nat.le_refl _) o).more (Nat.le_refl _) (by rw [hsz]; omega), hl, ⟨q', hq, hr.alloc o⟩, hc.trans (Chg.alloc _ _), hsm⟩
theorem two_atB (p : Int) (h0 : 0 ≤ p) (h1 : p < 2) : ∃ u : Int, (-1 ≤ u ∧ u ≤ 13) ∧ (#[Value.int .i64 (-1), Value.int .i64 13] : Array Value)[p.toNat]? = some (.int .i64 u) ∧ ∀ h : p.toNat < [Value.int .i64 (-1), Value.int .i64 13].length, [Value.int .i64 (-1), Value.int .i64 13][p.toNat]'h = .int .i64 u := by
  rcases (show p = 0 ∨ p = 1 from by omega) with rfl | rfl
  · exact ⟨-1, by omega, rfl, fun _ => rfl⟩
  · exact ⟨13, by omega, rfl, fun _ => rfl⟩

set_option maxRecDepth 10000 in
set_option maxHeartbeats 4000000 in
theorem l20Case_anyB (R : Nat) (A : Option Addr) (c : Nat) (bs : List Int) (q : Nat) (n : Int) (w : World) (h : Rd w R A c bs q) (hn : 0 ≤ n) (hn' : n ≤ 1000000) (hl : bs.length ≤ 2000) (hq : q ≤ 100000) :
    Calls Try.prog 46 #[.pointer (some ⟨R, 0, none⟩), .int .i64 n] w (CaseToB w R A c bs q) := by
  obtain ⟨i0, hi0, hq0, hq1, hq2⟩ := info_parts info_int
  have hRw := h.lt
  have bx0 := (Box.new w (.int .i64 0) (.slice none 0 0) 31).alloc (.cells #[.int .i64 0, .slice none 0 0] 31)
  have bx1 := Box.new (w.alloc (.cells #[.int .i64 0, .slice none 0 0] 31)) (.int .i64 0) (.slice none 0 0) 31
  rw [hsz] at bx1
  have rd0 := (h.alloc (.cells #[.int .i64 0, .slice none 0 0] 31)).alloc (.cells #[.int .i64 0, .slice none 0 0] 31)
  have ch0 : Chg R (R + 1) w ((w.alloc (.cells #[.int .i64 0, .slice none 0 0] 31)).alloc (.cells #[.int .i64 0, .slice none 0 0] 31)) := (Chg.alloc _ _).trans (Chg.alloc _ _)
  have hsz0 : w.heap.size + 2 ≤ ((w.alloc (.cells #[.int .i64 0, .slice none 0 0] 31)).alloc (.cells #[.int .i64 0, .slice none 0 0] 31)).heap.size := by simp
  go_enter Try.func46, Try.ntmps46
  go_wp2_with fail
  refine (pick_to R A c bs q 4 _ rd0 (by omega) (by omega) hl (by omega)).mono ?_
  rintro e w1 ⟨v0, rfl, hv0, hv0', rd1, hch1⟩
  have mid0 : Mid w R A c bs q (1 + v0).toNat w1 := ⟨.slice none 0 0, [], q + 1, by simp; omega, by simp; omega, by omega, by simp, bx0.chg hch1 (by omega), bx1.chg hch1 (by omega), World.ownsRow_nil _ _ _ _, rd1, ch0.trans hch1, Nat.le_trans hsz0 hch1.size⟩
  clear bx0 bx1 rd0 ch0 hsz0 rd1 hch1
  go_wp2
  go_loopw [6] (fun i wr => ∃ j : Nat, j ≤ 4 ∧ i = .int .i64 j ∧ Mid w R A c bs q j wr) (fun i _ => (intOf i).toNat)
  case atStart => exact ⟨(1 + v0).toNat, by omega, by rw [Int.toNat_of_nonneg (by omega)], mid0⟩
  case round =>
    obtain ⟨j, hj, rfl, hm⟩ := hrel
    clear mid0
    obtain ⟨v, xs, q', hj1, hj2, hq', hx12, bx0, bx1, hown, rd, hch, hsz'⟩ := hm
    by_cases hlt : 0 < j
    · have c1 := bx1.c1
      have rdd := rd.drew
      have f1 := bx1.f1
      have d1 := bx1.lt
      have hx5 : xs.length ≤ 4 := by omega
      go_wp2_with fail
      go_region_law (first
        | ((with_reducible refine step_append_lies _ rfl _ _ 29 rfl (w.heap.size + 2) 3 i0 (.int .i64 0) 1 8 Try.underlying29 hi0 hq0 hq1 hq2 rfl (by decide) v xs.length (ints xs) rfl (by exact own3) ⟨w3.heap.size, 0, none⟩ 1 1 [.int .i64 (p1 + p2 / 2 * 6)] rfl rfl (by exact hnw) hon (by omega) (by unfold maxLen; omega) (by omega) (by exact hba) (w3.heap.size + 1) (by exact hbe) ?_)
           intro g cp w4 hown4 hgrow4 hat4 hlt4
           have bx14 := (bx13.alloc (.cells #[.int .i64 (p1 + p2 / 2 * 6)] 3)).grown hgrow4 (fun e => by have := (own3.lt _ e.symm).1; omega)
           have c14 := bx14.c1
           have f14 := bx14.f1
           have d14 := bx14.lt)
        | (go_simp
           go_at_call 41
           (with_reducible refine (pick_to R A c bs q' 7 _ rdd (by omega) (by omega) hl (by omega)).mono ?_)
           rintro e w2 ⟨p1, rfl, hp1, hp1', rd2, hch2'⟩
           have hch2 := hch2'.of_drew
           have bx12 := bx1.chg hch2 (by omega)
           have c12 := bx12.c1)
        | (go_simp
           go_at_call 41
           (with_reducible refine (pick_to R A c bs (q' + 1) 3 _ rd2 (by omega) (by omega) hl (by omega)).mono ?_)
           rintro e w3 ⟨p2, rfl, hp2, hp2', rd3, hch3⟩
           have bx13 := bx12.chg hch3 (by omega)
           have c13 := bx13.c1
           have f13 := bx13.f1
           have d13 := bx13.lt
           have z3 : w.heap.size + 2 ≤ w3.heap.size := Nat.le_trans hsz' (Nat.le_trans hch2.size hch3.size)
           obtain ⟨y1, y2, y3, y4, y5⟩ := drawn_eq p1 p2 hp1 hp1' hp2 hp2'
           have own3 := (own_kept (own_kept hown hch2 (by omega)) hch3 (by omega)).alloc (.cells #[.int .i64 (p1 + p2 / 2 * 6)] 3)
           have hnw := news_one w3 (p1 + p2 / 2 * 6) 3
           have hon := one_cell (p1 + p2 / 2 * 6)
           have hba : w.heap.size + 2 ≤ (w3.alloc (.cells #[.int .i64 (p1 + p2 / 2 * 6)] 3)).heap.size := by rw [hsz]; omega
           have hbe : (w3.alloc (.cells #[.int .i64 (p1 + p2 / 2 * 6)] 3)).heap.size = w3.heap.size + 1 := hsz _ _))
      all_goals
        have H := Lib.hid (mid_step hRw hlt hj1 hj2 hq' hx12 bx0 bx14 own3 hch hsz' (hch2.trans hch3) rd3 ⟨y4, y5⟩ hown4 hgrow4)
        clear bx0 bx1 hown rd hch hch2' hch2 hch3 rdd rd2 rd3 hown4 hgrow4 own3 hnw hon hba hbe bx12 bx13 bx14 y1 y2 y3
        go_wp2
        go_roundw
        case rel => exact ⟨j - 1, by omega, congrArg (Value.int .i64) (by omega), H.out⟩
        case measure => simp [intOf]; omega
    · obtain rfl : j = 0 := by omega
      obtain ⟨A', c', rfl, hcc, ho⟩ := own_of_row hown
      have hx5 : xs.length ≤ 4 := by omega
      have hx0 : 0 < xs.length := by omega
      have hsm := small_of hx5 hx12
      have hsum := sum_bd_aux 12 (by omega) xs fun x hx => by have := hx12 x hx; omega
      have hsum0 : 0 ≤ xs.sum := sum_nonneg xs fun x hx => (hx12 x hx).1
      have hsum1 : xs.sum ≤ 48 := by omega
      have hsum2 : (1 : Int) ≤ xs.sum + 1 := by omega
      have hsum3 : xs.sum + 1 ≤ 1000000 := by omega
      have c1 := bx1.c1
      have d1 := bx1.lt
      have HS : Hid (∀ x ∈ xs, 0 ≤ x ∧ x ≤ 12) := hx12
      have HU : Hid (xs.sum ≤ 48) := hsum1
      clear hsum hown hlt hx12 hj hj1 hj2
      go_wp2_with fail
      refine (l1Sum_any A' c' xs _ _ _ ho.ints hsm).mono ?_
      rintro e w' ⟨rfl, rfl⟩
      go_wp2_with fail
      refine (pick_to R A c bs q' (xs.sum + 1) _ rd hsum2 hsum3 hl (by omega)).mono ?_
      rintro e w2 ⟨E, rfl, hE0, hE1, rd2, hch2⟩
      have bx02 := bx0.chg hch2 (by omega)
      have bx12 := bx1.chg hch2 (by omega)
      have ho2 := ho.chg hch2 (Nat.le_refl _) (by omega)
      have hcw2 := hch.trans hch2
      have z2 := hch2.size
      have c12 := bx12.c0
      have c12' := bx12.c1
      have f12 := bx12.f0
      have rd2' : Rd (w2.setCell ⟨w.heap.size + 1, 0, none⟩ (.int .i64 E)) R A c bs (q' + 1) := rd2.of_block (fun k hk => Below.heap_setCell _ _ _ _ (by show k ≠ w.heap.size + 1; omega)) (by simp [World.setCell])
      go_wp2_with fail
      refine (odd_to R A c bs (q' + 1) n _ rd2' hn hn' hl (by omega)).mono ?_
      rintro e w3 ⟨b, rfl, ⟨q3, hq3, rd3⟩, hch3⟩
      have bx03 := (bx02.far (p := ⟨w.heap.size + 1, 0, none⟩) (by simp) (.int .i64 E)).chg hch3 (by omega)
      have bx13 := (bx12.set0 (.int .i64 E)).chg hch3 (by omega)
      have ho3 := (ho2.set_out (p := ⟨w.heap.size + 1, 0, none⟩) (.inl (by simp)) (.int .i64 E)).chg hch3 (by simp [World.setCell]; omega) (by omega)
      have z3 := hch3.size
      simp [World.setCell] at z3
      have hcw3 := (hcw2.set_new (p := ⟨w.heap.size + 1, 0, none⟩) (by show w.heap.size ≤ w.heap.size + 1; omega) (.int .i64 E)).trans hch3
      have ho3' := ho3.more (Nat.le_refl _) (Nat.le_trans z2 z3)
      clear c1 c12 c12' f12 bx0 bx1 bx02 bx12 rd rd2 rd2' hch hch2 hch3 ho ho2 ho3 hcw2
      have p1 := bx13.c0
      have p2 := bx13.c1
      have p3 := bx03.c0
      have p4 := bx03.c1
      have p5 := bx03.f0
      have p6 := bx03.f1
      have p7 := bx13.f0
      have p8 := bx13.f1
      have hq20 : q3 ≤ q + 20 := by omega
      cases b
      · have H := Lib.hid (case_endB (E := E) (c' := c') hRw ho3' (by omega) rd3 hq20 hcw3 (sm_of HS.out HU.out (by omega) (by omega)))
        go_wp2
        refine bodyPost_ret (v := .agg #[.int .i64 E, .slice A' xs.length c']) (by simp [results, Try.results46, go_sem, p3, p4]) rfl ?_
        exact H.out
      · go_wp2_with fail
        refine (pick_to R A c bs q3 4 _ rd3 (by omega) (by omega) hl (by omega)).mono ?_
        rintro e w4 ⟨p, rfl, hp0, hp1, rd4, hch4⟩
        have bx04 := bx03.chg hch4 (by omega)
        have bx14 := bx13.chg hch4 (by omega)
        have ho4 := (ho3'.chg hch4 (Nat.le_refl _) (by omega)).more (Nat.le_refl _) hch4.size
        have hcw4 := hcw3.trans hch4
        have z4 := hch4.size
        have g1 := bx14.c0
        have g2 := bx14.c1
        have g3 := bx04.c0
        have g4 := bx04.c1
        have g5 := bx04.f0
        have g6 := bx04.f1
        have g7 := bx14.f0
        have g8 := bx14.f1
        have g9 := bx14.lt
        have g10 := bx04.lt
        have hq21 : q3 + 1 ≤ q + 20 := by omega
        clear p1 p2 p3 p4 p5 p6 p7 p8 bx03 bx13 rd3 hcw3 ho3' hch4
        rcases (show p = 0 ∨ p = 1 ∨ p = 2 ∨ p = 3 from by omega) with rfl | rfl | rfl | rfl
        · have H := Lib.hid (case_endB (E := 0) (c' := 0) hRw (Own.nil (w := w4) (lo := w.heap.size + 2) (hi := w4.heap.size) (A := none)) (by simp) rd4 hq21 hcw4 (sm_nil))
          go_wp2
          refine bodyPost_ret (v := .agg #[.int .i64 0, .slice none 0 0]) (by simp [results, Try.results46, go_sem, g3, g4]) rfl ?_
          exact H.out
        · have H := Lib.hid (case_endB (E := xs.sum + 1) (c' := c') hRw ((ho4.set_out (p := ⟨w.heap.size + 1, 0, none⟩) (.inl (by simp)) (.int .i64 (xs.sum + 1))).more (Nat.le_refl _) (by simp [World.setCell])) (by omega) (rd4.set_new (p := ⟨w.heap.size + 1, 0, none⟩) (by show R < w.heap.size + 1; omega) (.int .i64 (xs.sum + 1))) hq21 (hcw4.set_new (p := ⟨w.heap.size + 1, 0, none⟩) (by show w.heap.size ≤ w.heap.size + 1; omega) (.int .i64 (xs.sum + 1))) (sm_of HS.out HU.out (by omega) (by omega)))
          go_wp2_with fail
          refine (l1Sum_any A' c' xs _ _ _ ho4.ints hsm).mono ?_
          rintro e w' ⟨rfl, rfl⟩
          go_wp2
          refine bodyPost_ret (v := .agg #[.int .i64 (xs.sum + 1), .slice A' xs.length c']) (by simp [results, Try.results46, go_sem, g3, g4]) rfl ?_
          exact H.out
        · obtain ⟨b, o, rfl, hb1, hb2, hcell, hfz⟩ := ho4.at_ (k := 0) hx0
          rw [Nat.add_zero] at hcell hfz
          have rd4a := (rd4.alloc (.cells #[.int .i64 (-1), .int .i64 13] 3)).drew
          go_wp2_with fail
          go_region_law (first
              | (go_simp
                 go_at_call 41
                 refine (pick_to R A c bs (q3 + 1) 2 _ (by first | exact rd4.drew | exact rd4a) (by omega) (by omega) hl (by omega)).mono ?_
                 rintro e w5 ⟨p, rfl, hp5, hp5', rd5, hch5'⟩
                 have hch5 : Chg R (R + 1) w4 w5 := by first | exact hch5'.of_drew | exact (Chg.alloc _ _).trans hch5'.of_drew
                 have bx05 := bx04.chg hch5 (by omega)
                 have bx15 := bx14.chg hch5 (by omega)
                 have ho5 := ho4.chg hch5 (Nat.le_refl _) (by omega)
                 have hcw5 := hcw4.trans hch5
                 have z5 := hch5.size
                 have cC := bx15.c1
                 have cE := bx15.c0
                 have k1 := bx05.c0
                 have k2 := bx05.c1
                 have k3 := bx05.f0
                 have k4 := bx05.f1
                 have k5 := bx05.lt
                 have k6 := bx15.lt
                 have k7 : w5.cell? ⟨b, o, none⟩ = some (.int .i64 (xs[0]'hx0)) := (hch5.cell (p := ⟨b, o, none⟩) hb2 (by show ¬ (R ≤ b ∧ b < R + 1); omega)).trans hcell
                 have k8 : w5.frozen? ⟨b, o, none⟩ = false := (hch5.frozen (p := ⟨b, o, none⟩) hb2 (by show ¬ (R ≤ b ∧ b < R + 1); omega)).trans hfz
                 have k9 : b < w5.heap.size := by omega
                 obtain ⟨u, hub, hu, hu2⟩ := two_atB p hp5 hp5'
                 (try have hu1 : w5.cell? ⟨w4.heap.size, p.toNat, none⟩ = some (.int .i64 u) := (hch5'.cell (p := ⟨w4.heap.size, p.toNat, none⟩) (by simp) (by show ¬ (R ≤ w4.heap.size ∧ w4.heap.size < R + 1); omega)).trans ((World.cell?_alloc_at (w := w4) #[.int .i64 (-1), .int .i64 13] 3 w4.heap.size p.toNat rfl).trans hu))))
          all_goals
            have ho6 := ho5.stored hx0 u
            rw [Nat.add_zero] at ho6
            have H0 := case_endB (E := E) (c' := c') hRw (ho6.more (Nat.le_refl _) (by simpa [World.setCell] using z5)) (by rw [List.length_set]; omega) (rd5.set_new (p := ⟨b, o, none⟩) (by show R < b; omega) (.int .i64 u)) (by omega : q3 + 1 + 1 ≤ q + 20) (hcw5.set_new (p := ⟨b, o, none⟩) (by show w.heap.size ≤ b; omega) (.int .i64 u)) (sm_set (sm_of HS.out HU.out (by omega) (by omega)) hub)
            rw [List.length_set] at H0
            have H := Lib.hid H0
            clear H0 ho6 ho5 ho4 hcw4 hcw5 hch5 hch5' rd4 rd4a rd5 bx04 bx14 bx05 bx15
            go_wp2
            refine bodyPost_ret (v := .agg #[.int .i64 E, .slice (some ⟨b, o, none⟩) xs.length c']) (by simp [results, Try.results46, go_sem, k1, k2, k5]) rfl ?_
            first | exact H.out | exact H.out.alloc _
        · have hz5 : ((w4.setCell ⟨w.heap.size + 1, 1, none⟩ (.slice (some ⟨w4.heap.size, 0, none⟩) 5 5)).setCell ⟨w.heap.size + 1, 0, none⟩ (.int .i64 2)).heap.size = w4.heap.size := by simp [World.setCell]
          have H0 := case_newB (q := q) (E := 2) (wf := (w4.setCell ⟨w.heap.size + 1, 1, none⟩ (.slice (some ⟨w4.heap.size, 0, none⟩) 5 5)).setCell ⟨w.heap.size + 1, 0, none⟩ (.int .i64 2)) [1, 1, 1, 1, 1] hRw (by simp) (by rw [hz5]; omega)
            ((rd4.set_new (p := ⟨w.heap.size + 1, 1, none⟩) (by show R < w.heap.size + 1; omega) _).set_new (p := ⟨w.heap.size + 1, 0, none⟩) (by show R < w.heap.size + 1; omega) _) hq21
            ((hcw4.set_new (p := ⟨w.heap.size + 1, 1, none⟩) (by show w.heap.size ≤ w.heap.size + 1; omega) _).set_new (p := ⟨w.heap.size + 1, 0, none⟩) (by show w.heap.size ≤ w.heap.size + 1; omega) _) sm_five
          rw [hz5] at H0
          have H := Lib.hid H0
          clear H0 hz5
          go_wp2
          refine bodyPost_ret (v := .agg #[.int .i64 2, .slice (some ⟨w4.heap.size, 0, none⟩) 5 5]) (by simp [results, Try.results46, go_sem, g3, g4, g10]) rfl ?_
          exact H.out

end Go.Proofs.Ytbegdcnljafloaa
namespace Go.Proofs.Ytbegdcnljafloaa
open Go.RowKit

/-- What a function leaves that draws a case. -/
def DrawnCase (w : World) (e : Ending) (w' : World) : Prop :=
  ∃ E A' c', ∃ xs : List Int, xs.length ≤ 5 ∧ e = .returned (.agg #[.int .i64 E, .slice A' xs.length c']) ∧ Own w' w.heap.size w'.heap.size A' xs ∧ Below w.heap.size w w'

end Go.Proofs.Ytbegdcnljafloaa
namespace Go.Proofs.Ytbegdcnljafloaa
open Go.RowKit

theorem own_some {w : World} {B : Nat} {e : TypeId} {v : Value} {n : Nat} {xs : List Value} (h : w.ownsRow B e 1 v n xs) (hv : ¬ v = .slice none 0 0) : ∃ g cap, v = .slice (some ⟨g, 0, none⟩) n cap ∧ B ≤ g ∧ g < w.heap.size ∧ n ≤ cap := by
  rcases h.2 with ⟨h1, _⟩ | ⟨g, cap, cur, hv', hb, hg, hnc, _⟩
  · exact absurd h1 hv
  · refine ⟨g, cap, hv', hb, ?_, hnc⟩
    rw [hv'] at h
    exact (h.lt g rfl).2
theorem own_lower {w : World} {B B' : Nat} {e : TypeId} {v : Value} {n : Nat} {xs : List Value} (h : w.ownsRow B e 1 v n xs) (hB : B' ≤ B) : w.ownsRow B' e 1 v n xs := by
  refine ⟨h.1, ?_⟩
  rcases h.2 with h1 | ⟨g, cap, cur, hv', hb, r⟩
  · exact .inl h1
  · exact .inr ⟨g, cap, cur, hv', Nat.le_trans hB hb, r⟩
/-- The numbers of an owned row, read from a place on. -/
theorem own_news {w : World} {B : Nat} {e : TypeId} {g n cap : Nat} {xs : List Int} (h : w.ownsRow B e 1 (.slice (some ⟨g, 0, none⟩) n cap) n (ints xs)) (a : Nat) (ys : List Int) (hy : ∀ j, j < ys.length → a + j < n ∧ xs.getD (a + j) 0 = ys.getD j 0) :
    ∀ j u, (ints ys)[j]? = some u → w.cell? ((⟨g, a, none⟩ : Addr).add j) = some u := fun j u hu => by
  have hj : j < ys.length := by
    have := (List.getElem?_eq_some_iff.1 hu).1
    rwa [ints_length] at this
  obtain ⟨h1, h2⟩ := hy j hj
  have hl : n = xs.length := by have := h.1; rw [ints_length] at this; omega
  rw [ints_at ys j hj] at hu
  rw [addr_add, h.cellAt (a + j) (by omega), ints_at xs (a + j) (by omega), h2]
  exact hu

/-- What an append to another row leaves of the row at g, and of the reader. -/
theorem append_keep {w w' : World} {R g k cap B : Nat} {A : Option Addr} {c : Nat} {bs : List Int} {q : Nat} {os : List Int} {o : Obj} {n' c' gv : Nat} (own : w.ownsRow B 3 1 (.slice (some ⟨g, 0, none⟩) k cap) k (ints os)) (rd : Rd w R A c bs q) (hR : R < gv)
    (hgr : (w.alloc o).grownBy w' (Value.ownBlock (.slice (some ⟨gv, 0, none⟩) n' c'))) (hne : g ≠ gv) :
    w'.ownsRow B 3 1 (.slice (some ⟨g, 0, none⟩) k cap) k (ints os) ∧ Rd w' R A c bs q ∧ w.heap.size + 1 ≤ w'.heap.size := by
  have z := hgr.size
  rw [hsz] at z
  exact ⟨(own.alloc o).kept hgr (.inr (fun e => hne (Option.some.inj e))), (rd.alloc o).of_block (fun i hi => hgr.block i (by rw [hsz]; have := rd.lt; omega) (fun e => by have e' : i = gv := Option.some.inj e; omega)) (by rw [hsz]; exact z), z⟩

/-- What the drawing of an order leaves. -/
def OrderTo (w : World) (R : Nat) (A : Option Addr) (c : Nat) (bs : List Int) (q many : Nat) (n : Int) (e : Ending) (w' : World) : Prop :=
  ∃ A' c', ∃ os : List Int, e = .returned (.slice A' os.length c') ∧ Own w' w.heap.size w'.heap.size A' os ∧ os.length ≤ many + 1 ∧ (n = 0 → os.length = many ∧ ∀ x ∈ os, 0 ≤ x ∧ x < many) ∧ (∃ q', q' ≤ q + many + 1 ∧ Rd w' R A c bs q') ∧ Chg R (R + 1) w w'

/-- What holds between the numbers that are drawn. -/
def OMid (w : World) (R : Nat) (A : Option Addr) (c : Nat) (bs : List Int) (q k : Nat) (v : Value) (wr : World) : Prop :=
  ∃ g cap, ∃ os : List Int, v = .slice (some ⟨g, 0, none⟩) k cap ∧ os.length = k ∧ (∀ x ∈ os, 0 ≤ x ∧ x < k) ∧ k ≤ cap ∧ wr.ownsRow w.heap.size 3 1 (.slice (some ⟨g, 0, none⟩) k cap) k (ints os) ∧ Rd wr R A c bs (q + k) ∧ Chg R (R + 1) w wr ∧ w.heap.size ≤ wr.heap.size

theorem Chg.grow {w u u' : World} {lo hi gv n' c' : Nat} (h : Chg lo hi w u) (hg : u.grownBy u' (Value.ownBlock (.slice (some ⟨gv, 0, none⟩) n' c'))) (hgv : w.heap.size ≤ gv) : Chg lo hi w u' :=
  ⟨hg.os.trans h.os, hg.tape.trans h.tape, hg.output.trans h.output, Nat.le_trans h.size hg.size, fun k hk hn => (hg.block k (Nat.lt_of_lt_of_le hk h.size) (fun e => by have e' : k = gv := Option.some.inj e; omega)).trans (h.block k hk hn)⟩
theorem Rd.grow {u u' : World} {R : Nat} {A : Option Addr} {c : Nat} {bs : List Int} {q gv n' c' : Nat} (h : Rd u R A c bs q) (hg : u.grownBy u' (Value.ownBlock (.slice (some ⟨gv, 0, none⟩) n' c'))) (hR : R < gv) : Rd u' R A c bs q :=
  h.of_block (fun i hi => hg.block i (by have := h.lt; omega) (fun e => by have e' : i = gv := Option.some.inj e; omega)) hg.size
theorem order_step {w wr w2 w3 w4 w5 : World} {R : Nat} {A : Option Addr} {c : Nat} {bs : List Int} {q k a n5 g1 g2 g3 cap3 n1 c1 n2 c2 : Nat} {os : List Int} {o o' : Obj} (hol : os.length = k) (hos : ∀ x ∈ os, 0 ≤ x ∧ x < (k : Int)) (hak : a ≤ k) (hn5 : n5 = k + 1)
    (hown5 : w5.ownsRow w2.heap.size 3 1 (.slice (some ⟨g3, 0, none⟩) n5 cap3) n5 (ints (os.take a) ++ [.int .i64 (k : Int)] ++ ints (os.drop a))) (hcp3 : n5 ≤ cap3) (rd4 : Rd w4 R A c bs (q + k + 1)) (hch : Chg R (R + 1) w wr) (hch2 : Chg R (R + 1) wr w2) (hRw : R < w.heap.size)
    (hgrow3 : (w2.alloc o).grownBy w3 (Value.ownBlock (.slice (some ⟨w2.heap.size, 0, none⟩) 0 0))) (hgrow4 : (w3.alloc o').grownBy w4 (Value.ownBlock (.slice (some ⟨g1, 0, none⟩) n1 c1))) (hgrow5 : w4.grownBy w5 (Value.ownBlock (.slice (some ⟨g2, 0, none⟩) n2 c2))) (hg1 : w2.heap.size ≤ g1) (hg2 : w2.heap.size ≤ g2) :
    OMid w R A c bs q (k + 1) (.slice (some ⟨g3, 0, none⟩) n5 cap3) w5 := by
  subst hn5
  have z : w.heap.size ≤ w2.heap.size := (hch.trans hch2).size
  refine ⟨g3, cap3, os.take a ++ [(k : Int)] ++ os.drop a, rfl, by simp; omega, ?_, hcp3, ?_, rd4.grow hgrow5 (by omega), ?_, ?_⟩
  · intro x hx
    rcases List.mem_append.1 hx with hx | hx
    · rcases List.mem_append.1 hx with hx | hx
      · have := hos x (List.mem_of_mem_take hx); omega
      · simp at hx; omega
    · have := hos x (List.mem_of_mem_drop hx); omega
  · have e : ints (os.take a ++ [(k : Int)] ++ os.drop a) = ints (os.take a) ++ [.int .i64 (k : Int)] ++ ints (os.drop a) := by simp [ints]
    rw [e]
    exact own_lower hown5 z
  · exact ((((hch.trans hch2).trans (Chg.alloc _ o)).grow hgrow3 z).trans (Chg.alloc _ o')).grow hgrow4 (by omega) |>.grow hgrow5 (by omega)
  · have z3 := hgrow3.size
    have z4 := hgrow4.size
    rw [hsz] at z3 z4
    have z5 := hgrow5.size
    omega
theorem odd_zero (R : Nat) (w : World) :
    Calls Try.prog 67 #[.pointer (some ⟨R, 0, none⟩), .int .i64 0] w (fun e w' => e = .returned (.bool false) ∧ w' = w) := by
  go_enter Try.func67, Try.ntmps67
  go_wp2
  go_ret
  exact ⟨rfl, rfl⟩
theorem drawnOrder_end {w w' : World} {R : Nat} {A : Option Addr} {c : Nat} {bs : List Int} {q many k g cap q' : Nat} {n : Int} {os : List Int} (own : w'.ownsRow w.heap.size 3 1 (.slice (some ⟨g, 0, none⟩) k cap) k (ints os)) (hl : os.length = k) (hk : k ≤ many + 1) (h0 : n = 0 → k = many ∧ ∀ x ∈ os, 0 ≤ x ∧ x < (many : Int)) (hq : q' ≤ q + many + 1) (rd : Rd w' R A c bs q') (hch : Chg R (R + 1) w w') :
    OrderTo w R A c bs q many n (.returned (.slice (some ⟨g, 0, none⟩) k cap)) w' := by
  subst hl
  obtain ⟨A', c', e, _, ho⟩ := own_of_row own
  exact ⟨A', c', os, by rw [e], ho, hk, h0, ⟨q', hq, rd⟩, hch⟩

set_option maxRecDepth 100000 in
set_option maxRecDepth 10000 in
set_option maxHeartbeats 2000000 in
theorem l20Order_any (R : Nat) (A : Option Addr) (c : Nat) (bs : List Int) (q many : Nat) (n : Int) (w : World) (h : Rd w R A c bs q) (hm : many ≤ 5) (hn : 0 ≤ n) (hn' : n ≤ 1000000) (hl : bs.length ≤ 2000) (hq : q ≤ 100000) :
    Calls Try.prog 70 #[.pointer (some ⟨R, 0, none⟩), .int .i64 (many : Int), .int .i64 n] w (OrderTo w R A c bs q many n) := by
  obtain ⟨i0, hi0, hq0, hq1, hq2⟩ := info_parts info_int
  have hRw := h.lt
  have mid0 : OMid w R A c bs q 0 (.slice (some ⟨w.heap.size, 0, none⟩) 0 0) (w.alloc (.cells #[] 3)) :=
    ⟨w.heap.size, 0, [], rfl, rfl, by simp, Nat.le_refl _, World.ownsRow_made w #[] 0 (Nat.le_refl _) (by unfold maxLen; omega) rfl, h.alloc _, Chg.alloc _ _, by simp⟩
  go_enter Try.func70, Try.ntmps70
  go_wp2
  go_loopw [7, 8] (fun v i wr => ∃ k : Nat, k ≤ many ∧ i = .int .i64 k ∧ OMid w R A c bs q k v wr) (fun _ i _ => many - (intOf i).toNat)
  case atStart => exact ⟨0, Nat.zero_le _, rfl, mid0⟩
  case round =>
    obtain ⟨k, hk, rfl, hmid⟩ := hrel
    clear mid0
    obtain ⟨g, cap, os, rfl, hol, hos, hkc, hown, rd, hch, hsz'⟩ := hmid
    have HOL := Lib.hid hol
    clear hol
    by_cases hlt : k < many
    · have hl1 : (1 : Int) ≤ (k : Int) + 1 := by omega
      have hl2 : (k : Int) + 1 ≤ 1000000 := by omega
      have hm5 : (k : Int) < (many : Int) := by omega
      go_wp2_with fail
      refine (pick_to R A c bs (q + k) ((k : Int) + 1) _ rd hl1 hl2 hl (by omega)).mono ?_
      rintro e w2 ⟨at_, rfl, hat0, hat1, rd2, hch2⟩
      obtain ⟨a, rfl⟩ := Int.eq_ofNat_of_zero_le hat0
      have hak : a ≤ k := by omega
      have z2 := hch2.size
      have own2 := own_kept hown hch2 hRw
      have hgw : g < w2.heap.size := (own2.lt g rfl).2
      have e1 : (w2.alloc (.cells #[] 3)).ownsRow w2.heap.size 3 1 (.slice (some ⟨w2.heap.size, 0, none⟩) 0 0) 0 [] := World.ownsRow_made w2 #[] 0 (Nat.le_refl _) (by unfold maxLen; omega) rfl
      have own2a := own2.alloc (.cells #[] 3)
      have ht1 : Hid ((os.take a).length = a) := by show _ = _; rw [List.length_take, HOL.out]; omega
      have hl1' : Hid ((ints (os.take a)).length = a * 1) := by show _ = _; rw [ints_length, ht1.out, Nat.mul_one]
      have n1 := own_news own2a 0 (os.take a) (fun j hj => by
        rw [ht1.out] at hj
        exact ⟨by omega, by simp [List.getD, hj]⟩)
      have o1 := ints_one (os.take a)
      have s1 : w2.heap.size ≤ (w2.alloc (.cells #[] 3)).heap.size := by rw [hsz]; omega
      have cc1 : ¬ ((cap : Int) < (a : Int)) := by omega
      clear hown hat0 hat1 rd
      by_cases hca : cap = a
      · obtain rfl : k = cap := by omega
        obtain rfl : k = a := by omega
        clear hca
        have hkk : k - k = 0 := Nat.sub_self k
        go_wp2_with (first
          | (at_builtin; (
             refine wpList_append_own _ rfl (.tmp 22) (.tmp 25) 29 rfl w2.heap.size 3 i0 (.int .i64 0) 1 8 Try.underlying29 hi0 hq0 hq1 hq2 rfl (by decide) _ _ _ rfl e1 ⟨g, 0, none⟩ k k (ints (os.take k)) rfl hl1'.out n1 o1 (by unfold maxLen; omega) (by omega) s1 ?_
             intro v1 w3 hown3 hgrow3 hnil3
             simp only [Nat.zero_add, List.nil_append] at hown3
             obtain ⟨g1, cap1, rfl, hg1, hg1', hcp1⟩ := own_some hown3 (fun e => by have := (hnil3.1 e).1; cases this)
             obtain ⟨own3, rd3, z3⟩ := append_keep own2 rd2 (by omega) hgrow3 (by omega)
             have e3 := hown3.alloc (.cells #[.int .i64 (k : Int)] 3)
             have n3 := news_one w3 (k : Int) 3
             have o3 := one_cell (k : Int)
             have s3 : w2.heap.size ≤ (w3.alloc (.cells #[.int .i64 (k : Int)] 3)).heap.size := by rw [hsz]; omega))
          | (at_builtin; (
             refine wpList_append_own _ rfl (.tmp 27) (.tmp 29) 29 rfl w2.heap.size 3 i0 (.int .i64 0) 1 8 Try.underlying29 hi0 hq0 hq1 hq2 rfl (by decide) _ _ _ rfl e3 ⟨w3.heap.size, 0, none⟩ 1 1 [.int .i64 (k : Int)] rfl rfl n3 o3 (by unfold maxLen; omega) (by omega) s3 ?_
             intro v2 w4 hown4 hgrow4 hnil4
             obtain ⟨g2, cap2, rfl, hg2, hg2', hcp2⟩ := own_some hown4 (fun e => by have := (hnil4.1 e).2; cases this)
             obtain ⟨own4, rd4, z4⟩ := append_keep own3 rd3 (by omega) hgrow4 (by omega)
             have n4 := own_news own4 0 (os.drop k) (fun j hj => by
               rw [List.length_drop, HOL.out] at hj
               exact ⟨by omega, by omega⟩)
             have o4 := ints_one (os.drop k)
             have hl4 : Hid ((ints (os.drop k)).length = 0 * 1) := by show _ = _; rw [ints_length, List.length_drop, HOL.out, hkk]
             have s4 : w2.heap.size ≤ w4.heap.size := by omega))
          | (at_builtin; go_loud (refine wpList_append_own _ rfl (.tmp 31) (.tmp 34) 29 rfl w2.heap.size 3 i0 (.int .i64 0) 1 8 Try.underlying29 hi0 hq0 hq1 hq2 rfl (by decide) _ _ _ rfl hown4 ⟨g, 0, none⟩ 0 0 (ints (os.drop k)) rfl hl4.out n4 o4 (by unfold maxLen; omega) (by omega) s4 ?_; intro v3 w5 hown5 hgrow5 hnil5)))
        obtain ⟨g3, cap3, rfl, hg3, hg3', hcp3⟩ := own_some hown5 (fun e => by have := (hnil5.1 e).1; cases this)
        have hl5 : Hid (k + 1 + 0 = k + 1) := by show _ = _; omega
        have HM := Lib.hid (order_step HOL.out hos (Nat.le_refl _) hl5.out hown5 hcp3 rd4 hch hch2 hRw hgrow3 hgrow4 hgrow5 hg1 hg2)
        clear own2 own2a own3 own4 rd2 rd3 rd4 hown3 hown4 hown5 hgrow3 hgrow4 hgrow5 e1 e3
        refine ⟨⟨k + 1, by omega, by rw [Int.natCast_add]; rfl, ?_⟩, by simp [intOf]; omega⟩
        exact HM.out
      · have hcb : (cap = a) = False := by simp [hca]
        go_wp2_with (first
          | (at_builtin; (
             refine wpList_append_own _ rfl (.tmp 22) (.tmp 25) 29 rfl w2.heap.size 3 i0 (.int .i64 0) 1 8 Try.underlying29 hi0 hq0 hq1 hq2 rfl (by decide) _ _ _ rfl e1 ⟨g, 0, none⟩ a cap (ints (os.take a)) rfl hl1'.out n1 o1 (by unfold maxLen; omega) (by omega) s1 ?_
             intro v1 w3 hown3 hgrow3 hnil3
             simp only [Nat.zero_add, List.nil_append] at hown3
             obtain ⟨g1, cap1, rfl, hg1, hg1', hcp1⟩ := own_some hown3 (fun e => by have := (hnil3.1 e).1; cases this)
             obtain ⟨own3, rd3, z3⟩ := append_keep own2 rd2 (by omega) hgrow3 (by omega)
             have e3 := hown3.alloc (.cells #[.int .i64 (k : Int)] 3)
             have n3 := news_one w3 (k : Int) 3
             have o3 := one_cell (k : Int)
             have s3 : w2.heap.size ≤ (w3.alloc (.cells #[.int .i64 (k : Int)] 3)).heap.size := by rw [hsz]; omega))
          | (at_builtin; (
             refine wpList_append_own _ rfl (.tmp 27) (.tmp 29) 29 rfl w2.heap.size 3 i0 (.int .i64 0) 1 8 Try.underlying29 hi0 hq0 hq1 hq2 rfl (by decide) _ _ _ rfl e3 ⟨w3.heap.size, 0, none⟩ 1 1 [.int .i64 (k : Int)] rfl rfl n3 o3 (by unfold maxLen; omega) (by omega) s3 ?_
             intro v2 w4 hown4 hgrow4 hnil4
             obtain ⟨g2, cap2, rfl, hg2, hg2', hcp2⟩ := own_some hown4 (fun e => by have := (hnil4.1 e).2; cases this)
             obtain ⟨own4, rd4, z4⟩ := append_keep own3 rd3 (by omega) hgrow4 (by omega)
             have n4 := own_news own4 a (os.drop a) (fun j hj => by
               rw [List.length_drop, HOL.out] at hj
               exact ⟨by omega, by simp [List.getD, List.getElem?_drop]⟩)
             have o4 := ints_one (os.drop a)
             have hl4 : Hid ((ints (os.drop a)).length = (k - a) * 1) := by show _ = _; rw [ints_length, List.length_drop, HOL.out, Nat.mul_one]
             have s4 : w2.heap.size ≤ w4.heap.size := by omega))
          | (at_builtin; (refine wpList_append_own _ rfl (.tmp 31) (.tmp 34) 29 rfl w2.heap.size 3 i0 (.int .i64 0) 1 8 Try.underlying29 hi0 hq0 hq1 hq2 rfl (by decide) _ _ _ rfl hown4 ⟨g, a, none⟩ (k - a) (cap - a) (ints (os.drop a)) rfl hl4.out n4 o4 (by unfold maxLen; omega) (by omega) s4 ?_; intro v3 w5 hown5 hgrow5 hnil5)))
        obtain ⟨g3, cap3, rfl, hg3, hg3', hcp3⟩ := own_some hown5 (fun e => by have := (hnil5.1 e).1; cases this)
        have hl5 : Hid (a + 1 + (k - a) = k + 1) := by show _ = _; omega
        have HM := Lib.hid (order_step HOL.out hos hak hl5.out hown5 hcp3 rd4 hch hch2 hRw hgrow3 hgrow4 hgrow5 hg1 hg2)
        clear own2 own2a own3 own4 rd2 rd3 rd4 hown3 hown4 hown5 hgrow3 hgrow4 hgrow5 e1 e3
        refine ⟨⟨k + 1, by omega, by rw [Int.natCast_add]; rfl, ?_⟩, by simp [intOf]; omega⟩
        exact HM.out
    · obtain rfl : k = many := by omega
      clear hlt
      by_cases hn0 : n = 0
      · subst hn0
        go_wp2_with fail
        refine (odd_zero R _).mono ?_
        rintro e w2 ⟨rfl, rfl⟩
        have H := Lib.hid (drawnOrder_end (q := q) (n := 0) (many := k) (q' := q + k) hown HOL.out (by omega) (fun _ => ⟨rfl, hos⟩) (by omega) rd hch)
        clear hown rd hch
        go_wp2
        go_ret
        exact H.out
      · go_wp2_with fail
        refine (odd_to R A c bs (q + k) n _ rd hn hn' hl (by omega)).mono ?_
        rintro e w2 ⟨b, rfl, ⟨q3, hq3, rd3⟩, hch3⟩
        have own3 := own_kept hown hch3 hRw
        have hch' := hch.trans hch3
        clear hown rd hch
        cases b
        · have H := Lib.hid (drawnOrder_end (q := q) (n := n) (many := k) (q' := q3) own3 HOL.out (by omega) (fun e => absurd e hn0) (by omega) rd3 hch')
          clear own3 rd3 hch' hch3
          go_wp2
          go_ret
          exact H.out
        · have e3 := own3.alloc (.cells #[.int .i64 0] 3)
          have n3 := news_one w2 0 3
          have o3 := one_cell 0
          have s3 : w.heap.size ≤ (w2.alloc (.cells #[.int .i64 0] 3)).heap.size := by rw [hsz]; have := hch'.size; omega
          have rd3a := rd3.alloc (.cells #[.int .i64 0] 3)
          have hcha := hch'.trans (Chg.alloc _ (.cells #[.int .i64 0] 3))
          have hgg := (own3.lt g rfl).1
          go_wp2_with (at_builtin; go_loud (refine wpList_append_own _ rfl (.tmp 39) (.tmp 40) 29 rfl w.heap.size 3 i0 (.int .i64 0) 1 8 Try.underlying29 hi0 hq0 hq1 hq2 rfl (by decide) _ _ _ rfl e3 ⟨w2.heap.size, 0, none⟩ 1 1 [.int .i64 0] rfl rfl n3 o3 (by unfold maxLen; omega) (by omega) s3 ?_; intro v4 w4 hown4 hgrow4 hnil4))
          obtain ⟨g4, cap4, rfl, hg4, hg4', hcp4⟩ := own_some hown4 (fun e => by have := (hnil4.1 e).2; cases this)
          have e4 : ints os ++ [.int .i64 0] = ints (os ++ [0]) := by simp [ints]
          rw [e4] at hown4
          have H := Lib.hid (drawnOrder_end (q := q) (n := n) (many := k) (q' := q3) hown4 (by simp [HOL.out]) (by omega) (fun e => absurd e hn0) (by omega) (rd3a.grow hgrow4 (by omega)) (hcha.grow hgrow4 hgg))
          clear hown4 own3 rd3 rd3a hcha hgrow4 hch' hch3 e3
          try go_wp2
          try go_ret
          exact H.out

end Go.Proofs.Ytbegdcnljafloaa
namespace Go.Proofs.Ytbegdcnljafloaa
open Go.RowKit

/-- What the drawing of awards leaves. -/
def AwardsTo (w : World) (R : Nat) (A : Option Addr) (c : Nat) (bs : List Int) (q : Nat) (e : Ending) (w' : World) : Prop :=
  ∃ A' c', ∃ ys : List Int, e = .returned (.slice A' ys.length c') ∧ Own w' w.heap.size w'.heap.size A' ys ∧ ys.length ≤ 5 ∧ (∀ y ∈ ys, -1 ≤ y ∧ y ≤ 1000) ∧ (∃ q', q' ≤ q + 20 ∧ Rd w' R A c bs q') ∧ Chg R (R + 1) w w'

/-- What holds while awards are drawn. -/
structure AMid (w : World) (R : Nat) (A : Option Addr) (c : Nat) (bs : List Int) (E : Int) (A1 : Option Addr) (c1 : Nat) (xs : List Int) (D : Option Addr) (os : List Int) (lo hi S Q : Nat) (ys : List Int) (wr : World) : Prop where
  box : Box wr w.heap.size (.int .i64 E) (.slice A1 xs.length c1)
  kx : Ints wr lo hi A1 xs
  ko : Ints wr (w.heap.size + 2) S D os
  row : wr.ownsRow (w.heap.size + 1) 3 1 (.slice (some ⟨w.heap.size + 1, 0, none⟩) xs.length xs.length) xs.length (ints ys)
  rd : ∃ q', q' ≤ Q ∧ Rd wr R A c bs q'
  ch : Chg R (R + 1) w wr
  sz : S ≤ wr.heap.size
  sm : ∀ y ∈ ys, 0 ≤ y ∧ y ≤ 700
section
variable {w wr w' : World} {R : Nat} {A : Option Addr} {c : Nat} {bs : List Int} {E : Int} {A1 : Option Addr} {c1 : Nat} {xs : List Int} {D : Option Addr} {os : List Int} {lo hi S Q : Nat} {ys : List Int}
theorem AMid.len (h : AMid w R A c bs E A1 c1 xs D os lo hi S Q ys wr) : ys.length = xs.length := by have := h.row.1; rw [ints_length] at this; omega
theorem AMid.more {Q' : Nat} (h : AMid w R A c bs E A1 c1 xs D os lo hi S Q ys wr) (hq : Q ≤ Q') : AMid w R A c bs E A1 c1 xs D os lo hi S Q' ys wr :=
  ⟨h.box, h.kx, h.ko, h.row, by obtain ⟨q, h1, h2⟩ := h.rd; exact ⟨q, by omega, h2⟩, h.ch, h.sz, h.sm⟩
theorem AMid.drewN (h : AMid w R A c bs E A1 c1 xs D os lo hi S Q ys wr) (n : Nat) : AMid w R A c bs E A1 c1 xs D os lo hi S Q ys (wr.drewN n) :=
  ⟨⟨h.box.c0, h.box.c1, h.box.f0, h.box.f1, h.box.lt⟩, h.kx, h.ko, h.row, by obtain ⟨q, h1, h2⟩ := h.rd; exact ⟨q, h1, ⟨h2.s, h2.p, h2.f, h2.b, h2.lt⟩⟩, ⟨h.ch.os, h.ch.tape, h.ch.output, h.ch.size, h.ch.block⟩, h.sz, h.sm⟩
theorem AMid.pick {q' : Nat} (h : AMid w R A c bs E A1 c1 xs D os lo hi S Q ys wr) (hR : R < w.heap.size) (hlo : R + 1 ≤ lo) (hhi : hi ≤ w.heap.size) (hc : Chg R (R + 1) wr w') (rd : Rd w' R A c bs q') (hq : q' ≤ Q + 1) :
    AMid w R A c bs E A1 c1 xs D os lo hi S (Q + 1) ys w' := by
  have hz := h.ch.size
  have hs := h.sz
  exact ⟨h.box.chg hc (by omega), h.kx.chg hc (by omega) (.inr (by omega)), h.ko.chg hc hs (.inr (by omega)), own_kept h.row hc (by omega), ⟨q', hq, rd⟩, h.ch.trans hc, Nat.le_trans hs hc.size, h.sm⟩
theorem AMid.store {p : Nat} (h : AMid w R A c bs E A1 c1 xs D os lo hi S Q ys wr) (hR : R < w.heap.size) (hhi : hi ≤ w.heap.size) (v : Int) (hv : 0 ≤ v ∧ v ≤ 700) :
    AMid w R A c bs E A1 c1 xs D os lo hi S Q (ys.set p v) (wr.setCell ⟨w.heap.size + 1, p, none⟩ (.int .i64 v)) := by
  have hs := h.sz
  refine ⟨h.box.far (by show w.heap.size ≠ w.heap.size + 1; omega) _, h.kx.set_out (.inr (by show hi ≤ w.heap.size + 1; omega)) _, h.ko.set_out (.inl (by show w.heap.size + 1 < _; omega)) _, ?_, ?_, h.ch.set_new (by show w.heap.size ≤ w.heap.size + 1; omega) _, by simp [World.setCell]; exact hs, ?_⟩
  · rw [ints_set]; exact (h.row.stored p (.int .i64 v)).1
  · obtain ⟨q, h1, h2⟩ := h.rd; exact ⟨q, h1, h2.set_new (by show R < w.heap.size + 1; omega) _⟩
  · intro y hy
    rcases List.mem_or_eq_of_mem_set hy with hy | hy
    · exact h.sm y hy
    · rw [hy]; exact hv
end
theorem getD_rg {ys : List Int} {lo hi : Int} (h : ∀ y ∈ ys, lo ≤ y ∧ y ≤ hi) (h0 : lo ≤ 0 ∧ 0 ≤ hi) (p : Nat) : lo ≤ ys.getD p 0 ∧ ys.getD p 0 ≤ hi := by
  by_cases hp : p < ys.length
  · rw [getD_of_lt ys p hp]; exact h _ (List.getElem_mem hp)
  · simp [List.getD, List.getElem?_eq_none (Nat.le_of_not_lt hp)]; exact h0
theorem eighth (r v : Int) (h0 : 0 < r) (h1 : r ≤ 3000) (hv0 : 0 ≤ v) (hv : v < 9) : IntKind.i64.wrap (r * v) = r * v ∧ IntKind.i64.wrap ((r * v).tdiv 8) = r * v / 8 ∧ 0 ≤ r * v / 8 ∧ r * v / 8 ≤ r := by
  rcases (show v = 0 ∨ v = 1 ∨ v = 2 ∨ v = 3 ∨ v = 4 ∨ v = 5 ∨ v = 6 ∨ v = 7 ∨ v = 8 from by omega) with rfl | rfl | rfl | rfl | rfl | rfl | rfl | rfl | rfl <;>
    (refine ⟨IntWalk.i64_in _ (by omega), ?_, by omega, by omega⟩; rw [Int.tdiv_eq_ediv_of_nonneg (by omega)]; exact IntWalk.i64_in _ (by omega))

theorem l20Order_all (R : Nat) (A : Option Addr) (c : Nat) (bs : List Int) (q many : Nat) (w : World) (h : Rd w R A c bs q) (hm : many ≤ 5) (hl : bs.length ≤ 2000) (hq : q ≤ 100000) :
    Calls Try.prog 70 #[.pointer (some ⟨R, 0, none⟩), .int .i64 (many : Int), .int .i64 0] w fun e w' => ∃ A' c', ∃ os : List Int, e = .returned (.slice A' many c') ∧ Own w' w.heap.size w'.heap.size A' os ∧ os.length = many ∧ (∀ x ∈ os, 0 ≤ x ∧ x < (many : Int)) ∧ (∃ q', q' ≤ q + many + 1 ∧ Rd w' R A c bs q') ∧ Chg R (R + 1) w w' :=
  (l20Order_any R A c bs q many 0 w h hm (Int.le_refl _) (by omega) hl hq).mono fun _ _ ⟨A', c', os, h1, h2, _, h4, h5, h6⟩ => ⟨A', c', os, by rw [h1, (h4 rfl).1], h2, (h4 rfl).1, (h4 rfl).2, h5, h6⟩
theorem awards_end {w w' : World} {R : Nat} {A : Option Addr} {c : Nat} {bs : List Int} {q Q : Nat} {E : Int} {A1 : Option Addr} {c1 : Nat} {xs : List Int} {D : Option Addr} {os : List Int} {lo hi S : Nat} {ys : List Int} (h : AMid w R A c bs E A1 c1 xs D os lo hi S Q ys w') (hQ : Q ≤ q + 20) (hx : xs.length ≤ 5) :
    AwardsTo w R A c bs q (.returned (.slice (some ⟨w.heap.size + 1, 0, none⟩) xs.length xs.length)) w' := by
  have hl := h.len
  have hr := h.row
  rw [← hl] at hr
  obtain ⟨A', c', e, _, ho⟩ := own_of_row hr
  injection e with e1 e2 e3
  subst e1
  obtain ⟨q', h1, h2⟩ := h.rd
  exact ⟨some ⟨w.heap.size + 1, 0, none⟩, xs.length, ys, by rw [hl], ho.more (by omega) (Nat.le_refl _), by omega, fun y hy => by have := h.sm y hy; omega, ⟨q', by omega, h2⟩, h.ch⟩
theorem awards_minus {w w' : World} {R : Nat} {A : Option Addr} {c : Nat} {bs : List Int} {q Q : Nat} {E : Int} {A1 : Option Addr} {c1 : Nat} {xs : List Int} {D : Option Addr} {os : List Int} {lo hi S : Nat} {ys : List Int} (h : AMid w R A c bs E A1 c1 xs D os lo hi S Q ys w') (hQ : Q ≤ q + 20) (hx : xs.length ≤ 5) (hR : R < w.heap.size) (v : Int) (hv : -1 ≤ v ∧ v ≤ 1000) :
    AwardsTo w R A c bs q (.returned (.slice (some ⟨w.heap.size + 1, 0, none⟩) xs.length xs.length)) (w'.setCell ⟨w.heap.size + 1, 0, none⟩ (.int .i64 v)) := by
  have hl := h.len
  have hr := (h.row.stored 0 (.int .i64 v)).1
  rw [← ints_set] at hr
  have hl2 : (ys.set 0 v).length = xs.length := by simpa using hl
  rw [← hl2] at hr
  obtain ⟨A', c', e, _, ho⟩ := own_of_row hr
  injection e with e1 e2 e3
  subst e1
  obtain ⟨q', h1, h2⟩ := h.rd
  refine ⟨some ⟨w.heap.size + 1, 0, none⟩, xs.length, ys.set 0 v, by rw [hl2], ho.more (by omega) (Nat.le_refl _), by omega, fun y hy => ?_, ⟨q', by omega, h2.set_new (by show R < w.heap.size + 1; omega) _⟩, h.ch.set_new (by show w.heap.size ≤ w.heap.size + 1; omega) _⟩
  rcases List.mem_or_eq_of_mem_set hy with hy | hy
  · have := h.sm y hy; omega
  · rw [hy]; exact hv
theorem awards_rest {w w' : World} {R : Nat} {A : Option Addr} {c : Nat} {bs : List Int} {q Q m c2 : Nat} {E : Int} {A1 : Option Addr} {c1 : Nat} {xs : List Int} {D : Option Addr} {os : List Int} {lo hi S : Nat} {ys : List Int} {o2 : Nat} (h : AMid w R A c bs E A1 c1 xs D os lo hi S Q ys w') (hQ : Q ≤ q + 20) (hx : xs.length ≤ 5) (hm : m + 1 = xs.length) (ho : m = 0 ∨ o2 = 1) :
    AwardsTo w R A c bs q (.returned (.slice (some ⟨w.heap.size + 1, o2, none⟩) m c2)) w' := by
  have hl := h.len
  have hlt := (h.row.lt _ rfl).2
  obtain ⟨q', h1, h2⟩ := h.rd
  have hd : (ys.drop 1).length = m := by rw [List.length_drop]; omega
  refine ⟨some ⟨w.heap.size + 1, o2, none⟩, c2, ys.drop 1, by rw [hd], fun h0 => ?_, by omega, fun y hy => by have := h.sm y (List.mem_of_mem_drop hy); omega, ⟨q', by omega, h2⟩, h.ch⟩
  rw [hd] at h0
  have ho2 : o2 = 1 := by omega
  subst ho2
  refine ⟨w.heap.size + 1, 1, rfl, by omega, hlt, fun j hj => ?_, fun j hj => h.row.frozenAt (1 + j)⟩
  rw [hd] at hj
  rw [h.row.cellAt (1 + j) (by omega), ints_at ys (1 + j) (by omega)]
  simp [List.getD, Nat.add_comm]

set_option maxRecDepth 10000 in
set_option maxHeartbeats 8000000 in
theorem l20Awards_any (R : Nat) (A : Option Addr) (c : Nat) (bs : List Int) (q : Nat) (n : Int) (E : Int) (A1 : Option Addr) (c1 : Nat) (xs : List Int) (lo hi : Nat) (w : World) (h : Rd w R A c bs q) (hi1 : Ints w lo hi A1 xs) (hlo : R + 1 ≤ lo) (hhi : hi ≤ w.heap.size) (hx5 : xs.length ≤ 5) (hsm : Sm E xs)
    (hn : 0 ≤ n) (hn' : n ≤ 1000000) (hl : bs.length ≤ 2000) (hq : q ≤ 1000) :
    Calls Try.prog 49 #[.pointer (some ⟨R, 0, none⟩), .agg #[.int .i64 E, .slice A1 xs.length c1], .int .i64 n] w (AwardsTo w R A c bs q) := by
  obtain ⟨i0, hi0, hq0, hq1, hq2⟩ := info_parts info_int
  have hRw := h.lt
  have bx0 := Box.new w (.int .i64 E) (.slice A1 xs.length c1) 31
  have rd0 := h.alloc (.cells #[.int .i64 E, .slice A1 xs.length c1] 31)
  have k0 := hi1.alloc hhi (.cells #[.int .i64 E, .slice A1 xs.length c1] 31)
  have ch0 : Chg R (R + 1) w (w.alloc (.cells #[.int .i64 E, .slice A1 xs.length c1] 31)) := Chg.alloc _ _
  have hz0 := hsz w (.cells #[.int .i64 E, .slice A1 xs.length c1] 31)
  have hsm0 := hsm.1
  have hsm1 := hsm.2.1
  obtain ⟨p0, p1⟩ := And.intro bx0.c0 bx0.c1
  go_enter Try.func49, Try.ntmps49
  go_wp2_with (at_make; refine wpList_make_full _ rfl _ _ _ rfl (w.alloc (.cells #[.int .i64 E, .slice A1 xs.length c1] 31)).heap.size 3 i0 _ 1 Try.underlying29 hi0 hq0 hq1 .i64 .i64 xs.length xs.length xs.length rfl rfl rfl rfl (by rw [hq2]; omega) (by unfold maxLen; omega) (Nat.le_refl _) ?_; intro wm hownm hgrowm; have bm : Below (w.alloc (.cells #[.int .i64 E, .slice A1 xs.length c1] 31)).heap.size (w.alloc (.cells #[.int .i64 E, .slice A1 xs.length c1] 31)) wm := (Below.refl _ _).grown hgrowm (Nat.le_refl _) (by intro k hk; cases hk); clear hgrowm; have bxm := bx0.below bm (by omega); obtain ⟨r0, r1⟩ := And.intro bxm.c0 bxm.c1; have zm := bm.size; rw [hz0] at hownm zm; clear p0 p1)
  have zG : w.heap.size + 1 < wm.heap.size := (hownm.lt _ rfl).2
  refine (l20Order_all R A c bs q xs.length wm (rd0.below bm (by omega)) hx5 hl (by omega)).mono ?_
  rintro e w3 ⟨A3, c3, os, rfl, ho3, hoN, hos, ⟨q3, hq3, rd3⟩, hch3⟩
  have z3 := hch3.size
  have mid0 : AMid w R A c bs E A1 c1 xs A3 os lo hi w3.heap.size (q + 6) (placed [] [] xs.length 0) w3 :=
    ⟨bxm.chg hch3 (by omega), (k0.below bm (by omega)).chg hch3 (by omega) (.inr (by omega)), ho3.ints.more (by omega) (Nat.le_refl _), own_kept (placed_start hownm) hch3 (by omega), ⟨q3, by omega, rd3⟩, (ch0.trans (Chg.of_below bm)).trans hch3, Nat.le_refl _, fun y hy => by
      rw [placed] at hy
      have := (List.mem_replicate.1 hy).2
      omega⟩
  have HXS := Lib.hid hsm.2.2
  have HOS := Lib.hid hos
  clear bxm r0 r1 hownm bm k0 rd0 ch0 bx0 ho3 rd3 hch3 hos h hi1 hsm
  go_wp2
  go_loopw [8, 10] (fun lf t wr => ∃ T : Nat, ∃ L : Int, ∃ ys : List Int, T ≤ 2 ∧ t = .int .i64 T ∧ lf = .int .i64 L ∧ 0 ≤ L ∧ L ≤ 3000 ∧ AMid w R A c bs E A1 c1 xs A3 os lo hi w3.heap.size (q + 6 + 5 * T) ys wr) (fun _ t _ => 2 - (intOf t).toNat)
  case atStart => exact ⟨0, 48 * E, _, by omega, rfl, rfl, by omega, by omega, mid0⟩
  case round =>
    obtain ⟨T, L, ys, hT, rfl, rfl, hL0, hL1, hm⟩ := hrel
    clear mid0
    by_cases hlt : T < 2
    · have hT2 : (T : Int) < 2 := by omega
      have hT3 : decide ((T : Int) < 2) = true := by simp only [decide_eq_true_eq]; exact hT2
      go_wp2
      go_loopw [8, 11] (fun lf j wi => ∃ k : Nat, ∃ L2 : Int, ∃ ys2 : List Int, k ≤ xs.length ∧ j = .int .i64 k ∧ lf = .int .i64 L2 ∧ 0 ≤ L2 ∧ L2 ≤ 3000 ∧ AMid w R A c bs E A1 c1 xs A3 os lo hi w3.heap.size (q + 6 + 5 * T + k) ys2 wi) (fun _ j _ => xs.length - (intOf j).toNat)
      case atStart => exact ⟨0, L, ys, Nat.zero_le _, rfl, rfl, hL0, hL1, hm⟩
      case round =>
        obtain ⟨k, L2, ys2, hk, rfl, rfl, h0, h1, hm2⟩ := hrel
        obtain ⟨wi, rfl⟩ : ∃ x, x = wr := ⟨_, rfl⟩
        clear hm
        by_cases hlk : k < xs.length
        · obtain ⟨b', o', rfl, _, _, hco⟩ := hm2.ko.at_ (k := k) (by rw [hoN]; exact hlk)
          have hop0 := HOS.out _ (List.getElem_mem (show k < os.length by rw [hoN]; exact hlk))
          obtain ⟨p, hop⟩ : ∃ p : Nat, os[k]'(by rw [hoN]; exact hlk) = (p : Int) := ⟨_, (Int.toNat_of_nonneg hop0.1).symm⟩
          rw [hop] at hco hop0
          have hpx : p < xs.length := by omega
          obtain ⟨b, o, rfl, _, _, hcx⟩ := hm2.kx.at_ (k := p) hpx
          have hxr := HXS.out _ (List.getElem_mem hpx)
          have hcy : wi.cell? ⟨w.heap.size + 1, p, none⟩ = some (.int .i64 (ys2.getD p 0)) := by rw [hm2.row.cellAt p (by omega), ints_at _ _ (by rw [hm2.len]; omega)]
          have hyr := getD_rg hm2.sm (by omega) p
          obtain ⟨y, hy⟩ : ∃ y, y = ys2.getD p 0 := ⟨_, rfl⟩
          rw [← hy] at hcy hyr
          have HYP : Hid (ys2.getD p 0 = y) := hy.symm
          clear hy
          generalize xs[p] = x at hcx hxr
          have hb1 := hm2.box.c1
          have hw1 : IntKind.i64.wrap (48 * x) = 48 * x := IntWalk.i64_in _ (by omega)
          have hw2 : IntKind.i64.wrap (48 * x - y) = 48 * x - y := IntWalk.i64_in _ (by omega)
          have hk0 : (0 : Int) ≤ (k : Int) := by omega
          have hk1 : (k : Int) < (xs.length : Int) := by omega
          have hp0 : (0 : Int) ≤ (p : Int) := by omega
          have hp1 : (p : Int) < (xs.length : Int) := by omega
          have hmA := Lib.hid hm2
          clear hm2
          by_cases hmin : 48 * x - y ≤ L2
          · go_wp2_with fail
            go_quiet (fail)
            generalize hW : World.drewN _ _ = W
            have hmW : AMid w R A c bs E (some ⟨b, o, none⟩) c1 xs (some ⟨b', o', none⟩) os lo hi w3.heap.size (q + 6 + 5 * T + k) ys2 W := by rw [← hW]; exact hmA.out.drewN _
            clear hW hmA hcx hcy hb1 hco
            by_cases hT0 : T = 0
            · have hdt : ((T : Int) == 0) = true := by rw [hT0]; rfl
              clear hT0
              by_cases hr0 : 0 < 48 * x - y
              · obtain ⟨q4, hq4, rd4⟩ := hmW.rd
                go_wp2_with fail
                refine (pick_to R A c bs q4 9 _ rd4 (by omega) (by omega) hl (by omega)).mono ?_
                rintro e w4 ⟨v, rfl, hv0, hv1, rd5, hch5⟩
                have hmX := hmW.pick hRw hlo hhi hch5 rd5 (by omega : q4 + 1 ≤ q + 6 + 5 * T + k + 1)
                obtain ⟨W, rfl⟩ : ∃ x, x = w4 := ⟨_, rfl⟩
                clear hmW rd4 rd5 hch5
                have hmW := hmX
                clear hmX
                obtain ⟨e1, e2, e4, e5⟩ := eighth (48 * x - y) v hr0 (by omega) hv0 hv1
                have e1' : IntKind.i64.wrap ((48 * x - y) * v) = (48 * x - y) * v := e1
                have e2' : IntKind.i64.wrap (((48 * x - y) * v).tdiv 8) = (48 * x - y) * v / 8 := e2
                generalize (48 * x - y) * v / 8 = r' at e2 e2' e4 e5
                by_cases hr9 : 0 < r'
                · have HY : Hid (0 ≤ y + r' ∧ y + r' ≤ 700) := by show _ ∧ _; omega
                  have hws : IntKind.i64.wrap (y + r') = y + r' := IntWalk.i64_in _ (by omega)
                  have H := Lib.hid (((hmW.drewN 1).store (p := p) hRw hhi (y + r') HY.out).more (by omega : q + 6 + 5 * T + k + 1 ≤ q + 6 + 5 * T + (k + 1)))
                  have g0 := hmW.row.frozenAt p
                  have g1 : W.cell? ⟨w.heap.size + 1, p, none⟩ = some (.int .i64 y) := by rw [hmW.row.cellAt p (by omega), ints_at _ _ (by rw [hmW.len]; omega), HYP.out]
                  obtain ⟨b3, o3, e3, _, _, g2⟩ := hmW.ko.at_ (k := k) (by rw [hoN]; exact hlk)
                  cases e3
                  rw [hop] at g2
                  clear hmW
                  go_wp2_with fail
                  go_region
                  all_goals
                    go_wp2
                    go_roundw
                    case rel => exact ⟨k + 1, L2 - r', ys2.set p (y + r'), by omega, by go_num, by first | rfl | go_num, by omega, by omega, H.out⟩
                    case measure => simp [intOf]; omega
                · have H := Lib.hid (hmW.more (by omega : q + 6 + 5 * T + k + 1 ≤ q + 6 + 5 * T + (k + 1)))
                  clear hmW
                  go_wp2
                  go_roundw
                  case rel => exact ⟨k + 1, L2, ys2, by omega, by go_num, rfl, by omega, by omega, H.out⟩
                  case measure => simp [intOf]; omega
              · have H := Lib.hid (hmW.more (by omega : q + 6 + 5 * T + k ≤ q + 6 + 5 * T + (k + 1)))
                clear hmW
                go_wp2
                go_roundw
                case rel => exact ⟨k + 1, L2, ys2, by omega, by go_num, rfl, by omega, by omega, H.out⟩
                case measure => simp [intOf]; omega
            · have hdt : ((T : Int) == 0) = false := beq_eq_false_iff_ne.2 (by omega)
              clear hT0
              by_cases hr0 : 0 < 48 * x - y
              · have HY : Hid (0 ≤ y + (48 * x - y) ∧ y + (48 * x - y) ≤ 700) := by show _ ∧ _; omega
                have hws : IntKind.i64.wrap (y + (48 * x - y)) = y + (48 * x - y) := IntWalk.i64_in _ (by omega)
                have H := Lib.hid (((hmW.drewN 1).store (p := p) hRw hhi (y + (48 * x - y)) HY.out).more (by omega : q + 6 + 5 * T + k ≤ q + 6 + 5 * T + (k + 1)))
                have g0 := hmW.row.frozenAt p
                have g1 : W.cell? ⟨w.heap.size + 1, p, none⟩ = some (.int .i64 y) := by rw [hmW.row.cellAt p (by omega), ints_at _ _ (by rw [hmW.len]; omega), HYP.out]
                obtain ⟨b3, o3, e3, _, _, g2⟩ := hmW.ko.at_ (k := k) (by rw [hoN]; exact hlk)
                cases e3
                rw [hop] at g2
                clear hmW
                go_wp2_with fail
                go_region
                all_goals
                  go_wp2
                  go_roundw
                  case rel => exact ⟨k + 1, L2 - (48 * x - y), ys2.set p (y + (48 * x - y)), by omega, by go_num, by first | rfl | go_num, by omega, by omega, H.out⟩
                  case measure => simp [intOf]; omega
              · have H := Lib.hid (hmW.more (by omega : q + 6 + 5 * T + k ≤ q + 6 + 5 * T + (k + 1)))
                clear hmW
                go_wp2
                go_roundw
                case rel => exact ⟨k + 1, L2, ys2, by omega, by go_num, rfl, by omega, by omega, H.out⟩
                case measure => simp [intOf]; omega
          · go_wp2_with fail
            go_quiet (fail)
            generalize hW : World.drewN _ _ = W
            have hmW : AMid w R A c bs E (some ⟨b, o, none⟩) c1 xs (some ⟨b', o', none⟩) os lo hi w3.heap.size (q + 6 + 5 * T + k) ys2 W := by rw [← hW]; exact hmA.out.drewN _
            clear hW hmA hcx hcy hb1 hco
            by_cases hT0 : T = 0
            · have hdt : ((T : Int) == 0) = true := by rw [hT0]; rfl
              clear hT0
              by_cases hr0 : 0 < L2
              · obtain ⟨q4, hq4, rd4⟩ := hmW.rd
                go_wp2_with fail
                refine (pick_to R A c bs q4 9 _ rd4 (by omega) (by omega) hl (by omega)).mono ?_
                rintro e w4 ⟨v, rfl, hv0, hv1, rd5, hch5⟩
                have hmX := hmW.pick hRw hlo hhi hch5 rd5 (by omega : q4 + 1 ≤ q + 6 + 5 * T + k + 1)
                obtain ⟨W, rfl⟩ : ∃ x, x = w4 := ⟨_, rfl⟩
                clear hmW rd4 rd5 hch5
                have hmW := hmX
                clear hmX
                obtain ⟨e1, e2, e4, e5⟩ := eighth (L2) v hr0 (by omega) hv0 hv1
                have e1' : IntKind.i64.wrap ((L2) * v) = (L2) * v := e1
                have e2' : IntKind.i64.wrap (((L2) * v).tdiv 8) = (L2) * v / 8 := e2
                generalize (L2) * v / 8 = r' at e2 e2' e4 e5
                by_cases hr9 : 0 < r'
                · have HY : Hid (0 ≤ y + r' ∧ y + r' ≤ 700) := by show _ ∧ _; omega
                  have hws : IntKind.i64.wrap (y + r') = y + r' := IntWalk.i64_in _ (by omega)
                  have H := Lib.hid (((hmW.drewN 1).store (p := p) hRw hhi (y + r') HY.out).more (by omega : q + 6 + 5 * T + k + 1 ≤ q + 6 + 5 * T + (k + 1)))
                  have g0 := hmW.row.frozenAt p
                  have g1 : W.cell? ⟨w.heap.size + 1, p, none⟩ = some (.int .i64 y) := by rw [hmW.row.cellAt p (by omega), ints_at _ _ (by rw [hmW.len]; omega), HYP.out]
                  obtain ⟨b3, o3, e3, _, _, g2⟩ := hmW.ko.at_ (k := k) (by rw [hoN]; exact hlk)
                  cases e3
                  rw [hop] at g2
                  clear hmW
                  go_wp2_with fail
                  go_region
                  all_goals
                    go_wp2
                    go_roundw
                    case rel => exact ⟨k + 1, L2 - r', ys2.set p (y + r'), by omega, by go_num, by first | rfl | go_num, by omega, by omega, H.out⟩
                    case measure => simp [intOf]; omega
                · have H := Lib.hid (hmW.more (by omega : q + 6 + 5 * T + k + 1 ≤ q + 6 + 5 * T + (k + 1)))
                  clear hmW
                  go_wp2
                  go_roundw
                  case rel => exact ⟨k + 1, L2, ys2, by omega, by go_num, rfl, by omega, by omega, H.out⟩
                  case measure => simp [intOf]; omega
              · have H := Lib.hid (hmW.more (by omega : q + 6 + 5 * T + k ≤ q + 6 + 5 * T + (k + 1)))
                clear hmW
                go_wp2
                go_roundw
                case rel => exact ⟨k + 1, L2, ys2, by omega, by go_num, rfl, by omega, by omega, H.out⟩
                case measure => simp [intOf]; omega
            · have hdt : ((T : Int) == 0) = false := beq_eq_false_iff_ne.2 (by omega)
              clear hT0
              by_cases hr0 : 0 < L2
              · have HY : Hid (0 ≤ y + L2 ∧ y + L2 ≤ 700) := by show _ ∧ _; omega
                have hws : IntKind.i64.wrap (y + L2) = y + L2 := IntWalk.i64_in _ (by omega)
                have H := Lib.hid (((hmW.drewN 1).store (p := p) hRw hhi (y + L2) HY.out).more (by omega : q + 6 + 5 * T + k ≤ q + 6 + 5 * T + (k + 1)))
                have g0 := hmW.row.frozenAt p
                have g1 : W.cell? ⟨w.heap.size + 1, p, none⟩ = some (.int .i64 y) := by rw [hmW.row.cellAt p (by omega), ints_at _ _ (by rw [hmW.len]; omega), HYP.out]
                obtain ⟨b3, o3, e3, _, _, g2⟩ := hmW.ko.at_ (k := k) (by rw [hoN]; exact hlk)
                cases e3
                rw [hop] at g2
                clear hmW
                go_wp2_with fail
                go_region
                all_goals
                  go_wp2
                  go_roundw
                  case rel => exact ⟨k + 1, L2 - L2, ys2.set p (y + L2), by omega, by go_num, by first | rfl | go_num, by omega, by omega, H.out⟩
                  case measure => simp [intOf]; omega
              · have H := Lib.hid (hmW.more (by omega : q + 6 + 5 * T + k ≤ q + 6 + 5 * T + (k + 1)))
                clear hmW
                go_wp2
                go_roundw
                case rel => exact ⟨k + 1, L2, ys2, by omega, by go_num, rfl, by omega, by omega, H.out⟩
                case measure => simp [intOf]; omega
        · obtain rfl : k = xs.length := by omega
          have H := Lib.hid (hm2.more (by omega : q + 6 + 5 * T + xs.length ≤ q + 6 + 5 * (T + 1)))
          clear hm2
          go_wp2
          go_roundw
          case rel => exact ⟨T + 1, L2, ys2, by omega, by go_num, rfl, h0, h1, H.out⟩
          case measure => simp [intOf]; omega
    · obtain rfl : T = 2 := by omega
      obtain ⟨q4, hq4, rd4⟩ := hm.rd
      go_wp2_with fail
      refine (odd_to R A c bs q4 n _ rd4 hn hn' hl (by omega)).mono ?_
      rintro e w5 ⟨bo, rfl, ⟨q5, hq5, rd5⟩, hch5⟩
      have hm5 := hm.pick hRw hlo hhi hch5 rd5 (by omega)
      clear hm rd4 hch5
      cases bo
      · have H := Lib.hid (awards_end (q := q) hm5 (by omega) hx5)
        clear hm5 rd5
        go_wp2
        go_ret
        exact H.out
      · by_cases hx0 : 0 < xs.length
        · go_wp2_with fail
          refine (pick_to R A c bs q5 3 _ rd5 (by omega) (by omega) hl (by omega)).mono ?_
          rintro e w6 ⟨v, rfl, hv0, hv1, rd6, hch6⟩
          have hm6 := hm5.pick hRw hlo hhi hch6 rd6 (by omega : q5 + 1 ≤ q + 6 + 5 * 2 + 1 + 1)
          clear hm5 rd5 rd6 hch6
          have g0 := hm6.row.frozenAt 0
          have g1 : w6.cell? ⟨w.heap.size + 1, 0, none⟩ = some (.int .i64 (ys.getD 0 0)) := by rw [hm6.row.cellAt 0 (by omega), ints_at _ _ (by rw [hm6.len]; omega)]
          have hyr := getD_rg hm6.sm (by omega) 0
          generalize ys.getD 0 0 = y0 at g1 hyr
          rcases (show v = 0 ∨ v = 1 ∨ v = 2 from by omega) with rfl | rfl | rfl
          · by_cases hx1 : xs.length = 1
            · have H := Lib.hid (fun o2 c2 => awards_rest (q := q) (m := 0) (c2 := c2) (o2 := o2) hm6 (by omega) hx5 (by omega) (.inl rfl))
              clear hm6
              go_wp2
              go_ret
              exact H.out _ _
            · have H := Lib.hid (fun c2 => awards_rest (q := q) (m := xs.length - 1) (c2 := c2) (o2 := 1) hm6 (by omega) hx5 (by omega) (.inr rfl))
              clear hm6
              go_wp2
              go_ret
              exact H.out _
          · have H := Lib.hid (awards_minus (q := q) hm6 (by omega) hx5 hRw (y0 + 1) (by omega))
            clear hm6
            go_wp2
            go_ret
            exact H.out
          · have H := Lib.hid (awards_minus (q := q) hm6 (by omega) hx5 hRw (-1) (by omega))
            clear hm6
            go_wp2
            go_ret
            exact H.out
        · have H := Lib.hid (awards_end (q := q) hm5 (by omega) hx5)
          clear hm5 rd5
          go_wp2
          go_ret
          exact H.out

end Go.Proofs.Ytbegdcnljafloaa
namespace Go.Proofs.Ytbegdcnljafloaa
open Go.RowKit

def DrawnAwards (w : World) (e : Ending) (w' : World) : Prop :=
  ∃ E A1 c1 A2 c2, ∃ xs ys : List Int, xs.length ≤ 5 ∧ ys.length ≤ 5 ∧ (∀ y ∈ ys, -1 ≤ y ∧ y ≤ 1000) ∧ e = .returned (.tuple #[.agg #[.int .i64 E, .slice A1 xs.length c1], .slice A2 ys.length c2]) ∧ Own w' w.heap.size w'.heap.size A1 xs ∧ Own w' w.heap.size w'.heap.size A2 ys ∧ Below w.heap.size w w'

end Go.Proofs.Ytbegdcnljafloaa
