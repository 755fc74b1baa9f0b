/-
  The two rows that are drawn for the law of rows that are as even: at most five small numbers each, in new memory. No condition.
-/
import Derived.Test.YtjoalilapbleiaaDrawL
import Derived.Test.YtjoalilapbleiaaSpecFns
import Derived.Test.YtjoalilapbleiaaAwLaw
namespace Go.Proofs.Ytjoalilapbleiaa
open Go.RowKit

def DrawnTwo (w : World) (e : Ending) (w' : World) : Prop :=
  ∃ A1 c1 A2 c2, ∃ xs ys : List Int, xs.length ≤ 5 ∧ ys.length ≤ 5 ∧ (∀ y ∈ xs, -1 ≤ y ∧ y ≤ 1000) ∧ (∀ y ∈ ys, -1 ≤ y ∧ y ≤ 1000) ∧ e = .returned (.tuple #[.slice A1 xs.length c1, .slice A2 ys.length c2]) ∧ Own w' w.heap.size w'.heap.size A1 xs ∧ Own w' w.heap.size w'.heap.size A2 ys ∧ Below w.heap.size w w'
theorem evenAws_bd (E : Int) (xs : List Int) : ∀ y ∈ evenAws E xs, -1 ≤ y ∧ y ≤ 1000 := fun y hy => by
  unfold evenAws at hy
  split at hy
  · rename_i h
    have h1 := evenAw_aw h
    have h2 := aw_range h h1.2.1 h1.2.2.1 y hy
    omega
  · cases hy

set_option maxRecDepth 10000 in
set_option maxHeartbeats 2000000 in
theorem drawMoreEven_any (A : Option Addr) (c : Nat) (bs : List Int) (w : World) (h : Bytes w w.heap.size A bs) (hl : bs.length ≤ 9223372036854775807) (hc : bs.length ≤ c) :
    Calls Try.prog 30 #[.slice A bs.length c] w (DrawnTwo w) := by
  go_enter Try.func30, Try.ntmps30
  go_wp2_with fail
  refine (l20Open_any A c bs _ h hl hc).mono ?_
  rintro e w1 ⟨rfl, hb1, c', bs', hl', rd⟩
  have z1 := hb1.size
  have zR := rd.lt
  go_wp2_with fail
  refine (l20Case_anyB w.heap.size A c' bs' 0 0 _ rd (by omega) (by omega) hl' (by omega)).mono ?_
  rintro e w2 ⟨E, A2, c2, xs, rfl, ho2, hx5, ⟨q2, hq2, rd2⟩, hch2, hsm⟩
  have z2 := hch2.size
  have B2 := hb1.trans (hch2.below (B := w.heap.size) (Nat.le_refl _) (by omega))
  have y3 := Box.new w2 (.int .i64 E) (.slice A2 xs.length c2) 25
  have rd3 := rd2.alloc (.cells #[.int .i64 E, .slice A2 xs.length c2] 25)
  have ho3 := ho2.alloc (Nat.le_refl _) (.cells #[.int .i64 E, .slice A2 xs.length c2] 25)
  have B3 := B2.alloc (by omega) (.cells #[.int .i64 E, .slice A2 xs.length c2] 25)
  have hs3 : (w2.alloc (.cells #[.int .i64 E, .slice A2 xs.length c2] 25)).heap.size = w2.heap.size + 1 := hsz _ _
  have hlx : xs.length ≤ 1152921504606846976 := by omega
  clear hb1 rd rd2 ho2 hch2 B2 h
  obtain ⟨p0, p1⟩ := And.intro y3.c0 y3.c1
  go_wp2_with fail
  refine (l20Awards_any w.heap.size A c' bs' q2 0 E A2 c2 xs _ _ _ rd3 ho3.ints (by omega) (by omega) hx5 hsm (by omega) (by omega) hl' (by omega)).mono ?_
  rintro e w3 ⟨A3, c3, os, rfl, ho4, hol, hob, ⟨q3, hq3, rd4⟩, hch3⟩
  have z3 := hch3.size
  have y4 := y3.chg hch3 (by omega)
  have ho5 := ho3.chg hch3 (by omega) (.inr (by omega))
  have B4 := B3.trans (hch3.below (B := w.heap.size) (Nat.le_refl _) (by omega))
  clear y3 rd3 ho3 B3 hch3 p0 p1
  go_wp2_with fail
  refine (pick_to w.heap.size A c' bs' q3 2 _ rd4 (by omega) (by omega) hl' (by omega)).mono ?_
  rintro e w4 ⟨v, rfl, hv0, hv1, rd5, hch4⟩
  have z4 := hch4.size
  have y5 := y4.chg hch4 (by omega)
  have ho6 := ho5.chg hch4 (by omega) (.inr (by omega))
  have ho7 := ho4.chg hch4 (Nat.le_refl _) (.inr (by omega))
  have B5 := B4.trans (hch4.below (B := w.heap.size) (Nat.le_refl _) (by omega))
  obtain ⟨p0, p1⟩ := And.intro y5.c0 y5.c1
  clear y4 ho4 ho5 B4 hch4 rd4
  by_cases hv : v = 0
  · subst hv
    go_wp2_with fail
    refine (specEvenAwards_any E A2 c2 xs _ _ _ ho6.ints (by omega) hlx).mono ?_
    rintro e w5 ⟨A5, c5, rfl, ho8, hb5⟩
    have z5 := hb5.size
    have rd9 := rd5.below hb5 (by omega)
    have ho9 := ho6.below hb5 (by omega)
    have B8 := B5.trans (hb5.mono (by omega))
    obtain ⟨q0, q1⟩ := keep2 hb5 ⟨p0, p1⟩ (by omega)
    clear p0 p1 rd5 ho6 hb5 B5
    go_wp2_with fail
    refine (l20Awards_any w.heap.size A c' bs' (q3 + 1) 14 E A2 c2 xs _ _ _ rd9 ho9.ints (by omega) (by omega) hx5 hsm (by omega) (by omega) hl' (by omega)).mono ?_
    rintro e w9 ⟨A9, c9, ts, rfl, ho10, htl, htb, _, hch9⟩
    have z9 := hch9.size
    have B9 := B8.trans (hch9.below (B := w.heap.size) (Nat.le_refl _) (by omega))
    have hoA := (ho8.chg hch9 (by omega) (.inr (by omega))).more (lo' := w.heap.size) (hi' := w9.heap.size) (by omega) (by omega)
    go_wp2
    go_ret2
    exact ⟨A5, c5, A9, c9, evenAws E xs, ts, (Nat.le_trans (evenAws_len E xs) hx5), htl, evenAws_bd E xs, htb, rfl, hoA, ho10.more (by omega) (Nat.le_refl _), B9⟩
  · have hv' : (v == 0) = false := beq_eq_false_iff_ne.2 hv
    have rd9 := rd5
    have ho9 := ho6
    have B8 := B5
    clear rd5 ho6 B5 y5
    go_wp2_with fail
    refine (l20Awards_any w.heap.size A c' bs' (q3 + 1) 14 E A2 c2 xs _ _ _ rd9 ho9.ints (by omega) (by omega) hx5 hsm (by omega) (by omega) hl' (by omega)).mono ?_
    rintro e w9 ⟨A9, c9, ts, rfl, ho10, htl, htb, _, hch9⟩
    have z9 := hch9.size
    have B9 := B8.trans (hch9.below (B := w.heap.size) (Nat.le_refl _) (by omega))
    have hoA := (ho7.chg hch9 (by omega) (.inr (by omega))).more (lo' := w.heap.size) (hi' := w9.heap.size) (by omega) (by omega)
    go_wp2
    go_ret2
    exact ⟨A3, c3, A9, c9, os, ts, hol, htl, hob, htb, rfl, hoA, ho10.more (by omega) (Nat.le_refl _), B9⟩

end Go.Proofs.Ytjoalilapbleiaa
