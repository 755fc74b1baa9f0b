/-
  The cases and awards that are drawn for pairs and for the middle, and the cases for halves: at most five small numbers each, in new memory. No condition.
-/
import Derived.Test.YtbegdcnljafloaaGD
import Derived.Test.YtbegdcnljafloaaSpecHalf
namespace Go.Proofs.Ytbegdcnljafloaa
open Go.RowKit

theorem halfAws_rg (E : Int) (xs : List Int) : ∀ y ∈ halfAws E xs, -1 ≤ y ∧ y ≤ 1000 := fun y hy => by
  unfold halfAws at hy
  split at hy
  · rename_i h
    have h1 := half_aw h
    have h2 := aw_range h h1.2.1 h1.2.2.1 y hy
    omega
  · cases hy

set_option maxRecDepth 10000 in
set_option maxHeartbeats 2000000 in
theorem drawPairsOk_any (A : Option Addr) (c : Nat) (bs : List Int) (w : World) (h : Bytes w w.heap.size A bs) (hl : bs.length ≤ 9223372036854775807) (hc : bs.length ≤ c) :
    Calls Try.prog 15 #[.slice A bs.length c] w (DrawnAwards w) := by
  have B0 := (Below.refl w.heap.size w).alloc (Nat.le_refl _) (.cells #[.int .i64 0, .slice none 0 0] 31)
  have x0 := Box.new w (.int .i64 0) (.slice none 0 0) 31
  have h0 := (h.below B0 (Nat.le_refl _)).more (hi' := (w.alloc (.cells #[.int .i64 0, .slice none 0 0] 31)).heap.size) (by rw [hsz]; omega)
  go_enter Try.func15, Try.ntmps15
  go_wp2_with fail
  refine (l20Open_any A c bs _ h0 hl hc).mono ?_
  rintro e w1 ⟨rfl, hb1, c', bs', hl', rd⟩
  have x1 := x0.below hb1 (by rw [hsz]; omega)
  rw [hsz] at hb1 rd
  have z1 := hb1.size
  rw [hsz] at z1
  have B1 := B0.trans (hb1.mono (by omega))
  clear h h0 hb1 x0 B0
  go_wp2_with fail
  refine (l20Case_anyB (w.heap.size + 1) A c' bs' 0 14 _ (by simpa [hsz] using rd) (by omega) (by omega) hl' (by omega)).mono ?_
  rintro e w2 ⟨E, A2, c2, xs, rfl, ho2, hx5, ⟨q2, hq2, rd2⟩, hch2, hsm⟩
  have x2 := x1.chg hch2 (by omega)
  have z2 := hch2.size
  have B2 := B1.trans (hch2.below (B := w.heap.size) (by omega) (by omega))
  have hR1 := rd.lt
  have ho2' : Own w2 w1.heap.size w2.heap.size A2 xs := ho2
  have y3' := Box.new w2 (.int .i64 E) (.slice A2 xs.length c2) 31
  have x3' := x2.alloc (.cells #[.int .i64 E, .slice A2 xs.length c2] 31)
  have rd3' := rd2.alloc (.cells #[.int .i64 E, .slice A2 xs.length c2] 31)
  have ho3' := ho2'.alloc (Nat.le_refl _) (.cells #[.int .i64 E, .slice A2 xs.length c2] 31)
  have B3' := B2.alloc (by omega) (.cells #[.int .i64 E, .slice A2 xs.length c2] 31)
  have hs3 : (w2.alloc (.cells #[.int .i64 E, .slice A2 xs.length c2] 31)).heap.size = w2.heap.size + 1 := hsz _ _
  have hlo3 : w.heap.size + 1 + 1 ≤ w1.heap.size := by omega
  clear x1 x2 hch2 rd rd2 ho2 ho2' B1 B2
  go_wp2_with fail
  refine (pick_to (w.heap.size + 1) A c' bs' q2 2 _ rd3' (by omega) (by omega) hl' (by omega)).mono ?_
  rintro e W ⟨v, rfl, hv0, hv1, rd3, hchp⟩
  have zW := hchp.size
  rw [hs3] at zW
  have y3 := y3'.chg hchp (by omega)
  have x3 := x3'.chg hchp (by omega)
  have ho3 := ho3'.chg hchp (by rw [hs3]; omega) (.inr (by omega))
  have B3 := B3'.trans (hchp.below (B := w.heap.size) (by omega) (by rw [hs3]; omega))
  obtain ⟨q3, hq3⟩ : ∃ q3, q3 = q2 + 1 := ⟨_, rfl⟩
  rw [← hq3] at rd3
  have ko3 : Ints W.drew w1.heap.size w2.heap.size A2 xs := ho3.ints
  have kp3 : Ints W w1.heap.size w2.heap.size A2 xs := ho3.ints
  have hhi3 : w2.heap.size ≤ W.drew.heap.size := by show w2.heap.size ≤ W.heap.size; omega
  have hRW := rd3.lt
  clear y3' x3' rd3' ho3' B3' hchp hs3
  by_cases h0 : v = 0
  · have hd0 : (v == 0) = true := by simpa using h0
    clear h0
    have m1 := y3.c0
    have m2 := y3.c1
    go_wp2_with fail
    refine (specCaseOk_any E A2 c2 xs _ _ _ kp3 (by omega) (by omega)).mono ?_
    rintro e W5 ⟨rfl, hb5⟩
    have z5 := hb5.size
    have y5 := y3.below hb5 y3.lt
    have x5 := x3.below hb5 x3.lt
    have ho5 := ho3.below hb5 (by omega)
    have B5 := B3.trans (hb5.mono (by omega))
    have rd5 := rd3.below hb5 rd3.lt
    clear m1 m2 y3 x3 ho3 B3 rd3 ko3 kp3 hhi3
    have y3 := y5
    have x3 := x5
    have ho3 := ho5
    have B3 := B5
    have rd3 := rd5
    clear y5 x5 ho5 B5 rd5
    have zW' : w2.heap.size + 1 ≤ W5.heap.size := by omega
    have hRW' := rd3.lt
    clear hb5 z5 zW hRW
    have zW := zW'
    have hRW := hRW'
    obtain ⟨W, rfl⟩ : ∃ x, x = W5 := ⟨_, rfl⟩
    have ko3 : Ints W.drew w1.heap.size w2.heap.size A2 xs := ho3.ints
    have hhi3 : w2.heap.size ≤ W.drew.heap.size := by show w2.heap.size ≤ W.heap.size; omega
    by_cases hok : caseOkB E xs = true
    · rw [hok]
      have r1 := y3.c0
      have r2 := y3.c1
      have hyl := y3.lt
      have hxl := x3.lt
      go_wp2_with fail
      go_region_law (first
        | (go_simp
           go_at_call 48
           (with_reducible refine (specHalfAwards_any E A2 c2 xs _ _ _ ko3 hhi3 (by omega)).mono ?_)
           rintro e w9 ⟨A3, c3, rfl, ho4, hb9⟩
           have hch3 : Chg 0 0 W w9 := Chg.of_drew (Chg.of_below hb9)
           have y4 := y3.chg hch3 (by omega)
           have x4 := x3.chg hch3 (by omega)
           have s1 := y4.c0
           have s2 := y4.c1
           have s3 := x4.f0
           have s4 := x4.f1
           have s5 := x4.lt
           have s6 := x4.c0
           have s7 := x4.c1))
      all_goals
        have x5 := (x4.set0 (.int .i64 E)).set1 (.slice A2 xs.length c2)
        have t1 := x5.c0
        have t2 := x5.c1
        have z9 := hch3.size
        have ho5 := ((ho3.chg hch3 (by omega) (.inr (by omega))).more (lo' := w.heap.size + 1) (hi' := w9.heap.size) (by omega) (by omega))
        have ho6 : Own w9 (w.heap.size + 1) w9.heap.size A3 (halfAws E xs) := ho4.more (by simp; omega) (Nat.le_refl _)
        have B4 := B3.trans ((show Below W.heap.size W w9 from ⟨hb9.os, hb9.tape, hb9.output, hb9.size, hb9.block⟩).mono (by omega))
        clear y3 y4 x3 x4 x5 rd3 ho3 ho4 B3 hch3 hb9
        go_wp2
        refine bodyPost_ret (v := .tuple #[.agg #[.int .i64 E, .slice A2 xs.length c2], .slice A3 (halfAws E xs).length c3]) (by simp [results, Try.results15, go_sem, t1, t2]) rfl ?_
        exact ⟨E, A2, c2, A3, c3, xs, (halfAws E xs), hx5, Nat.le_trans (halfAws_len E xs) hx5, halfAws_rg E xs, rfl, ((ho5.set_out (.inl (by simp)) _).set_out (.inl (by simp)) _).more (by omega) (by simp [World.setCell]), ((ho6.set_out (.inl (by simp)) _).set_out (.inl (by simp)) _).more (by omega) (by simp [World.setCell]), (B4.setCell (by simp) _).setCell (by simp) _⟩
    · have hok' : caseOkB E xs = false := by simpa using hok
      rw [hok']
      have r1 := y3.c0
      have r2 := y3.c1
      have hyl := y3.lt
      have hxl := x3.lt
      go_wp2_with fail
      go_region_law (first
        | (go_simp
           go_at_call 49
           (with_reducible refine (l20Awards_any (w.heap.size + 1) A c' bs' q3 14 E A2 c2 xs _ _ _ rd3.drew ko3 hlo3 hhi3 hx5 hsm (by omega) (by omega) hl' (by omega)).mono ?_)
           rintro e w9 ⟨A3, c3, os, rfl, ho4, hol, hob, _, hch3'⟩
           have hch3 := hch3'.of_drew
           have y4 := y3.chg hch3 (by omega)
           have x4 := x3.chg hch3 (by omega)
           have s1 := y4.c0
           have s2 := y4.c1
           have s3 := x4.f0
           have s4 := x4.f1
           have s5 := x4.lt
           have s6 := x4.c0
           have s7 := x4.c1))
      all_goals
        have x5 := (x4.set0 (.int .i64 E)).set1 (.slice A2 xs.length c2)
        have t1 := x5.c0
        have t2 := x5.c1
        have z9 := hch3.size
        have ho5 := ((ho3.chg hch3 (by omega) (.inr (by omega))).more (lo' := w.heap.size + 1) (hi' := w9.heap.size) (by omega) (by omega))
        have ho6 : Own w9 (w.heap.size + 1) w9.heap.size A3 os := ho4.more (by simp; omega) (Nat.le_refl _)
        have B4 := B3.trans (hch3.below (B := w.heap.size) (by omega) (by omega))
        clear y3 y4 x3 x4 x5 rd3 ho3 ho4 B3 hch3 hch3'
        go_wp2
        refine bodyPost_ret (v := .tuple #[.agg #[.int .i64 E, .slice A2 xs.length c2], .slice A3 os.length c3]) (by simp [results, Try.results15, go_sem, t1, t2]) rfl ?_
        exact ⟨E, A2, c2, A3, c3, xs, os, hx5, hol, hob, rfl, ((ho5.set_out (.inl (by simp)) _).set_out (.inl (by simp)) _).more (by omega) (by simp [World.setCell]), ((ho6.set_out (.inl (by simp)) _).set_out (.inl (by simp)) _).more (by omega) (by simp [World.setCell]), (B4.setCell (by simp) _).setCell (by simp) _⟩
  · have hd0 : (v == 0) = false := by simpa using h0
    clear h0
    have m1 := y3.c0
    have m2 := y3.c1
    have r1 := y3.c0
    have r2 := y3.c1
    have hyl := y3.lt
    have hxl := x3.lt
    go_wp2_with fail
    go_region_law (first
      | (go_simp
         go_at_call 49
         (with_reducible refine (l20Awards_any (w.heap.size + 1) A c' bs' q3 14 E A2 c2 xs _ _ _ rd3.drew ko3 hlo3 hhi3 hx5 hsm (by omega) (by omega) hl' (by omega)).mono ?_)
         rintro e w9 ⟨A3, c3, os, rfl, ho4, hol, hob, _, hch3'⟩
         have hch3 := hch3'.of_drew
         have y4 := y3.chg hch3 (by omega)
         have x4 := x3.chg hch3 (by omega)
         have s1 := y4.c0
         have s2 := y4.c1
         have s3 := x4.f0
         have s4 := x4.f1
         have s5 := x4.lt
         have s6 := x4.c0
         have s7 := x4.c1))
    all_goals
      have x5 := (x4.set0 (.int .i64 E)).set1 (.slice A2 xs.length c2)
      have t1 := x5.c0
      have t2 := x5.c1
      have z9 := hch3.size
      have ho5 := ((ho3.chg hch3 (by omega) (.inr (by omega))).more (lo' := w.heap.size + 1) (hi' := w9.heap.size) (by omega) (by omega))
      have ho6 : Own w9 (w.heap.size + 1) w9.heap.size A3 os := ho4.more (by simp; omega) (Nat.le_refl _)
      have B4 := B3.trans (hch3.below (B := w.heap.size) (by omega) (by omega))
      clear y3 y4 x3 x4 x5 rd3 ho3 ho4 B3 hch3 hch3'
      go_wp2
      refine bodyPost_ret (v := .tuple #[.agg #[.int .i64 E, .slice A2 xs.length c2], .slice A3 os.length c3]) (by simp [results, Try.results15, go_sem, t1, t2]) rfl ?_
      exact ⟨E, A2, c2, A3, c3, xs, os, hx5, hol, hob, rfl, ((ho5.set_out (.inl (by simp)) _).set_out (.inl (by simp)) _).more (by omega) (by simp [World.setCell]), ((ho6.set_out (.inl (by simp)) _).set_out (.inl (by simp)) _).more (by omega) (by simp [World.setCell]), (B4.setCell (by simp) _).setCell (by simp) _⟩

end Go.Proofs.Ytbegdcnljafloaa
