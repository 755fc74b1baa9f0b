/-
  A drawn case and a drawn order: at most five claims and six numbers, in new memory; nothing that was there is written. No condition.
-/
import Derived.Test.YtmkmipgboecdaaaGD
namespace Go.Proofs.Ytmkmipgboecdaaa
open Go.RowKit

def DrawnNamed (w : World) (e : Ending) (w' : World) : Prop :=
  ∃ E A1 c1 A2 c2, ∃ xs os : List Int, xs.length ≤ 5 ∧ os.length ≤ 6 ∧ e = .returned (.tuple #[.agg #[.int .i64 E, .slice A1 xs.length c1], .slice A2 os.length c2]) ∧ Own w' w.heap.size w'.heap.size A1 xs ∧ Own w' w.heap.size w'.heap.size A2 os ∧ Below w.heap.size w w'

set_option maxRecDepth 10000 in
set_option maxHeartbeats 1000000 in
theorem drawNamedCase_any (A : Option Addr) (c : Nat) (bs : List Int) (w : World) (h : Bytes w w.heap.size A bs) (hl : bs.length ≤ 9223372036854775807) (hc : bs.length ≤ c) :
    Calls Try.prog 38 #[.slice A bs.length c] w (DrawnNamed w) := by
  have B0 := (Below.refl w.heap.size w).alloc (Nat.le_refl _) (.cells #[.int .i64 0, .slice none 0 0] 25)
  have x0 := Box.new w (.int .i64 0) (.slice none 0 0) 25
  have h0 := (h.below B0 (Nat.le_refl _)).more (hi' := (w.alloc (.cells #[.int .i64 0, .slice none 0 0] 25)).heap.size) (by rw [hsz]; omega)
  go_enter Try.func38, Try.ntmps38
  go_wp2_with fail
  refine (l20Open_any A c bs _ h0 hl hc).mono ?_
  rintro e w1 ⟨rfl, hb1, c', bs', hl', rd⟩
  have x1 := x0.below hb1 (by rw [hsz]; omega)
  rw [hsz] at hb1 rd
  have z1 := hb1.size
  rw [hsz] at z1
  have B1 := B0.trans (hb1.mono (by omega))
  clear h h0 hb1 x0 B0
  go_wp2_with fail
  refine (l20Case_any (w.heap.size + 1) A c' bs' 0 14 _ (by simpa [hsz] using rd) (by omega) (by omega) hl' (by omega)).mono ?_
  rintro e w2 ⟨E, A2, c2, xs, rfl, ho2, hx5, ⟨q2, hq2, rd2⟩, hch2⟩
  have x2 := x1.chg hch2 (by omega)
  have z2 := hch2.size
  have B2 := B1.trans (hch2.below (B := w.heap.size) (by omega) (by omega))
  have hR1 := rd.lt
  have ho2' : Own w2 w1.heap.size w2.heap.size A2 xs := ho2
  have y3 := Box.new w2 (.int .i64 E) (.slice A2 xs.length c2) 25
  have x3 := x2.alloc (.cells #[.int .i64 E, .slice A2 xs.length c2] 25)
  have rd3 := (rd2.alloc (.cells #[.int .i64 E, .slice A2 xs.length c2] 25)).drew
  have ho3 := ho2'.alloc (Nat.le_refl _) (.cells #[.int .i64 E, .slice A2 xs.length c2] 25)
  have B3 := B2.alloc (by omega) (.cells #[.int .i64 E, .slice A2 xs.length c2] 25)
  have hs3 : (w2.alloc (.cells #[.int .i64 E, .slice A2 xs.length c2] 25)).heap.size = w2.heap.size + 1 := hsz _ _
  have hRlt := rd2.lt
  have r1 := y3.c0
  have r2 := y3.c1
  clear x1 x2 hch2 rd rd2 ho2 ho2' B1 B2
  go_wp2_with fail
  go_region_law (first
    | (go_simp
       go_at_call 77
       (with_reducible refine (l20Order_any (w.heap.size + 1) A c' bs' q2 xs.length 14 _ rd3 hx5 (by omega) (by omega) hl' (by omega)).mono ?_)
       rintro e w3 ⟨A3, c3, os, rfl, ho4, hol, _, _, hch3'⟩
       have hch3 := hch3'.of_drew
       have y4 := y3.chg hch3 (by omega)
       have x4 := x3.chg hch3 (by omega)
       have s1 := y4.c0
       have s2 := y4.c1
       have s3 := x4.f0
       have s4 := x4.f1
       have s5 := x4.lt
       have s6 := x4.c0
       have s7 := x4.c1))
  all_goals
    have x5 := (x4.set0 (.int .i64 E)).set1 (.slice A2 xs.length c2)
    have t1 := x5.c0
    have t2 := x5.c1
    have ho5 := ((ho3.chg hch3 (by rw [hsz]; omega) (.inr (by omega))).more (lo' := w.heap.size + 1) (hi' := w3.heap.size) (by omega) (by have := hch3.size; rw [hsz] at this; omega))
    have ho6 : Own w3 (w.heap.size + 1) w3.heap.size A3 os := ho4.more (by simp; omega) (Nat.le_refl _)
    have B4 := B3.trans (hch3.below (B := w.heap.size) (by omega) (by rw [hsz]; omega))
    clear y3 y4 x3 x4 x5 rd3 ho3 ho4 B3 hch3 hch3'
    go_wp2
    refine bodyPost_ret (v := .tuple #[.agg #[.int .i64 E, .slice A2 xs.length c2], .slice A3 os.length c3]) (by simp [results, Try.results38, go_sem, t1, t2]) rfl ?_
    exact ⟨E, A2, c2, A3, c3, xs, os, hx5, by omega, rfl, ((ho5.set_out (.inl (by simp)) _).set_out (.inl (by simp)) _).more (by omega) (by simp [World.setCell]), ((ho6.set_out (.inl (by simp)) _).set_out (.inl (by simp)) _).more (by omega) (by simp [World.setCell]), (B4.setCell (by simp) _).setCell (by simp) _⟩

end Go.Proofs.Ytmkmipgboecdaaa
