/-
  The cases and awards that are drawn for rates: those drawn for whole awards, handed on. No condition.
-/
import Derived.Test.YtakmbpdapdnniaaDrawK
namespace Go.Proofs.Ytakmbpdapdnniaa
open Go.RowKit


set_option maxRecDepth 10000 in
set_option maxHeartbeats 1000000 in
theorem drawRatesRise_any (A : Option Addr) (c : Nat) (bs : List Int) (w : World) (h : Bytes w w.heap.size A bs) (hl : bs.length ≤ 9223372036854775807) (hc : bs.length ≤ c) :
    Calls Try.prog 7 #[.slice A bs.length c] w (DrawnAwards w) := by
  have B0 := (Below.refl w.heap.size w).alloc (Nat.le_refl _) (.cells #[.int .i64 0, .slice none 0 0] 25)
  have x0 := Box.new w (.int .i64 0) (.slice none 0 0) 25
  have h0 := (h.below B0 (Nat.le_refl _)).more (hi' := (w.alloc (.cells #[.int .i64 0, .slice none 0 0] 25)).heap.size) (by rw [hsz]; omega)
  go_enter Try.func7, Try.ntmps7
  go_wp2_with fail
  refine (drawWholeAwards_any A c bs _ h0 hl hc).mono ?_
  rintro e w1 ⟨E, A1, c1, A2, c2, xs, ys, hx5, hy5, hyb, rfl, ho1, hq1, hb1⟩
  have x1 := x0.below hb1 (by rw [hsz]; omega)
  rw [hsz] at hb1 ho1 hq1
  have z1 := hb1.size
  rw [hsz] at z1
  have B1 := B0.trans (hb1.mono (by omega))
  have s1 := x1.c0
  have s2 := x1.c1
  have s3 := x1.f0
  have s4 := x1.f1
  have s5 := x1.lt
  have x5 := (x1.set0 (.int .i64 E)).set1 (.slice A1 xs.length c1)
  have t1 := x5.c0
  have t2 := x5.c1
  clear h h0 hb1 x0 x1 x5 B0
  go_wp2
  refine bodyPost_ret (v := .tuple #[.agg #[.int .i64 E, .slice A1 xs.length c1], .slice A2 ys.length c2]) (by simp [results, Try.results7, go_sem, t1, t2]) rfl ?_
  exact ⟨E, A1, c1, A2, c2, xs, ys, hx5, hy5, hyb, rfl, ((ho1.set_out (.inl (by simp)) _).set_out (.inl (by simp)) _).more (by omega) (by simp [World.setCell]), ((hq1.set_out (.inl (by simp)) _).set_out (.inl (by simp)) _).more (by omega) (by simp [World.setCell]), (B1.setCell (by simp) _).setCell (by simp) _⟩

set_option maxRecDepth 10000 in
set_option maxHeartbeats 1000000 in
theorem drawRatesFall_any (A : Option Addr) (c : Nat) (bs : List Int) (w : World) (h : Bytes w w.heap.size A bs) (hl : bs.length ≤ 9223372036854775807) (hc : bs.length ≤ c) :
    Calls Try.prog 17 #[.slice A bs.length c] w (DrawnAwards w) := by
  have B0 := (Below.refl w.heap.size w).alloc (Nat.le_refl _) (.cells #[.int .i64 0, .slice none 0 0] 25)
  have x0 := Box.new w (.int .i64 0) (.slice none 0 0) 25
  have h0 := (h.below B0 (Nat.le_refl _)).more (hi' := (w.alloc (.cells #[.int .i64 0, .slice none 0 0] 25)).heap.size) (by rw [hsz]; omega)
  go_enter Try.func17, Try.ntmps17
  go_wp2_with fail
  refine (drawWholeAwards_any A c bs _ h0 hl hc).mono ?_
  rintro e w1 ⟨E, A1, c1, A2, c2, xs, ys, hx5, hy5, hyb, rfl, ho1, hq1, hb1⟩
  have x1 := x0.below hb1 (by rw [hsz]; omega)
  rw [hsz] at hb1 ho1 hq1
  have z1 := hb1.size
  rw [hsz] at z1
  have B1 := B0.trans (hb1.mono (by omega))
  have s1 := x1.c0
  have s2 := x1.c1
  have s3 := x1.f0
  have s4 := x1.f1
  have s5 := x1.lt
  have x5 := (x1.set0 (.int .i64 E)).set1 (.slice A1 xs.length c1)
  have t1 := x5.c0
  have t2 := x5.c1
  clear h h0 hb1 x0 x1 x5 B0
  go_wp2
  refine bodyPost_ret (v := .tuple #[.agg #[.int .i64 E, .slice A1 xs.length c1], .slice A2 ys.length c2]) (by simp [results, Try.results17, go_sem, t1, t2]) rfl ?_
  exact ⟨E, A1, c1, A2, c2, xs, ys, hx5, hy5, hyb, rfl, ((ho1.set_out (.inl (by simp)) _).set_out (.inl (by simp)) _).more (by omega) (by simp [World.setCell]), ((hq1.set_out (.inl (by simp)) _).set_out (.inl (by simp)) _).more (by omega) (by simp [World.setCell]), (B1.setCell (by simp) _).setCell (by simp) _⟩

end Go.Proofs.Ytakmbpdapdnniaa
