/-
  The cases and awards that are drawn for pairs and for the middle, and the cases for halves: at most five small numbers each, in new memory. No condition.
-/
import Derived.Test.YtmkmipgboecdaaaGD
import Derived.Test.YtmkmipgboecdaaaSpecHalf
namespace Go.Proofs.Ytmkmipgboecdaaa
open Go.RowKit

theorem halfAws_rg (E : Int) (xs : List Int) : ∀ y ∈ halfAws E xs, -1 ≤ y ∧ y ≤ 1000 := fun y hy => by
  unfold halfAws at hy
  split at hy
  · rename_i h
    have h1 := half_aw h
    have h2 := aw_range h h1.2.1 h1.2.2.1 y hy
    omega
  · cases hy

set_option maxRecDepth 10000 in
set_option maxHeartbeats 400000 in
theorem drawHalfAwards_any (A : Option Addr) (c : Nat) (bs : List Int) (w : World) (h : Bytes w w.heap.size A bs) (hl : bs.length ≤ 9223372036854775807) (hc : bs.length ≤ c) :
    Calls Try.prog 47 #[.slice A bs.length c] w (DrawnCase w) := by
  have B0 := (Below.refl w.heap.size w).alloc (Nat.le_refl _) (.cells #[.int .i64 0, .slice none 0 0] 25)
  have x0 := Box.new w (.int .i64 0) (.slice none 0 0) 25
  have h0 := (h.below B0 (Nat.le_refl _)).more (hi' := (w.alloc (.cells #[.int .i64 0, .slice none 0 0] 25)).heap.size) (by rw [hsz]; omega)
  go_enter Try.func47, Try.ntmps47
  go_wp2_with fail
  refine (l20Open_any A c bs _ h0 hl hc).mono ?_
  rintro e w1 ⟨rfl, hb1, c', bs', hl', rd⟩
  have x1 := x0.below hb1 (by rw [hsz]; omega)
  rw [hsz] at hb1 rd
  have z1 := hb1.size
  rw [hsz] at z1
  have B1 := B0.trans (hb1.mono (by omega))
  clear h h0 hb1 x0 B0
  go_wp2_with fail
  refine (l20Case_any (w.heap.size + 1) A c' bs' 0 9 _ (by simpa [hsz] using rd) (by omega) (by omega) hl' (by omega)).mono ?_
  rintro e w2 ⟨E, A2, c2, xs, rfl, ho2, hx5, _, hch2⟩
  have x2 := x1.chg hch2 (by omega)
  have z2 := hch2.size
  have B2 := B1.trans (hch2.below (B := w.heap.size) (by omega) (by omega))
  have p1 := x2.c0
  have p2 := x2.c1
  have p3 := x2.f0
  have p4 := x2.f1
  have ho2' : Own w2 (w.heap.size + 1) w2.heap.size A2 xs := ho2.more (by omega) (Nat.le_refl _)
  clear x1 x2 hch2 rd ho2 B1
  go_wp2
  refine bodyPost_ret (v := .agg #[.int .i64 E, .slice A2 xs.length c2]) (by simp [results, Try.results47, go_sem, p1, p2]) rfl ?_
  exact ⟨E, A2, c2, xs, hx5, rfl, ((ho2'.set_out (.inl (by simp)) _).set_out (.inl (by simp)) _).more (by omega) (by simp [World.setCell]), (B2.setCell (by simp) _).setCell (by simp) _⟩

end Go.Proofs.Ytmkmipgboecdaaa
