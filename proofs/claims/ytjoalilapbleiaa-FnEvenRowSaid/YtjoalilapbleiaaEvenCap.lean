/-
  The program's even row once more: also that its slice has the room that it says. No condition.
-/
import Derived.Test.YtjoalilapbleiaaEvenRow
namespace Go.Proofs.Ytjoalilapbleiaa
open Go.RowKit

/-- As RetIntsB, and the slice's room. -/
def RetIntsC (w : World) (xs : List Int) (b : Bool) (e : Ending) (w' : World) : Prop :=
  ∃ A c, xs.length ≤ c ∧ e = .returned (.tuple #[.slice A xs.length c, .bool b]) ∧ Own w' w.heap.size w'.heap.size A xs ∧ Below w.heap.size w w'

set_option maxRecDepth 10000 in
set_option maxHeartbeats 1000000 in
theorem implEvenRow_cap (A : Option Addr) (c : Nat) (xs : List Int) (e : Int) (w : World) (lo hi : Nat) (h : Ints w lo hi A xs) (hh : hi ≤ w.heap.size) (hb : evenB xs e = true) :
    Calls Try.prog 28 #[.slice A xs.length c, .int .i64 e] w (RetIntsC w (evenOf xs e) true) := by
  obtain ⟨i0, hi0, hq0, hq1, hq2⟩ := info_parts info_int
  obtain ⟨hp, ⟨h0, h1⟩, hok⟩ := (evenB_iff xs e).1 hb
  have hs := part_small hp
  have hlen : xs.length ≤ 4 := ((partB_iff xs).1 hp).2.1
  have HP := Lib.hid hp
  have HK := Lib.hid hok
  clear hb hp hok
  go_enter Try.func28, Try.ntmps28
  go_wp2_with fail
  refine (partOk_is A c xs _ lo hi h (by omega) HP.out).mono ?_
  rintro en w' ⟨rfl, rfl⟩
  go_wp2_with fail
  refine (sumOf_any A c xs _ lo hi h hs).mono ?_
  rintro en w' ⟨rfl, rfl⟩
  go_wp2_with fail
  refine (levelOf_is A c xs e _ lo hi h hh HP.out h0 h1 HK.out).mono ?_
  rintro en w1 ⟨rfl, hb1⟩
  have k1 := h.below hb1 hh
  have z1 := hb1.size
  have HB := Lib.hid hb1
  have hz1 : hi ≤ w1.heap.size := by omega
  have HR : Hid (∀ k (h : k < xs.length), (evenOf xs e)[k]'(by rw [evenOf_length]; exact h) = min xs[k] (evenLev xs e)) := evenOf_min xs e
  have HRl := Lib.hid (evenOf_length xs e)
  clear hb1 h
  obtain ⟨V, hV⟩ : ∃ V, V = evenLev xs e := ⟨_, rfl⟩
  rw [← hV] at HR
  rw [← hV]
  clear hV
  go_wp2_with (at_make; refine wpList_make_full _ rfl _ _ _ rfl w1.heap.size 3 i0 _ 1 Try.underlying23 hi0 hq0 hq1 .i64 .i64 xs.length xs.length xs.length rfl rfl rfl rfl (by rw [hq2]; omega) (by unfold maxLen; omega) (Nat.le_refl _) ?_; intro wm hownm hgrowm; have bm : Below w1.heap.size w1 wm := (Below.refl _ _).grown hgrowm (Nat.le_refl _) (by intro k hk; cases hk); have hownm' := fill_start (R := evenOf xs e) HRl.out hownm; clear hownm hgrowm; have zm := bm.size)
  go_loopw [37] (fun i wr => ∃ k : Nat, k ≤ xs.length ∧ i = .int .i64 k ∧ wr.ownsRow w1.heap.size 3 1 (.slice (some ⟨w1.heap.size, 0, none⟩) xs.length xs.length) xs.length (ints (fillTo (evenOf xs e) k)) ∧ Below w1.heap.size w1 wr) (fun i _ => xs.length - (intOf i).toNat)
  case atStart => exact ⟨0, Nat.zero_le _, rfl, hownm', bm⟩
  case round =>
    obtain ⟨k, hk, rfl, hown, hbel⟩ := hrel
    clear hownm' bm
    have zr := hbel.size
    by_cases hlt : k < xs.length
    · obtain ⟨b, o, rfl, _, hbh, hc⟩ := (k1.below hbel (by omega)).at_ hlt
      obtain ⟨hd, hf⟩ := fill_cell hown HRl.out hlt
      have hst := fill_more hown (by rw [HRl.out]; exact hlt) (min xs[k] V) (HR.out k hlt)
      have hbel' := hbel.setCell (p := ⟨w1.heap.size, k, none⟩) (Nat.le_refl _) (.int .i64 (min xs[k] V))
      have H := Lib.hid (And.intro hst hbel')
      clear hst hbel' hown hbel
      go_wp2
      go_roundw
      case rel => exact ⟨k + 1, by omega, by go_num, H.out.1, H.out.2⟩
      case measure => simp [intOf]; omega
    · obtain rfl : k = xs.length := by omega
      have how := fill_end hown HRl.out
      have H := Lib.hid (And.intro how (HB.out.trans (hbel.mono z1)))
      clear how hown hbel
      go_wp2
      go_ret2
      exact ⟨some ⟨w1.heap.size, 0, none⟩, xs.length, by rw [HRl.out]; exact Nat.le_refl _, by rw [HRl.out]; rfl, H.out.1.more z1 (Nat.le_refl _), H.out.2⟩

end Go.Proofs.Ytjoalilapbleiaa
