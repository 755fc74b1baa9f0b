/-
  EvenAwards, EvenLevel, EvenLosses and LossLevel of the given package: what they return of each case, and of what is none; they make new memory only. No condition but a length that fits.
-/
import Derived.Test.YtilhholjbjhaeaaSpecEven
import Derived.Test.YtilhholjbjhaeaaImplEven
import Derived.Deep.AppendLies
namespace Go.Proofs.Ytilhholjbjhaeaa
open Go.RowKit

set_option maxRecDepth 10000 in
set_option maxHeartbeats 800000 in
theorem l2Parts_any (A : Option Addr) (c : Nat) (xs : List Int) (w : World) (lo hi : Nat) (h : Ints w lo hi A xs) (hh : hi ≤ w.heap.size) (hs : Small xs) :
    Calls Try.prog 42 #[.slice A xs.length c, .int .i64 48] w (RetInts w (inP xs)) := by
  obtain ⟨i0, hi0, hz0, hz1, hz2⟩ := info_parts info_int
  have hl := hs.1
  have HRl := Lib.hid (inP_length xs)
  have hB0 : (w.alloc (.cells #[] 3)).ownsRow w.heap.size 3 1 (.slice (some ⟨w.heap.size, 0, none⟩) 0 0) ((inP xs).take 0).length (ints ((inP xs).take 0)) := World.ownsRow_made w #[] 0 (Nat.le_refl _) (by unfold maxLen; omega) rfl
  have hb0 := (Below.refl w.heap.size w).alloc (Nat.le_refl _) (.cells #[] 3)
  go_enter Try.func42, Try.ntmps42
  go_wp2
  go_loopw [5, 6] (fun v i wr => ∃ k : Nat, k ≤ xs.length ∧ i = .int .i64 k ∧ wr.ownsRow w.heap.size 3 1 v ((inP xs).take k).length (ints ((inP xs).take k)) ∧ Below w.heap.size w wr) (fun _ i _ => xs.length - (intOf i).toNat)
  case atStart => exact ⟨0, Nat.zero_le _, rfl, hB0, hb0⟩
  case round =>
    obtain ⟨k, hk, rfl, hown, hbel⟩ := hrel
    clear hB0 hb0
    have hbs := hbel.size
    by_cases hlt : k < xs.length
    · obtain ⟨b, o, rfl, _, hbh, hc0⟩ := h.at_ hlt
      have hc : wr.cell? ⟨b, o + k, none⟩ = some (.int .i64 xs[k]) := (hbel.cell (by show b < _; omega)).trans hc0
      have hv := small_at xs hs k hlt
      have hlen : ((inP xs).take k).length = k := by rw [List.length_take, HRl.out]; omega
      rw [hlen] at hown
      clear hlen hc0
      have HV := Lib.hid (inP_at xs k hlt)
      have hA := hown.alloc (.cells #[.int .i64 (xs[k] * 48)] 3)
      go_wp2_with (at_builtin; refine wpList_append_own _ rfl _ _ 29 rfl w.heap.size 3 i0 (.int .i64 0) 1 8 Try.underlying29 hi0 hz0 hz1 hz2 rfl (by decide) _ _ _ rfl hA ⟨wr.heap.size, 0, none⟩ 1 1 [.int .i64 (xs[k] * 48)] rfl rfl (news_one _ _ _) (one_cell _) (by unfold maxLen; omega) (by omega) (by simp; omega) ?_; intro v1 w1 hown1 hgrow1 _)
      have hn := append_one (R := inP xs) (k := k) (by rw [HRl.out]; exact hlt) _ (HV.out.trans (Int.mul_comm _ _)) rfl hown1
      have hb1 := (hbel.alloc hbs (.cells #[.int .i64 (xs[k] * 48)] 3)).grown hgrow1 (by simp; omega) (fun g hg => ((hown.lt g hg).1))
      have H := Lib.hid (And.intro hn hb1)
      clear hn hb1 hown1 hgrow1 hown hA hbel
      go_wp2
      go_roundw
      case rel => exact ⟨k + 1, by omega, by go_num, H.out.1, H.out.2⟩
      case measure => simp [intOf]; omega
    · obtain rfl : k = xs.length := by omega
      have he : (inP xs).take xs.length = inP xs := by rw [← HRl.out]; exact List.take_length
      rw [he] at hown
      have H := Lib.hid (And.intro hown hbel)
      clear hown hbel he
      go_wp2
      go_ret
      obtain ⟨A', c', e1, _, ho⟩ := own_of_row H.out.1
      exact ⟨A', c', congrArg Ending.returned e1, ho, H.out.2⟩

theorem even_at_bd {E : Int} {xs : List Int} (h : caseOkB E xs = true) (k : Nat) (hk : k < xs.length) : (0 ≤ xs[k] ∧ xs[k] ≤ 12) ∧ 0 ≤ (evenAw (xs.sum - E) xs)[k]'(by rw [evenAw_length]; exact hk) ∧ (evenAw (xs.sum - E) xs)[k]'(by rw [evenAw_length]; exact hk) ≤ 576 := by
  have h1 := ((caseOk_iff E xs).1 h).2.2.1 _ (List.getElem_mem hk)
  have h2 := evenLv_bd (other_ok h)
  rw [evenAw_at _ xs k hk]
  omega
/-- What an append to the row at g leaves of what was there, where g is the row made first or one made later. -/
theorem chg_row {w3 W w' : World} {B g n c : Nat} (h : Chg B (B + 1) w3 W) (hg : W.grownBy w' (Value.ownBlock (.slice (some ⟨g, 0, none⟩) n c))) (hgg : g = B ∨ w3.heap.size ≤ g) : Chg B (B + 1) w3 w' :=
  ⟨hg.os.trans h.os, hg.tape.trans h.tape, hg.output.trans h.output, Nat.le_trans h.size hg.size, fun k hk hn => (hg.block k (Nat.lt_of_lt_of_le hk h.size) (fun e => by have e' : k = g := (Option.some.inj e).symm ▸ rfl; omega)).trans (h.block k hk hn)⟩

end Go.Proofs.Ytilhholjbjhaeaa
