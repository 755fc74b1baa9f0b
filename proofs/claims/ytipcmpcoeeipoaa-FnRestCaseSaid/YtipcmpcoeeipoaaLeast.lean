/-
  The model's row of cut numbers is a new row. No condition but a length that fits.
-/
import Derived.Test.YtipcmpcoeeipoaaClone
namespace Go.Proofs.Ytipcmpcoeeipoaa
open Go.RowKit

theorem rightsRow_if (E : Int) (xs : List Int) (k : Nat) (h : k < xs.length) : (rightsRow E xs)[k]'(by rw [rightsRow_length]; exact h) = if xs.sum - xs[k] < E then E - (xs.sum - xs[k]) else 0 := by
  rw [rightsRow_at E xs k h]
  split <;> omega
theorem rights_at_bd {E : Int} {xs : List Int} (h : caseOkB E xs = true) (k : Nat) (hk : k < xs.length) : 0 ≤ (rightsRow E xs)[k]'(by rw [rightsRow_length]; exact hk) ∧ (rightsRow E xs)[k]'(by rw [rightsRow_length]; exact hk) ≤ 12 := by
  rw [rightsRow_at E xs k hk]
  have h1 := (caseOk_iff E xs).1 h
  have h2 := h1.2.2.1 _ (List.getElem_mem hk)
  omega
theorem rights_all {E : Int} {xs : List Int} (h : caseOkB E xs = true) : ∀ x ∈ rightsRow E xs, 0 ≤ x ∧ x ≤ 12 := fun x hx => by
  obtain ⟨j, hj, rfl⟩ := List.getElem_of_mem hx
  exact rights_at_bd h j (by rwa [rightsRow_length] at hj)
theorem rights_small {E : Int} {xs : List Int} (h : caseOkB E xs = true) : Small (rightsRow E xs) :=
  small_of (by rw [rightsRow_length]; exact (caseOk_bd h).2.1) (rights_all h)
theorem rights_sum {E : Int} {xs : List Int} (h : caseOkB E xs = true) : -48 ≤ (rightsRow E xs).sum ∧ (rightsRow E xs).sum ≤ 48 := by
  have h1 := sum_bd_aux 12 (by omega) (rightsRow E xs) fun x hx => by have := rights_all h x hx; omega
  have h2 := (caseOk_bd h).2.1
  rw [rightsRow_length] at h1
  omega
/-- One number more at the end of a row of the call's own. -/
theorem append_one {w1 : World} {B : Nat} {e : TypeId} {v1 : Value} {R : List Int} {k : Nat} (hk : k < R.length) (V : Int) (hV : R[k] = V) {n : Nat} (hn : n = k + 1)
    (h : w1.ownsRow B e 1 v1 n (ints (R.take k) ++ [.int .i64 V])) : w1.ownsRow B e 1 v1 (R.take (k + 1)).length (ints (R.take (k + 1))) := by
  have e1 : ints (R.take (k + 1)) = ints (R.take k) ++ [.int .i64 V] := by
    unfold ints
    rw [List.take_succ_eq_append_getElem hk, ← hV, List.map_append]; rfl
  have e2 : (R.take (k + 1)).length = n := by rw [List.length_take]; omega
  rw [e1, e2]; exact h

theorem news_one (w : World) (x : Int) (t : TypeId) : ∀ j u, [Value.int .i64 x][j]? = some u → (w.alloc (.cells #[.int .i64 x] t)).cell? ((⟨w.heap.size, 0, none⟩ : Addr).add j) = some u := by
  intro j u hj
  match j, hj with
  | 0, hj => simp at hj; subst hj; simp [Addr.add, go_sem]
theorem one_cell (x : Int) : ∀ u ∈ [Value.int .i64 x], u.oneCell' = true := by
  intro u hu; simp at hu; subst hu; rfl

set_option maxHeartbeats 800000 in
theorem l1Least_any (A : Option Addr) (c : Nat) (xs : List Int) (E : Int) (w : World) (lo hi : Nat) (h : Ints w lo hi A xs) (hh : hi ≤ w.heap.size) (hl : xs.length ≤ 1048576) :
    Calls Try.prog 50 #[.slice A xs.length c, .int .i64 E] w (RetInts w (cutRow E xs)) := by
  obtain ⟨i0, hi0, hz0, hz1, hz2⟩ := info_parts info_int
  have hRl := cutRow_length E xs
  have HRl := Lib.hid hRl
  clear hRl
  have hB0 : (w.alloc (.cells #[] 3)).ownsRow w.heap.size 3 1 (.slice (some ⟨w.heap.size, 0, none⟩) 0 0) ((cutRow E xs).take 0).length (ints ((cutRow E xs).take 0)) := World.ownsRow_made w #[] 0 (Nat.le_refl _) (by unfold maxLen; omega) rfl
  have hb0 := (Below.refl w.heap.size w).alloc (Nat.le_refl _) (.cells #[] 3)
  go_enter Try.func50, Try.ntmps50
  go_wp2
  go_loopw [5, 6] (fun v i wr => ∃ k : Nat, k ≤ xs.length ∧ i = .int .i64 k ∧ wr.ownsRow w.heap.size 3 1 v ((cutRow E xs).take k).length (ints ((cutRow E xs).take k)) ∧ Below w.heap.size w wr) (fun _ i _ => xs.length - (intOf i).toNat)
  case atStart => exact ⟨0, Nat.zero_le _, rfl, hB0, hb0⟩
  case round =>
    obtain ⟨k, hk, rfl, hown, hbel⟩ := hrel
    clear hB0 hb0
    have hbs := hbel.size
    by_cases hlt : k < xs.length
    · obtain ⟨b, o, rfl, _, hbh, hc0⟩ := h.at_ hlt
      have hc : wr.cell? ⟨b, o + k, none⟩ = some (.int .i64 xs[k]) := (hbel.cell (by show b < _; omega)).trans hc0
      have hlen : ((cutRow E xs).take k).length = k := by rw [List.length_take, HRl.out]; omega
      rw [hlen] at hown
      clear hlen hc0
      by_cases hE : E < xs[k]
      · have hA := hown.alloc (.cells #[.int .i64 E] 3)
        have HV := Lib.hid ((cutRow_at E xs k hlt).trans (if_pos hE))
        go_wp2_with (at_builtin; refine wpList_append_own _ rfl _ _ 23 rfl w.heap.size 3 i0 (.int .i64 0) 1 8 Try.underlying23 hi0 hz0 hz1 hz2 rfl (by decide) _ _ _ rfl hA ⟨wr.heap.size, 0, none⟩ 1 1 [.int .i64 E] rfl rfl (news_one _ _ _) (one_cell _) (by unfold maxLen; omega) (by omega) (by simp; omega) ?_; intro v1 w1 hown1 hgrow1 _)
        have hn := append_one (R := cutRow E xs) (k := k) (by rw [HRl.out]; exact hlt) _ HV.out rfl hown1
        have hb1 := (hbel.alloc hbs (.cells #[.int .i64 E] 3)).grown hgrow1 (by simp; omega) (fun g hg => ((hown.lt g hg).1))
        have H := Lib.hid (And.intro hn hb1)
        clear hn hb1 hown1 hgrow1 hown hA hbel
        go_wp2
        go_roundw
        case rel => exact ⟨k + 1, by omega, by go_num, H.out.1, H.out.2⟩
        case measure => simp [intOf]; omega
      · have hA := hown.alloc (.cells #[.int .i64 (xs[k])] 3)
        have HV := Lib.hid ((cutRow_at E xs k hlt).trans (if_neg hE))
        go_wp2_with (at_builtin; refine wpList_append_own _ rfl _ _ 23 rfl w.heap.size 3 i0 (.int .i64 0) 1 8 Try.underlying23 hi0 hz0 hz1 hz2 rfl (by decide) _ _ _ rfl hA ⟨wr.heap.size, 0, none⟩ 1 1 [.int .i64 (xs[k])] rfl rfl (news_one _ _ _) (one_cell _) (by unfold maxLen; omega) (by omega) (by simp; omega) ?_; intro v1 w1 hown1 hgrow1 _)
        have hn := append_one (R := cutRow E xs) (k := k) (by rw [HRl.out]; exact hlt) _ HV.out rfl hown1
        have hb1 := (hbel.alloc hbs (.cells #[.int .i64 (xs[k])] 3)).grown hgrow1 (by simp; omega) (fun g hg => ((hown.lt g hg).1))
        have H := Lib.hid (And.intro hn hb1)
        clear hn hb1 hown1 hgrow1 hown hA hbel
        go_wp2
        go_roundw
        case rel => exact ⟨k + 1, by omega, by go_num, H.out.1, H.out.2⟩
        case measure => simp [intOf]; omega
    · obtain rfl : k = xs.length := by omega
      have he : (cutRow E xs).take xs.length = cutRow E xs := by rw [← HRl.out]; exact List.take_length
      rw [he] at hown
      have H := Lib.hid (And.intro hown hbel)
      clear hown hbel he
      go_wp2
      go_ret
      obtain ⟨A', c', e1, _, ho⟩ := own_of_row H.out.1
      exact ⟨A', c', congrArg Ending.returned e1, ho, H.out.2⟩

end Go.Proofs.Ytipcmpcoeeipoaa
