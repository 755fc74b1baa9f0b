/-
  The claims in parts are new memory, each 48 times the claim. No condition but small numbers.
  What the promise on losses uses: whether a row is of awards, and losses of losses. No condition.
  With one unit more each right is as great, or one more; of all claims for the estate rights are the claims. No condition but that it is a case.
  What the promise on awards uses: each is at least the right, and at most the estate, in parts; all claims are awards. No condition but that they are awards, or that it is a case.
  Both functions KeepsOrder report whether awards keep the order of the claims, and their losses as well; they make new memory only.
  The order of claims is kept by the losses as by the awards, and always by even awards and even losses; in plain mathematics. No condition but that of a case.
  The laws' own comparison of two rows of numbers, of rows that may differ. No condition but lengths that fit.
  Both functions NamedCase return the case with the places of an order, and make new memory only.
  Names change no sums: the row at the places of an order has the same sum, its numbers are those of the row, and rights are named alike.
  What a promise on named cases uses: both functions NamedCase where it is a case and an order, and where not; each right of the named case is that of the person.
-/
import Derived.Test.YtbegdcnljafloaaGB
import Derived.Deep.RegionHeld3
import Derived.Test.YtbegdcnljafloaaGA
import Derived.BigQuiet
namespace Go.Proofs.Ytbegdcnljafloaa
open Go.RowKit

set_option maxRecDepth 10000 in
set_option maxHeartbeats 1000000 in
theorem inParts_any (A : Option Addr) (c : Nat) (xs : List Int) (w : World) (lo hi : Nat) (h : Ints w lo hi A xs) (hh : hi ≤ w.heap.size) (hs : Small xs) :
    Calls Try.prog 51 #[.slice A xs.length c] w (RetInts w (inP xs)) := by
  obtain ⟨i0, hi0, hq0, hq1, hq2⟩ := info_parts info_int
  have hlen := hs.1
  have hRl : (inP xs).length = xs.length := inP_length xs
  have HRl := Lib.hid hRl
  clear hRl
  go_enter Try.func51, Try.ntmps51
  go_wp2_with (at_make; refine wpList_make_full _ rfl _ _ _ rfl w.heap.size 3 i0 _ 1 Try.underlying29 hi0 hq0 hq1 .i64 .i64 xs.length xs.length xs.length rfl rfl rfl rfl (by rw [hq2]; omega) (by unfold maxLen; omega) (Nat.le_refl _) ?_; intro wm hownm hgrowm; have bm : Below w.heap.size w wm := (Below.refl _ _).grown hgrowm (Nat.le_refl _) (by intro k hk; cases hk); have hownm' := fill_start (R := inP xs) HRl.out hownm; clear hownm hgrowm; have zm := bm.size)
  go_loopw [11] (fun i wr => ∃ k : Nat, k ≤ xs.length ∧ i = .int .i64 k ∧ wr.ownsRow w.heap.size 3 1 (.slice (some ⟨w.heap.size, 0, none⟩) xs.length xs.length) xs.length (ints (fillTo (inP xs) k)) ∧ Below w.heap.size w wr) (fun i _ => xs.length - (intOf i).toNat)
  case atStart => exact ⟨0, Nat.zero_le _, rfl, hownm', bm⟩
  case round =>
    obtain ⟨k, hk, rfl, hown, hbel⟩ := hrel
    clear hownm' bm
    have zr := hbel.size
    by_cases hlt : k < xs.length
    · obtain ⟨b, o, rfl, _, hbh, hc⟩ := (h.below hbel hh).at_ hlt
      have hv := small_at xs hs k hlt
      obtain ⟨hd, hf⟩ := fill_cell hown HRl.out hlt
      have hst := fill_more hown (by rw [HRl.out]; exact hlt) (48 * xs[k]) (inP_at xs k hlt)
      have hbel' := hbel.setCell (p := ⟨w.heap.size, k, none⟩) (Nat.le_refl _) (.int .i64 (48 * xs[k]))
      have H := Lib.hid (And.intro hst hbel')
      clear hst hbel' hown hbel
      go_wp2
      go_roundw
      case rel => exact ⟨k + 1, by omega, by go_num, H.out.1, H.out.2⟩
      case measure => simp [intOf]; omega
    · obtain rfl : k = xs.length := by omega
      have how := fill_end hown HRl.out
      have H := Lib.hid (And.intro how hbel)
      clear how hown hbel
      go_wp2
      go_ret
      exact ⟨some ⟨w.heap.size, 0, none⟩, xs.length, by rw [HRl.out]; rfl, H.out.1, H.out.2⟩

end Go.Proofs.Ytbegdcnljafloaa
namespace Go.Proofs.Ytbegdcnljafloaa
open Go.RowKit

theorem implAwardsOk_is (E : Int) (A : Option Addr) (c : Nat) (xs : List Int) (D : Option Addr) (d : Nat) (ys : List Int) (w : World) (lo hi : Nat) (h : Ints w lo hi A xs) (hh : hi ≤ w.heap.size) (hl : xs.length ≤ 1152921504606846976)
    (lo' hi' : Nat) (h' : Ints w lo' hi' D ys) (hh' : hi' ≤ w.heap.size) (hl' : ys.length ≤ 1152921504606846976) {b : Bool} (hb : awardsB E xs ys = b) :
    Calls Try.prog 50 #[.agg #[.int .i64 E, .slice A xs.length c], .slice D ys.length d] w fun e w' => e = .returned (.bool b) ∧ Below w.heap.size w w' := by
  rw [← hb]
  exact implAwardsOk_any E A c xs D d ys w lo hi h hh hl lo' hi' h' hh' hl'
theorem implLossesOf_back (E : Int) (A : Option Addr) (c : Nat) (xs : List Int) (D : Option Addr) (d : Nat) (ys : List Int) (w : World) (lo hi : Nat) (h : Ints w lo hi A xs) (hh : hi ≤ w.heap.size) (hl : xs.length ≤ 1152921504606846976)
    (lo' hi' : Nat) (h' : Ints w lo' hi' D (lossesRow xs ys)) (hh' : hi' ≤ w.heap.size) (hl' : (lossesRow xs ys).length ≤ 1152921504606846976) (hok : awardsB E xs (lossesRow xs ys) = true) (hy : ys.length = xs.length) :
    Calls Try.prog 20 #[.agg #[.int .i64 E, .slice A xs.length c], .slice D (lossesRow xs ys).length d] w (RetInts w ys) := by
  have e := implLossesOf_yes E A c xs D d (lossesRow xs ys) w lo hi h hh hl lo' hi' h' hh' hl' hok
  rw [loss_twice xs ys hy] at e
  exact e
theorem aw_loss {E : Int} {xs ys : List Int} (h : awardsB E xs ys = true) : awardsB (xs.sum - E) xs (lossesRow xs ys) = true := (awardsB_iff _ _ _).2 (loss_aw ((awardsB_iff _ _ _).1 h))

end Go.Proofs.Ytbegdcnljafloaa
namespace Go.Proofs.Ytbegdcnljafloaa
open Go.RowKit

theorem more_ok {E : Int} {xs : List Int} (h : caseOkB E xs = true) (hE : E < xs.sum) : caseOkB (E + 1) xs = true := by
  have h1 := (caseOk_iff E xs).1 h
  exact (caseOk_iff (E + 1) xs).2 ⟨h1.1, h1.2.1, h1.2.2.1, by omega, by omega⟩
theorem more_no {E : Int} {xs : List Int} (hE : ¬ E < xs.sum) : caseOkB (E + 1) xs = false := by
  have h : ¬ caseOkB (E + 1) xs = true := fun h => by have := ((caseOk_iff (E + 1) xs).1 h).2.2.2.2; omega
  simpa using h
theorem all_ok {E : Int} {xs : List Int} (h : caseOkB E xs = true) : caseOkB xs.sum xs = true := by
  have h1 := (caseOk_iff E xs).1 h
  exact (caseOk_iff xs.sum xs).2 ⟨h1.1, h1.2.1, h1.2.2.1, by omega, by omega⟩
theorem rights_all_eq {E : Int} {xs : List Int} (h : caseOkB E xs = true) : rightsRow xs.sum xs = xs := by
  have h1 := (caseOk_iff E xs).1 h
  unfold rightsRow
  conv => rhs; rw [← List.map_id xs]
  apply List.map_congr_left
  intro x hx
  have := (h1.2.2.1 x hx).1
  simp only [id]
  omega
theorem more_at (E : Int) (xs : List Int) (k : Nat) (h : k < xs.length) : (rightsRow (E + 1) xs)[k]'(by rw [rightsRow_length]; exact h) = (rightsRow E xs)[k]'(by rw [rightsRow_length]; exact h) ∨ (rightsRow (E + 1) xs)[k]'(by rw [rightsRow_length]; exact h) = (rightsRow E xs)[k]'(by rw [rightsRow_length]; exact h) + 1 := by
  rw [rightsRow_at (E + 1) xs k h, rightsRow_at E xs k h]
  omega
end Go.Proofs.Ytbegdcnljafloaa
namespace Go.Proofs.Ytbegdcnljafloaa
open Go.RowKit

theorem specAwardsOk_is (E : Int) (A : Option Addr) (c : Nat) (xs : List Int) (D : Option Addr) (d : Nat) (ys : List Int) (w : World) (lo hi : Nat) (h : Ints w lo hi A xs) (hh : hi ≤ w.heap.size) (hl : xs.length ≤ 1152921504606846976)
    (lo' hi' : Nat) (h' : Ints w lo' hi' D ys) (hh' : hi' ≤ w.heap.size) (hl' : ys.length ≤ 1152921504606846976) {b : Bool} (hb : awardsB E xs ys = b) :
    Calls Try.prog 18 #[.agg #[.int .i64 E, .slice A xs.length c], .slice D ys.length d] w fun e w' => e = .returned (.bool b) ∧ Below w.heap.size w w' := by
  rw [← hb]
  exact specAwardsOk_any E A c xs D d ys w lo hi h hh hl lo' hi' h' hh' hl'
theorem losses_nonneg {E : Int} {xs ys : List Int} (h : Aw E xs ys) : ∀ x ∈ lossesRow xs ys, 0 ≤ x := fun x hx => by
  obtain ⟨j, hj, rfl⟩ := List.mem_iff_getElem.1 hx
  have h2 : j < ys.length := by rw [lossesRow_length h.2.1] at hj; exact hj
  have h1 : j < xs.length := by rw [← h.2.1]; exact h2
  rw [lossesRow_at j h1 h2]
  have := h.2.2.1 j h2 h1
  omega
theorem aw_right {E : Int} {xs ys : List Int} (h : Aw E xs ys) (k : Nat) (h1 : k < xs.length) (h2 : k < ys.length) : 48 * (rightsRow E xs)[k]'(by rw [rightsRow_length]; exact h1) ≤ ys[k] ∧ ys[k] ≤ 48 * E ∧ 0 ≤ ys[k] := by
  have h3 := h.2.2.1 k h2 h1
  have hl : k < (lossesRow xs ys).length := by rw [lossesRow_length h.2.1]; exact h2
  have h4 := le_of_sum_nonneg _ (losses_nonneg h) _ (List.getElem_mem hl)
  rw [loss_sum xs ys h.2.1, h.2.2.2, lossesRow_at k h1 h2] at h4
  have h5 := le_of_sum_nonneg ys (fun y hy => by
    obtain ⟨j, hj, rfl⟩ := List.mem_iff_getElem.1 hy
    exact (h.2.2.1 j hj (by rw [← h.2.1]; exact hj)).1) _ (List.getElem_mem h2)
  rw [h.2.2.2] at h5
  rw [rightsRow_at E xs k h1]
  omega
theorem all_aw {E : Int} {xs : List Int} (h : caseOkB E xs = true) : awardsB xs.sum xs (inP xs) = true := by
  refine (awardsB_iff _ _ _).2 (aw_of (all_ok h) (inP_length xs) (fun k h1 h2 => ?_) (inP_sum xs))
  rw [inP_at xs k h2]
  have := ((caseOk_iff E xs).1 h).2.2.1 _ (List.getElem_mem h2)
  omega

end Go.Proofs.Ytbegdcnljafloaa
namespace Go.Proofs.Ytbegdcnljafloaa
open Go.RowKit

/-- Of two places the one that claims no more has no greater award, and no greater loss. -/
def KeepAt (xs ys : List Int) (i j : Nat) : Prop := xs.getD i 0 ≤ xs.getD j 0 → ys.getD i 0 ≤ ys.getD j 0 ∧ (lossesRow xs ys).getD i 0 ≤ (lossesRow xs ys).getD j 0
def Keeps (xs ys : List Int) : Prop := ∀ i j, i < xs.length → j < xs.length → KeepAt xs ys i j
noncomputable def keepsB (E : Int) (xs ys : List Int) : Bool := @decide (awardsB E xs ys = true ∧ Keeps xs ys) (Classical.propDecidable _)
theorem keepsB_iff (E : Int) (xs ys : List Int) : keepsB E xs ys = true ↔ (awardsB E xs ys = true ∧ Keeps xs ys) := by simp [keepsB]
theorem keeps_no {E : Int} {xs ys : List Int} (h : awardsB E xs ys = false) : keepsB E xs ys = false := by
  have e : ¬ (awardsB E xs ys = true ∧ Keeps xs ys) := by simp [h]
  simp only [keepsB, decide_eq_false_iff_not]; exact e
theorem keeps_bad {E : Int} {xs ys : List Int} {i j : Nat} (hi : i < xs.length) (hj : j < xs.length) (h : ¬ KeepAt xs ys i j) : keepsB E xs ys = false := by
  have e : ¬ (awardsB E xs ys = true ∧ Keeps xs ys) := fun k => h (k.2 i j hi hj)
  simp only [keepsB, decide_eq_false_iff_not]; exact e
def KeepTo (xs ys : List Int) (k : Nat) : Prop := ∀ i j, i < k → j < xs.length → KeepAt xs ys i j
def KeepRow (xs ys : List Int) (k m : Nat) : Prop := ∀ j, j < m → KeepAt xs ys k j
theorem KeepTo.zero (xs ys : List Int) : KeepTo xs ys 0 := fun _ _ h => absurd h (by omega)
theorem KeepRow.zero (xs ys : List Int) (k : Nat) : KeepRow xs ys k 0 := fun _ h => absurd h (by omega)
theorem KeepRow.succ {xs ys : List Int} {k m : Nat} (h : KeepRow xs ys k m) (hk : KeepAt xs ys k m) : KeepRow xs ys k (m + 1) := fun j hj => by
  rcases Nat.lt_or_ge j m with h1 | h1
  · exact h j h1
  · obtain rfl : j = m := by omega
    exact hk
theorem KeepTo.succ {xs ys : List Int} {k : Nat} (h : KeepTo xs ys k) (hk : KeepRow xs ys k xs.length) : KeepTo xs ys (k + 1) := fun i j hi hj => by
  rcases Nat.lt_or_ge i k with h1 | h1
  · exact h i j h1 hj
  · obtain rfl : i = k := by omega
    exact hk j hj
theorem keeps_end {E : Int} {xs ys : List Int} (h : awardsB E xs ys = true) (hk : KeepTo xs ys xs.length) : keepsB E xs ys = true := (keepsB_iff E xs ys).2 ⟨h, hk⟩


set_option maxRecDepth 10000 in
set_option maxHeartbeats 400000 in
theorem implKeepsOrder_no (E : Int) (A : Option Addr) (c : Nat) (xs : List Int) (D : Option Addr) (d : Nat) (ys : List Int) (w : World) (lo hi : Nat) (h : Ints w lo hi A xs) (hh : hi ≤ w.heap.size) (hl : xs.length ≤ 1152921504606846976)
    (lo' hi' : Nat) (h' : Ints w lo' hi' D ys) (hh' : hi' ≤ w.heap.size) (hl' : ys.length ≤ 1152921504606846976) (hok : awardsB E xs ys = false) :
    Calls Try.prog 21 #[.agg #[.int .i64 E, .slice A xs.length c], .slice D ys.length d] w fun e w' => e = .returned (.bool (keepsB E xs ys)) ∧ Below w.heap.size w w' := by
  have HO := Lib.hid hok
  clear hok
  have k0 := h.alloc hh (.cells #[.int .i64 E, .slice A xs.length c] 31)
  have q0 := h'.alloc hh' (.cells #[.int .i64 E, .slice A xs.length c] 31)
  have B0 := (Below.refl w.heap.size w).alloc (Nat.le_refl _) (.cells #[.int .i64 E, .slice A xs.length c] 31)
  go_enter Try.func21, Try.ntmps21
  go_wp2_with fail
  refine (implAwardsOk_any E A c xs D d ys _ _ _ k0 (by rw [hsz]; omega) hl _ _ q0 (by rw [hsz]; omega) hl').mono ?_
  rintro e w1 ⟨he1, hb1⟩
  rw [HO.out] at he1
  subst he1
  rw [hsz] at hb1
  have B1 := B0.trans (hb1.mono (by omega))
  clear hb1
  go_wp2
  go_ret
  exact ⟨ret_bool (keeps_no HO.out).symm, B1⟩

set_option maxRecDepth 10000 in
set_option maxHeartbeats 4000000 in
theorem implKeepsOrder_yes (E : Int) (A : Option Addr) (c : Nat) (xs : List Int) (D : Option Addr) (d : Nat) (ys : List Int) (w : World) (lo hi : Nat) (h : Ints w lo hi A xs) (hh : hi ≤ w.heap.size) (hl : xs.length ≤ 1152921504606846976)
    (lo' hi' : Nat) (h' : Ints w lo' hi' D ys) (hh' : hi' ≤ w.heap.size) (hl' : ys.length ≤ 1152921504606846976) (hok : awardsB E xs ys = true) :
    Calls Try.prog 21 #[.agg #[.int .i64 E, .slice A xs.length c], .slice D ys.length d] w fun e w' => e = .returned (.bool (keepsB E xs ys)) ∧ Below w.heap.size w w' := by
  have hA := (awardsB_iff E xs ys).1 hok
  have hbd := caseOk_bd hA.1
  have HN := Lib.hid hA.2.1
  have hy4 : ys.length ≤ 4 := by have e := hA.2.1; omega
  have HO := Lib.hid hok
  clear hok hA
  have hRl := lossesRow_length HN.out
  have HRl := Lib.hid hRl
  clear hRl
  have k0 := h.alloc hh (.cells #[.int .i64 E, .slice A xs.length c] 31)
  have q0 := h'.alloc hh' (.cells #[.int .i64 E, .slice A xs.length c] 31)
  have a0 := new2 w (.int .i64 E) (.slice A xs.length c) 31
  have B0 := (Below.refl w.heap.size w).alloc (Nat.le_refl _) (.cells #[.int .i64 E, .slice A xs.length c] 31)
  go_enter Try.func21, Try.ntmps21
  go_wp2_with fail
  refine (implAwardsOk_any E A c xs D d ys _ _ _ k0 (by rw [hsz]; omega) hl _ _ q0 (by rw [hsz]; omega) hl').mono ?_
  rintro e w1 ⟨he1, hb1⟩
  rw [HO.out] at he1
  subst he1
  rw [hsz] at hb1
  obtain ⟨a1, a1'⟩ := keep2 hb1 a0 (by omega)
  have k1 := k0.below hb1 (by omega)
  have q1 := q0.below hb1 (by omega)
  have hz1 : w.heap.size + 1 ≤ w1.heap.size := by rw [← hsz w (.cells #[.int .i64 E, .slice A xs.length c] 31)]; exact hb1.size
  have B1 := B0.trans (hb1.mono (by omega))
  clear hb1 a0 k0 q0 h h' B0
  go_wp2_with fail
  refine (implLossesOf_yes E A c xs D d ys _ _ _ k1 (by omega) hl _ _ q1 (by omega) hl' HO.out).mono ?_
  rintro e w2 ⟨L, cl, rfl, ho2, hb2⟩
  obtain ⟨a2, a2'⟩ := keep2 hb2 ⟨a1, a1'⟩ (by omega)
  have k2 := k1.below hb2 (by omega)
  have q2 := q1.below hb2 (by omega)
  have B2 := B1.trans (hb2.mono (by omega))
  obtain ⟨b, o, rfl, _, _, hcx⟩ := k2 (by omega)
  obtain ⟨b', o', rfl, _, _, hcy⟩ := q2 (by have := HN.out; omega)
  obtain ⟨g, og, rfl, _, _, hcl⟩ := ho2.ints (by have := HN.out; rw [HRl.out]; omega)
  have HX := Lib.hid hcx
  have HY := Lib.hid (fun j (hj : j < ys.length) => hcy j hj)
  have HL := Lib.hid (fun j (hj : j < ys.length) => hcl j (by rw [HRl.out]; exact hj))
  have HLL : Hid (((lossesRow xs ys).length : Int) = (ys.length : Int)) := congrArg (fun n : Nat => (n : Int)) HRl.out
  rw [HRl.out]
  clear hb2 a1 a1' k1 q1 k2 q2 ho2 hcx hcy hcl B1
  go_wp2
  go_loopw [20] (fun i wr => ∃ k : Nat, k ≤ xs.length ∧ i = .int .i64 k ∧ KeepTo xs ys k ∧ ∃ n, wr = w2.drewN n) (fun i _ => xs.length - (intOf i).toNat)
  case atStart => exact ⟨0, Nat.zero_le _, rfl, KeepTo.zero xs ys, 0, rfl⟩
  case round =>
    obtain ⟨k, hk, rfl, hkt, n, rfl⟩ := hrel
    have HK := Lib.hid hkt
    clear hkt
    by_cases hlt : k < xs.length
    · have hlt' : k < ys.length := by have := HN.out; omega
      have hk0 : (0 : Int) ≤ (k : Int) := by omega
      have hk1 : (k : Int) < (xs.length : Int) := by omega
      have hk2 : (k : Int) < (ys.length : Int) := by omega
      have x1 : w2.cell? ⟨b, o + k, none⟩ = some (.int .i64 (xs.getD k 0)) := HX.out k (by omega)
      have y1 : w2.cell? ⟨b', o' + k, none⟩ = some (.int .i64 (ys.getD k 0)) := HY.out k (by omega)
      have l1 : w2.cell? ⟨g, og + k, none⟩ = some (.int .i64 ((lossesRow xs ys).getD k 0)) := HL.out k (by omega)
      obtain ⟨u1, hu1⟩ : ∃ u, u = xs.getD k 0 := ⟨_, rfl⟩
      obtain ⟨v1, hv1⟩ : ∃ u, u = ys.getD k 0 := ⟨_, rfl⟩
      obtain ⟨t1, ht1⟩ : ∃ u, u = (lossesRow xs ys).getD k 0 := ⟨_, rfl⟩
      rw [← hu1] at x1
      rw [← hv1] at y1
      rw [← ht1] at l1
      have HU1 := Lib.hid hu1
      have HV1 := Lib.hid hv1
      have HT1 := Lib.hid ht1
      clear hu1 hv1 ht1
      go_wp2
      go_loopw [28] (fun i wr => ∃ m : Nat, m ≤ xs.length ∧ i = .int .i64 m ∧ KeepRow xs ys k m ∧ ∃ n, wr = w2.drewN n) (fun i _ => xs.length - (intOf i).toNat)
      case atStart => exact ⟨0, Nat.zero_le _, rfl, KeepRow.zero xs ys k, n, rfl⟩
      case round =>
        obtain ⟨m, hm, rfl, hkr, n', rfl⟩ := hrel
        have HR := Lib.hid hkr
        clear hkr
        by_cases hlm : m < xs.length
        · have hlm' : m < ys.length := by have := HN.out; omega
          have hm0 : (0 : Int) ≤ (m : Int) := by omega
          have hm1 : (m : Int) < (xs.length : Int) := by omega
          have hm2 : (m : Int) < (ys.length : Int) := by omega
          have x2 : w2.cell? ⟨b, o + m, none⟩ = some (.int .i64 (xs.getD m 0)) := HX.out m (by omega)
          have y2 : w2.cell? ⟨b', o' + m, none⟩ = some (.int .i64 (ys.getD m 0)) := HY.out m (by omega)
          have l2 : w2.cell? ⟨g, og + m, none⟩ = some (.int .i64 ((lossesRow xs ys).getD m 0)) := HL.out m (by omega)
          obtain ⟨u2, hu2⟩ : ∃ u, u = xs.getD m 0 := ⟨_, rfl⟩
          obtain ⟨v2, hv2⟩ : ∃ u, u = ys.getD m 0 := ⟨_, rfl⟩
          obtain ⟨t2, ht2⟩ : ∃ u, u = (lossesRow xs ys).getD m 0 := ⟨_, rfl⟩
          rw [← hu2] at x2
          rw [← hv2] at y2
          rw [← ht2] at l2
          have HA : Hid (KeepAt xs ys k m ↔ (u1 ≤ u2 → v1 ≤ v2 ∧ t1 ≤ t2)) := by
            show _ ↔ _
            rw [KeepAt, ← HU1.out, ← HV1.out, ← HT1.out, ← hu2, ← hv2, ← ht2]
          clear hu2 hv2 ht2
          by_cases c1 : u1 ≤ u2
          · have d1 : decide (u1 ≤ u2) = true := by simpa using c1
            by_cases c2 : v2 < v1
            · have d2 : decide (v2 < v1) = true := by simpa using c2
              have HS : Hid (keepsB E xs ys = false) := keeps_bad (i := k) (j := m) (by omega) (by omega) (fun h => by have e := HA.out.1 h c1; omega)
              have HB : Hid (∀ n, Below w.heap.size w (w2.drewN n)) := fun n => below_drewN B2 n
              go_wp2
              go_quiet (fail)
              go_wp2
              go_ret
              exact ⟨ret_bool HS.out.symm, by first | exact HB.out _ | (rw [World.drewN_drewN]; exact HB.out _)⟩
            · have d2 : decide (v2 < v1) = false := by simpa using c2
              by_cases c3 : t2 < t1
              · have d3 : decide (t2 < t1) = true := by simpa using c3
                have HS : Hid (keepsB E xs ys = false) := keeps_bad (i := k) (j := m) (by omega) (by omega) (fun h => by have e := HA.out.1 h c1; omega)
                have HB : Hid (∀ n, Below w.heap.size w (w2.drewN n)) := fun n => below_drewN B2 n
                go_wp2
                go_quiet (fail)
                go_wp2
                go_ret
                exact ⟨ret_bool HS.out.symm, by first | exact HB.out _ | (rw [World.drewN_drewN]; exact HB.out _)⟩
              · have d3 : decide (t2 < t1) = false := by simpa using c3
                have HS : Hid (KeepRow xs ys k (m + 1)) := HR.out.succ (HA.out.2 (fun _ => ⟨by omega, by omega⟩))
                go_wp2
                go_quiet (fail)
                go_wp2
                go_roundw
                case rel => exact ⟨m + 1, by omega, by go_num, HS.out, by first | exact ⟨_, rfl⟩ | (rw [World.drewN_drewN]; exact ⟨_, rfl⟩)⟩
                case measure => simp [intOf]; omega
          · have d1 : decide (u1 ≤ u2) = false := by simpa using c1
            have HS : Hid (KeepRow xs ys k (m + 1)) := HR.out.succ (HA.out.2 (fun h => absurd h c1))
            go_wp2
            go_quiet (fail)
            go_wp2
            go_roundw
            case rel => exact ⟨m + 1, by omega, by go_num, HS.out, by first | exact ⟨_, rfl⟩ | (rw [World.drewN_drewN]; exact ⟨_, rfl⟩)⟩
            case measure => simp [intOf]; omega
        · have hme : m = xs.length := by omega
          have HS : Hid (KeepTo xs ys (k + 1)) := HK.out.succ (by have e := HR.out; rw [hme] at e; exact e)
          have hmn : ¬ (m : Int) < (xs.length : Int) := by omega
          go_wp2
          go_roundw
          case rel => exact ⟨k + 1, by omega, by go_num, HS.out, by first | exact ⟨_, rfl⟩ | (rw [World.drewN_drewN]; exact ⟨_, rfl⟩)⟩
          case measure => simp [intOf]; omega
    · obtain rfl : k = xs.length := by omega
      have HS : Hid (keepsB E xs ys = true) := keeps_end HO.out (by have e := HK.out; exact e)
      have HB : Hid (∀ n, Below w.heap.size w (w2.drewN n)) := fun n => below_drewN B2 n
      go_wp2
      go_ret
      exact ⟨ret_bool HS.out.symm, by first | exact HB.out _ | (rw [World.drewN_drewN]; exact HB.out _)⟩

theorem implKeepsOrder_any (E : Int) (A : Option Addr) (c : Nat) (xs : List Int) (D : Option Addr) (d : Nat) (ys : List Int) (w : World) (lo hi : Nat) (h : Ints w lo hi A xs) (hh : hi ≤ w.heap.size) (hl : xs.length ≤ 1152921504606846976)
    (lo' hi' : Nat) (h' : Ints w lo' hi' D ys) (hh' : hi' ≤ w.heap.size) (hl' : ys.length ≤ 1152921504606846976) :
    Calls Try.prog 21 #[.agg #[.int .i64 E, .slice A xs.length c], .slice D ys.length d] w fun e w' => e = .returned (.bool (keepsB E xs ys)) ∧ Below w.heap.size w w' := by
  by_cases hok : awardsB E xs ys = true
  · exact implKeepsOrder_yes E A c xs D d ys w lo hi h hh hl lo' hi' h' hh' hl' hok
  · exact implKeepsOrder_no E A c xs D d ys w lo hi h hh hl lo' hi' h' hh' hl' (by simpa using hok)

end Go.Proofs.Ytbegdcnljafloaa
namespace Go.Proofs.Ytbegdcnljafloaa
open Go.RowKit

theorem loss_getD {xs ys : List Int} (hl : ys.length = xs.length) (k : Nat) (h : k < xs.length) : (lossesRow xs ys).getD k 0 = 48 * xs.getD k 0 - ys.getD k 0 := by
  rw [getD_of_lt _ k (by rw [lossesRow_length hl, hl]; exact h), getD_of_lt xs k h, getD_of_lt ys k (by rw [hl]; exact h)]
  exact lossesRow_at k h (by rw [hl]; exact h)
theorem keeps_loss {E : Int} {xs ys : List Int} (h : awardsB E xs ys = true) : keepsB (xs.sum - E) xs (lossesRow xs ys) = keepsB E xs ys := by
  have hA := (awardsB_iff E xs ys).1 h
  have h2 : awardsB (xs.sum - E) xs (lossesRow xs ys) = true := (awardsB_iff _ _ _).2 (loss_aw hA)
  have hl := hA.2.1
  have e2 := loss_twice xs ys hl
  have hk : Keeps xs (lossesRow xs ys) ↔ Keeps xs ys := by
    constructor
    · intro k i j hi hj hx
      have e := k i j hi hj hx
      rw [e2] at e
      exact ⟨e.2, e.1⟩
    · intro k i j hi hj hx
      have e := k i j hi hj hx
      rw [e2]
      exact ⟨e.2, e.1⟩
  have e : keepsB (xs.sum - E) xs (lossesRow xs ys) = true ↔ keepsB E xs ys = true := by
    rw [keepsB_iff, keepsB_iff, hk]; simp [h, h2]
  exact Bool.eq_iff_iff.2 e
theorem keeps_aw {E : Int} {xs : List Int} (h : caseOkB E xs = true) : keepsB E xs (evenAw E xs) = true := by
  have hA := evenAw_aw h
  refine (keepsB_iff _ _ _).2 ⟨(awardsB_iff _ _ _).2 hA, fun i j hi hj hx => ?_⟩
  have e : ∀ k, k < xs.length → (evenAw E xs).getD k 0 = min (48 * xs.getD k 0) (evenLv E xs) := fun k hk => by
    rw [getD_of_lt _ k (by rw [evenAw_length]; exact hk), getD_of_lt xs k hk]; exact evenAw_at E xs k hk
  rw [loss_getD hA.2.1 i hi, loss_getD hA.2.1 j hj, e i hi, e j hj]
  omega
theorem keeps_lo {E : Int} {xs : List Int} (h : caseOkB E xs = true) : keepsB E xs (evenLo E xs) = true := by
  have h2 := keeps_aw (other_ok h)
  have h3 := (awardsB_iff _ _ _).2 (evenAw_aw (other_ok h))
  have e := keeps_loss h3
  rw [h2] at e
  have e3 : xs.sum - (xs.sum - E) = E := by omega
  rw [e3] at e
  exact e

theorem implKeeps_is (E : Int) (A : Option Addr) (c : Nat) (xs : List Int) (D : Option Addr) (d : Nat) (ys : List Int) (K : Bool) (w : World) (lo hi : Nat) (h : Ints w lo hi A xs) (hh : hi ≤ w.heap.size) (hl : xs.length ≤ 1152921504606846976)
    (lo' hi' : Nat) (h' : Ints w lo' hi' D ys) (hh' : hi' ≤ w.heap.size) (hl' : ys.length ≤ 1152921504606846976) (hK : keepsB E xs ys = K) :
    Calls Try.prog 21 #[.agg #[.int .i64 E, .slice A xs.length c], .slice D ys.length d] w fun e w' => e = .returned (.bool K) ∧ Below w.heap.size w w' := by
  have e := implKeepsOrder_any E A c xs D d ys w lo hi h hh hl lo' hi' h' hh' hl'
  rw [hK] at e
  exact e
end Go.Proofs.Ytbegdcnljafloaa
namespace Go.Proofs.Ytbegdcnljafloaa
open Go.RowKit

set_option maxRecDepth 10000 in
set_option maxHeartbeats 400000 in
theorem sameInts_any (A A' : Option Addr) (c c' : Nat) (xs ys : List Int) (w : World) (lo hi lo' hi' : Nat) (h : Ints w lo hi A xs) (h' : Ints w lo' hi' A' ys) (hl : xs.length ≤ 1152921504606846976) (_hl' : ys.length ≤ 1152921504606846976) :
    Calls Try.prog 24 #[.slice A xs.length c, .slice A' ys.length c'] w fun e w' => e = .returned (.bool (decide (xs = ys))) ∧ ∃ n, w' = w.drewN n := by
  by_cases hn : xs.length = ys.length
  · have HN := Lib.hid hn
    go_enter Try.func24, Try.ntmps24
    clear hn
    have hd : ((xs.length : Int) != (ys.length : Int)) = false := by rw [HN.out]; simp
    have hq : (xs.length : Int) = (ys.length : Int) := by rw [HN.out]
    go_wp2
    go_loopw [5] (fun i wr => ∃ k : Nat, k ≤ xs.length ∧ i = .int .i64 k ∧ SameTo xs ys k ∧ ∃ n, wr = w.drewN n) (fun i _ => xs.length - (intOf i).toNat)
    case atStart => exact ⟨0, Nat.zero_le _, rfl, SameTo.zero _ _, 0, rfl⟩
    case round =>
      obtain ⟨k, hk, rfl, hs, n, rfl⟩ := hrel
      have HS := Lib.hid hs
      clear hs
      by_cases hlt : k < xs.length
      · have hlt' : k < ys.length := by rw [← HN.out]; exact hlt
        obtain ⟨b, o, rfl, _, _, hc⟩ := h.at_ hlt
        obtain ⟨b', o', rfl, _, _, hc'⟩ := h'.at_ hlt'
        have hk0 : (0 : Int) ≤ (k : Int) := by omega
        have hk1 : (k : Int) < (xs.length : Int) := by omega
        have hk2 : (k : Int) < (ys.length : Int) := by omega
        by_cases hx : xs[k] = ys[k]
        · have HT := Lib.hid (HS.out.succ hlt hlt' hx)
          generalize xs[k] = x at hc hx
          generalize ys[k] = y at hc' hx
          subst hx
          have hX : (x != x) = false := by simp
          go_wp2
          go_quiet (fail)
          go_wp2
          go_roundw
          case rel => exact ⟨k + 1, by omega, by go_num, HT.out, _, rfl⟩
          case measure => simp [intOf]; omega
        · have HT := Lib.hid (ne_of_at hlt hlt' hx)
          generalize xs[k] = x at hc hx
          generalize ys[k] = y at hc' hx
          have hX : (x != y) = true := by simpa using hx
          go_wp2
          go_quiet (fail)
          go_wp2
          go_ret
          exact ⟨ret_bool (by simp [HT.out]), by first | exact ⟨_, rfl⟩ | (rw [World.drewN_drewN]; exact ⟨_, rfl⟩)⟩
      · obtain rfl : k = xs.length := by omega
        have HT := Lib.hid (HS.out.all HN.out)
        go_wp2
        go_ret
        exact ⟨ret_bool (by simp [HT.out]), _, rfl⟩
  · have HT : Hid (¬ xs = ys) := fun e => hn (by rw [e])
    have hq : ¬ (xs.length : Int) = (ys.length : Int) := by omega
    clear hn
    go_enter Try.func24, Try.ntmps24
    go_wp2
    go_ret
    exact ⟨ret_bool (by simp [HT.out]), 0, rfl⟩
theorem sameInts_no (A A' : Option Addr) (c c' : Nat) (xs ys : List Int) (w : World) (lo hi lo' hi' : Nat) (h : Ints w lo hi A xs) (h' : Ints w lo' hi' A' ys) (hl : xs.length ≤ 1152921504606846976) (hl' : ys.length ≤ 1152921504606846976) (hne : ¬ xs = ys) :
    Calls Try.prog 24 #[.slice A xs.length c, .slice A' ys.length c'] w fun e w' => e = .returned (.bool false) ∧ Below w.heap.size w w' :=
  (sameInts_any A A' c c' xs ys w lo hi lo' hi' h h' hl hl').mono fun _ _ ⟨e1, n, e2⟩ => ⟨by rw [e1, decide_eq_false hne], by rw [e2]; exact below_drewN (Below.refl _ _) n⟩
theorem sameInts_yes (A A' : Option Addr) (c c' : Nat) (xs ys : List Int) (w : World) (lo hi lo' hi' : Nat) (h : Ints w lo hi A xs) (h' : Ints w lo' hi' A' ys) (hl : xs.length ≤ 1152921504606846976) (he : xs = ys) :
    Calls Try.prog 24 #[.slice A xs.length c, .slice A' ys.length c'] w fun e w' => e = .returned (.bool true) ∧ Below w.heap.size w w' := by
  subst he; exact sameInts_below A A' c c' xs w lo hi lo' hi' h h' hl

end Go.Proofs.Ytbegdcnljafloaa
namespace Go.Proofs.Ytbegdcnljafloaa
open Go.RowKit

def placed (xs ys : List Int) (n : Nat) : Nat → List Int
  | 0 => List.replicate n 0
  | k + 1 => (placed xs ys n k).set (ys.getD k 0).toNat (xs.getD k 0)
theorem placed_length (xs ys : List Int) (n : Nat) : ∀ k, (placed xs ys n k).length = n
  | 0 => by simp [placed]
  | k + 1 => by simp [placed, placed_length xs ys n k]
noncomputable def namedB (E : Int) (xs ys : List Int) : Bool := caseOkB E xs && orderB xs.length ys
noncomputable def namedE (E : Int) (xs ys : List Int) : Int := if namedB E xs ys = true then E else 0
noncomputable def namedXs (E : Int) (xs ys : List Int) : List Int := if namedB E xs ys = true then placed xs ys xs.length ys.length else []
theorem namedXs_len (E : Int) (xs ys : List Int) : (namedXs E xs ys).length ≤ xs.length := by
  unfold namedXs
  split
  · rw [placed_length]; exact Nat.le_refl _
  · simp
theorem order_iff {n : Nat} {ys : List Int} (h : orderB n ys = true) : ys.length = n ∧ OrdTo ys n ys.length := by simpa [orderB] using h
theorem placed_start {w : World} {G : Nat} {e : TypeId} {xs ys : List Int} {n : Nat} (h : w.ownsRow G e 1 (.slice (some ⟨G, 0, none⟩) n n) n (madeCells (Value.int .i64 0).cells (n * 1)).toList) :
    w.ownsRow G e 1 (.slice (some ⟨G, 0, none⟩) n n) n (ints (placed xs ys n 0)) := by
  have e1 : ints (placed xs ys n 0) = (madeCells (Value.int .i64 0).cells (n * 1)).toList := by
    rw [Nat.mul_one]; show _ = (madeCells #[Value.int .i64 0] n).toList; rw [toList_madeCells_one]; simp [ints, placed]
  rw [e1]; exact h
theorem placed_more {w : World} {G : Nat} {e : TypeId} {n : Nat} {xs ys : List Int} {k y : Nat} (h : w.ownsRow G e 1 (.slice (some ⟨G, 0, none⟩) n n) n (ints (placed xs ys n k))) (hy : ys.getD k 0 = (y : Int)) (V : Int) (hV : xs.getD k 0 = V) :
    (w.setCell ⟨G, y, none⟩ (.int .i64 V)).ownsRow G e 1 (.slice (some ⟨G, 0, none⟩) n n) n (ints (placed xs ys n (k + 1))) := by
  have h1 := (h.stored y (.int .i64 V)).1
  have e2 : placed xs ys n (k + 1) = (placed xs ys n k).set y V := by show (placed xs ys n k).set (ys.getD k 0).toNat (xs.getD k 0) = _; rw [hy, hV, Int.toNat_natCast]
  rw [e2, ints_set]
  exact h1
theorem placed_cell {w : World} {G : Nat} {e : TypeId} {n : Nat} {xs ys : List Int} {k y : Nat} (h : w.ownsRow G e 1 (.slice (some ⟨G, 0, none⟩) n n) n (ints (placed xs ys n k))) (hy : y < n) :
    ∃ u : Int, w.cell? ⟨G, y, none⟩ = some (.int .i64 u) ∧ w.frozen? ⟨G, y, none⟩ = false :=
  ⟨_, by rw [h.cellAt y (by omega), ints_at _ y (by rw [placed_length]; exact hy)], h.frozenAt y⟩
theorem placed_own {w : World} {G : Nat} {e : TypeId} {n : Nat} {xs ys : List Int} {k : Nat} (h : w.ownsRow G e 1 (.slice (some ⟨G, 0, none⟩) n n) n (ints (placed xs ys n k))) :
    Own w G w.heap.size (some ⟨G, 0, none⟩) (placed xs ys n k) := by
  have hl := placed_length xs ys n k
  have h' : w.ownsRow G e 1 (.slice (some ⟨G, 0, none⟩) n n) (placed xs ys n k).length (ints (placed xs ys n k)) := by rw [hl]; exact h
  obtain ⟨A, c, e1, _, ho⟩ := own_of_row h'
  injection e1 with e1 _ _
  subst e1
  exact ho

theorem run_make_rowN {P : Program} (t e : TypeId) (i : TypeInfo) (z : Value) (ht : P.underlying t = some (.slice e)) (hi : P.info? e = some i) (hz : i.zero = some z)
    (kl kc : IntKind) (n c : Nat) (hnc : n ≤ c) (hbytes : i.bytes * c ≤ 281474976710656) (h63 : c ≤ 9223372036854775807) (w : World) :
    (Instr.makeSlice t (.int kl (n : Int)) (.int kc (c : Int))).run P w = .ok (.slice (some ⟨w.heap.size, 0, none⟩) n c) (w.alloc (.cells (madeCells z.cells (c * i.size)) e)) := by
  have hb : (i.bytes : Int) * (c : Int) ≤ 281474976710656 := by
    have h : ((i.bytes * c : Nat) : Int) ≤ 281474976710656 := by omega
    rwa [Int.natCast_mul] at h
  have hr := run_make (P := P) w t e i z ht hi hz kl kc n c (by omega) (by omega) hb (by omega)
  simp only [Int.toNat_natCast] at hr
  exact hr
theorem Box.drew {w : World} {b : Nat} {u v : Value} (h : Box w b u v) : Box w.drew b u v := ⟨h.c0, h.c1, h.f0, h.f1, h.lt⟩
def NMid (w2 : World) (E : Int) (xs ys : List Int) (G O k : Nat) (wr : World) : Prop :=
  Box wr O (.int .i64 E) (.slice (some ⟨G, 0, none⟩) xs.length xs.length) ∧ wr.ownsRow G 3 1 (.slice (some ⟨G, 0, none⟩) xs.length xs.length) xs.length (ints (placed xs ys xs.length k)) ∧ Below w2.heap.size w2 wr
theorem made_row (w : World) (xs ys : List Int) (hm : xs.length ≤ 1048576) {Z : Array Value} (hZ : Z = madeCells (Value.int .i64 0).cells (xs.length * 1)) :
    (w.alloc (.cells Z 3)).ownsRow w.heap.size 3 1 (.slice (some ⟨w.heap.size, 0, none⟩) xs.length xs.length) xs.length (ints (placed xs ys xs.length 0)) := by
  have hs : Z.size = xs.length * 1 := by rw [hZ]; exact size_madeCells _ _
  have h1 : (w.alloc (.cells Z 3)).ownsRow w.heap.size 3 1 (.slice (some ⟨w.heap.size, 0, none⟩) xs.length xs.length) xs.length Z.toList :=
    ⟨by simpa using hs, .inr ⟨w.heap.size, xs.length, Z, rfl, Nat.le_refl _, heap_alloc_new w _, Nat.le_refl _, by unfold maxLen; omega, hs, by rw [List.take_of_length_le]; simp [hs]⟩⟩
  rw [hZ] at h1
  rw [hZ]
  exact placed_start h1
theorem nmid_0 {w2 : World} {E : Int} {xs ys : List Int} {Z : Array Value} (hZ : Z = madeCells (Value.int .i64 0).cells (xs.length * 1)) (hm : xs.length ≤ 4) :
    NMid w2 E xs ys w2.heap.size (w2.heap.size + 1) 0 ((w2.alloc (.cells Z 3)).alloc (.cells #[.int .i64 E, .slice (some ⟨w2.heap.size, 0, none⟩) xs.length xs.length] 31)).drew := by
  have b := Box.new (w2.alloc (.cells Z 3)) (.int .i64 E) (.slice (some ⟨w2.heap.size, 0, none⟩) xs.length xs.length) 31
  rw [hsz] at b
  exact ⟨b.drew, ((made_row w2 xs ys (by omega) hZ).alloc _).drew, (((Below.refl _ _).alloc (Nat.le_refl _) _).alloc (by rw [hsz]; omega) _).drew⟩
theorem nmid_1 {w2 : World} {E : Int} {xs ys : List Int} {Z : Array Value} (hZ : Z = madeCells (Value.int .i64 0).cells (xs.length * 1)) (hm : xs.length ≤ 4) :
    NMid w2 E xs ys (w2.heap.size + 1) w2.heap.size 0 ((w2.alloc (.cells #[.int .i64 E, .slice (some ⟨w2.heap.size + 1, 0, none⟩) xs.length xs.length] 31)).alloc (.cells Z 3)).drew := by
  have b := (Box.new w2 (.int .i64 E) (.slice (some ⟨w2.heap.size + 1, 0, none⟩) xs.length xs.length) 31).alloc (.cells Z 3)
  have r := made_row (w2.alloc (.cells #[.int .i64 E, .slice (some ⟨w2.heap.size + 1, 0, none⟩) xs.length xs.length] 31)) xs ys (by omega) hZ
  rw [hsz] at r
  exact ⟨b.drew, r.drew, (((Below.refl _ _).alloc (Nat.le_refl _) _).alloc (by rw [hsz]; omega) _).drew⟩

end Go.Proofs.Ytbegdcnljafloaa
namespace Go.Proofs.Ytbegdcnljafloaa
open Go.RowKit

theorem getD_at (l : List Int) (i : Nat) (h : i < l.length) : l.getD i 0 = l[i] := by
  rw [List.getD_eq_getElem?_getD, List.getElem?_eq_getElem h]
  rfl
theorem sum_set : ∀ (l : List Int) (i : Nat) (v : Int), i < l.length → (l.set i v).sum = l.sum - l.getD i 0 + v
  | [], i, v, h => absurd h (by simp)
  | x :: l, 0, v, _ => by simp; omega
  | x :: l, i + 1, v, h => by
    have := sum_set l i v (by simpa using h)
    simp only [List.set_cons_succ, List.sum_cons, List.getD_cons_succ, this]
    omega
theorem getD_set_same {α : Type} (l : List α) (i : Nat) (v d : α) (h : i < l.length) : (l.set i v).getD i d = v := by simp [List.getD, h]
theorem getD_set_other {α : Type} (l : List α) (i j : Nat) (v d : α) (h : i ≠ j) : (l.set i v).getD j d = l.getD j d := by simp [List.getD, List.getElem?_set_ne h]
theorem placed_free (xs ys : List Int) (n : Nat) : ∀ k p, (seenAt ys n k).getD p false = false → (placed xs ys n k).getD p 0 = 0
  | 0, p, _ => by
    simp only [placed, List.getD, List.getElem?_replicate]
    split <;> rfl
  | k + 1, p, h => by
    by_cases e : (ys.getD k 0).toNat = p
    · by_cases hp : p < n
      · subst e
        rw [seenAt, getD_set_same _ _ _ _ (by rw [seenAt_length]; exact hp)] at h
        cases h
      · simp [List.getD, placed_length, hp]
    · rw [seenAt, getD_set_other _ _ _ _ _ e] at h
      rw [placed, getD_set_other _ _ _ _ _ e]
      exact placed_free xs ys n k p h
theorem seen_true (ys : List Int) (n : Nat) : ∀ k j, j < k → 0 ≤ ys.getD j 0 → ys.getD j 0 < n → (seenAt ys n k).getD (ys.getD j 0).toNat false = true
  | k + 1, j, hj, h0, h1 => by
    by_cases e : (ys.getD k 0).toNat = (ys.getD j 0).toNat
    · rw [seenAt, e, getD_set_same _ _ _ _ (by rw [seenAt_length]; omega)]
    · rw [seenAt, getD_set_other _ _ _ _ _ e]
      exact seen_true ys n k j (by have : j ≠ k := fun e' => e (by rw [e']); omega) h0 h1
theorem placed_sum (xs ys : List Int) (n : Nat) : ∀ k, k ≤ xs.length → OrdTo ys n k → (placed xs ys n k).sum = (xs.take k).sum
  | 0, _, _ => by simp [placed]
  | k + 1, hk, ho => by
    obtain ⟨h0, h1, hs⟩ := ho k (by omega)
    rw [placed, sum_set _ _ _ (by rw [placed_length]; omega), placed_free xs ys n k _ hs, placed_sum xs ys n k (by omega) fun j hj => ho j (by omega)]
    have e : xs.take (k + 1) = xs.take k ++ [xs.getD k 0] := by
      rw [List.take_add_one]
      simp [List.getD, List.getElem?_eq_getElem (show k < xs.length by omega)]
    rw [e, List.sum_append]
    simp
theorem placed_at (xs ys : List Int) (n : Nat) : ∀ k, OrdTo ys n k → ∀ j, j < k → (placed xs ys n k).getD (ys.getD j 0).toNat 0 = xs.getD j 0
  | k + 1, ho, j, hj => by
    obtain ⟨h0, h1, hs⟩ := ho k (by omega)
    by_cases e : j = k
    · subst e
      rw [placed, getD_set_same _ _ _ _ (by rw [placed_length]; omega)]
    · obtain ⟨g0, g1, _⟩ := ho j (by omega)
      have hne : (ys.getD k 0).toNat ≠ (ys.getD j 0).toNat := fun e2 => by
        have := seen_true ys n k j (by omega) g0 g1
        rw [← e2, hs] at this
        cases this
      rw [placed, getD_set_other _ _ _ _ _ hne]
      exact placed_at xs ys n k (fun i hi => ho i (by omega)) j (by omega)
theorem placed_mem (xs ys : List Int) (n : Nat) (P : Int → Prop) (h0 : P 0) (hx : ∀ x ∈ xs, P x) : ∀ k, ∀ x ∈ placed xs ys n k, P x
  | 0, x, h => by
    rw [placed] at h
    rw [(List.mem_replicate.1 h).2]; exact h0
  | k + 1, x, h => by
    rw [placed] at h
    rcases List.mem_or_eq_of_mem_set h with h | h
    · exact placed_mem xs ys n P h0 hx k x h
    · rw [h]
      by_cases hk : k < xs.length
      · simp [List.getD, hk]; exact hx _ (List.getElem_mem hk)
      · simp [List.getD, hk]; exact h0
/-- The named case is a case, of the same sum, and rights are named alike. -/
theorem named_ok {E : Int} {xs ys : List Int} (h : caseOkB E xs = true) (ho : orderB xs.length ys = true) :
    caseOkB E (placed xs ys xs.length xs.length) = true ∧ (placed xs ys xs.length xs.length).sum = xs.sum := by
  obtain ⟨hl, hto⟩ := order_iff ho
  rw [hl] at hto
  have hs : (placed xs ys xs.length xs.length).sum = xs.sum := by rw [placed_sum xs ys _ _ (Nat.le_refl _) hto, List.take_length]
  refine ⟨?_, hs⟩
  have hc := (caseOk_iff E xs).1 h
  refine (caseOk_iff E _).2 ?_
  rw [placed_length, hs]
  exact ⟨hc.1, hc.2.1, placed_mem xs ys _ (fun x => 0 ≤ x ∧ x ≤ 12) (by omega) hc.2.2.1 _, hc.2.2.2⟩
theorem named_rights {E : Int} {xs ys : List Int} (h : caseOkB E xs = true) (ho : orderB xs.length ys = true) (k : Nat) (hk : k < xs.length) :
    0 ≤ ys.getD k 0 ∧ ys.getD k 0 < xs.length ∧ (rightsRow E (placed xs ys xs.length xs.length)).getD (ys.getD k 0).toNat 0 = (rightsRow E xs).getD k 0 := by
  obtain ⟨hl, hto⟩ := order_iff ho
  rw [hl] at hto
  obtain ⟨h0, h1, _⟩ := hto k hk
  refine ⟨h0, h1, ?_⟩
  have e := placed_at xs ys xs.length xs.length hto k hk
  have hy : (ys.getD k 0).toNat < (placed xs ys xs.length xs.length).length := by rw [placed_length]; omega
  have e1 : (placed xs ys xs.length xs.length).getD (ys.getD k 0).toNat 0 = (placed xs ys xs.length xs.length)[(ys.getD k 0).toNat]'hy := getD_at _ _ hy
  have e2 : xs.getD k 0 = xs[k] := getD_at _ _ hk
  rw [e1, e2] at e
  have hr : (ys.getD k 0).toNat < (rightsRow E (placed xs ys xs.length xs.length)).length := by rw [rightsRow_length]; exact hy
  have hr2 : k < (rightsRow E xs).length := by rw [rightsRow_length]; exact hk
  have e3 : (rightsRow E (placed xs ys xs.length xs.length)).getD (ys.getD k 0).toNat 0 = (rightsRow E (placed xs ys xs.length xs.length))[(ys.getD k 0).toNat]'hr := getD_at _ _ hr
  have e4 : (rightsRow E xs).getD k 0 = (rightsRow E xs)[k]'hr2 := getD_at _ _ hr2
  rw [e3, e4, rightsRow_at _ _ _ hy, rightsRow_at _ _ _ hk, (named_ok h ho).2, e]

end Go.Proofs.Ytbegdcnljafloaa
namespace Go.Proofs.Ytbegdcnljafloaa
open Go.RowKit

theorem namedB_parts {E : Int} {xs ys : List Int} (h : namedB E xs ys = true) : caseOkB E xs = true ∧ orderB xs.length ys = true := by simpa [namedB] using h
section
variable (E : Int) (A : Option Addr) (c : Nat) (xs : List Int) (D : Option Addr) (d : Nat) (ys : List Int) (w : World) (lo hi : Nat) (h : Ints w lo hi A xs) (hh : hi ≤ w.heap.size) (hl : xs.length ≤ 1152921504606846976)
    (lo' hi' : Nat) (h' : Ints w lo' hi' D ys) (hh' : hi' ≤ w.heap.size) (hl' : ys.length ≤ 1152921504606846976)
include h hh hl h' hh' hl'
end

/-- The place of person k, and what is there in a row that is named alike. -/
theorem named_row {E : Int} {xs ys R R' : List Int} (hb : namedB E xs ys = true) (hR : R.length = xs.length) (hR' : R'.length = xs.length)
    (ha : ∀ k, k < xs.length → R'.getD (ys.getD k 0).toNat 0 = R.getD k 0) (k : Nat) (hk : k < R.length) :
    ∃ y : Nat, ∃ hk' : k < ys.length, ys[k] = (y : Int) ∧ ∃ hy : y < R'.length, R'[y] = R[k] := by
  obtain ⟨hc, ho⟩ := namedB_parts hb
  obtain ⟨hl, hto⟩ := order_iff ho
  have hkx : k < xs.length := by omega
  obtain ⟨h0, h1, _⟩ := hto k (by omega)
  have hk' : k < ys.length := by omega
  have e1 : ys.getD k 0 = ys[k] := getD_at _ _ hk'
  rw [e1] at h0 h1
  have hy : ys[k].toNat < R'.length := by omega
  refine ⟨ys[k].toNat, hk', by omega, hy, ?_⟩
  have e2 := ha k hkx
  rw [e1, getD_at _ _ hy, getD_at _ _ hk] at e2
  exact e2
theorem named_rights' {E : Int} {xs ys : List Int} (hb : namedB E xs ys = true) : ∀ k, k < xs.length → (rightsRow E (placed xs ys xs.length xs.length)).getD (ys.getD k 0).toNat 0 = (rightsRow E xs).getD k 0 := fun k hk =>
  (named_rights (namedB_parts hb).1 (namedB_parts hb).2 k hk).2.2
end Go.Proofs.Ytbegdcnljafloaa
