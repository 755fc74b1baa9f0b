/-
  Both functions LossesOf return the losses, and make new memory only.
-/
import Derived.Test.YtdhbeodgebdjjaaAwardsOk
import Derived.Test.YtdhbeodgebdjjaaLeast
import Derived.Deep.RegionHeld3
import Derived.Deep.AppendLies
namespace Go.Proofs.Ytdhbeodgebdjjaa
open Go.RowKit

def lossesRow (xs ys : List Int) : List Int := List.zipWith (fun x y => 48 * x - y) xs ys
theorem lossesRow_length {xs ys : List Int} (h : ys.length = xs.length) : (lossesRow xs ys).length = ys.length := by simp [lossesRow]; omega
theorem lossesRow_at {xs ys : List Int} (k : Nat) (h1 : k < xs.length) (h2 : k < ys.length) : (lossesRow xs ys)[k]'(by simp [lossesRow]; omega) = 48 * xs[k] - ys[k] := by simp [lossesRow]
noncomputable def losses (E : Int) (xs ys : List Int) : List Int := if awardsB E xs ys = true then lossesRow xs ys else []
theorem losses_len (E : Int) (xs ys : List Int) : (losses E xs ys).length ≤ xs.length := by
  unfold losses
  split
  · simp [lossesRow]; omega
  · simp

set_option maxRecDepth 10000 in
set_option maxHeartbeats 1000000 in
theorem implLossesOf_yes (E : Int) (A : Option Addr) (c : Nat) (xs : List Int) (D : Option Addr) (d : Nat) (ys : List Int) (w : World) (lo hi : Nat) (h : Ints w lo hi A xs) (hh : hi ≤ w.heap.size) (hl : xs.length ≤ 1152921504606846976)
    (lo' hi' : Nat) (h' : Ints w lo' hi' D ys) (hh' : hi' ≤ w.heap.size) (hl' : ys.length ≤ 1152921504606846976) (hok : awardsB E xs ys = true) :
    Calls Try.prog 25 #[.agg #[.int .i64 E, .slice A xs.length c], .slice D ys.length d] w (RetInts w (lossesRow xs ys)) := by
  obtain ⟨i0, hi0, hq0, hq1, hq2⟩ := info_parts info_int
  have hA := (awardsB_iff E xs ys).1 hok
  have hbd := caseOk_bd hA.1
  have HC := Lib.hid hA.1
  have HN := Lib.hid hA.2.1
  have hy4 : ys.length ≤ 4 := by have e := hA.2.1; omega
  have hrg := Lib.hid (aw_range hA.1 hA.2.1 hA.2.2.1)
  have HO := Lib.hid hok
  clear hok hA
  have hRl := lossesRow_length HN.out
  have HRl := Lib.hid hRl
  clear hRl
  have k0 := h.alloc hh (.cells #[.int .i64 E, .slice A xs.length c] 25)
  have q0 := h'.alloc hh' (.cells #[.int .i64 E, .slice A xs.length c] 25)
  have a0 := new2 w (.int .i64 E) (.slice A xs.length c) 25
  have B0 := (Below.refl w.heap.size w).alloc (Nat.le_refl _) (.cells #[.int .i64 E, .slice A xs.length c] 25)
  go_enter Try.func25, Try.ntmps25
  go_wp2_with fail
  refine (implAwardsOk_any E A c xs D d ys _ _ _ k0 (by rw [hsz]; omega) hl _ _ q0 (by rw [hsz]; omega) hl').mono ?_
  rintro e w1 ⟨he1, hb1⟩
  rw [HO.out] at he1
  subst he1
  rw [hsz] at hb1
  obtain ⟨a1, a1'⟩ := keep2 hb1 a0 (by omega)
  have k1 := k0.below hb1 (by omega)
  have q1 := q0.below hb1 (by omega)
  have hz1 : w.heap.size + 1 ≤ w1.heap.size := by rw [← hsz w (.cells #[.int .i64 E, .slice A xs.length c] 25)]; exact hb1.size
  have B1 := B0.trans (hb1.mono (by omega))
  clear hb1 a0 k0 q0 h h' B0
  have hRl : (lossesRow xs ys).length = ys.length := lossesRow_length HN.out
  have HRl := Lib.hid hRl
  clear hRl
  go_wp2_with (at_make; refine wpList_make_full _ rfl _ _ _ rfl w1.heap.size 3 i0 _ 1 Try.underlying23 hi0 hq0 hq1 .i64 .i64 ys.length ys.length ys.length rfl rfl rfl rfl (by rw [hq2]; omega) (by unfold maxLen; omega) (Nat.le_refl _) ?_; intro wm hownm hgrowm; have bm : Below w1.heap.size w1 wm := (Below.refl _ _).grown hgrowm (Nat.le_refl _) (by intro k hk; cases hk); have hownm' := fill_start (R := lossesRow xs ys) HRl.out hownm; clear hownm hgrowm; obtain ⟨am, am'⟩ := keep2 bm ⟨a1, a1'⟩ (by omega); have zm := bm.size)
  go_loopw [17] (fun i wr => ∃ k : Nat, k ≤ ys.length ∧ i = .int .i64 k ∧ wr.ownsRow w1.heap.size 3 1 (.slice (some ⟨w1.heap.size, 0, none⟩) ys.length ys.length) ys.length (ints (fillTo (lossesRow xs ys) k)) ∧ Below w1.heap.size w1 wr) (fun i _ => ys.length - (intOf i).toNat)
  case atStart => exact ⟨0, Nat.zero_le _, rfl, hownm', bm⟩
  case round =>
    obtain ⟨k, hk, rfl, hown, hbel⟩ := hrel
    clear hownm' bm
    obtain ⟨ar, ar'⟩ := keep2 hbel ⟨a1, a1'⟩ (by omega)
    have zr := hbel.size
    by_cases hlt : k < ys.length
    · have hlt2 : k < xs.length := by have := HN.out; omega
      obtain ⟨b, o, rfl, _, hbh, hc⟩ := (k1.below hbel (by omega)).at_ hlt2
      obtain ⟨b', o', rfl, _, hbh', hc'⟩ := (q1.below hbel (by omega)).at_ hlt
      have hv := case_at HC.out k hlt2
      have hvy := hrg.out _ (List.getElem_mem hlt)
      obtain ⟨hd, hf⟩ := fill_cell hown HRl.out hlt
      have hst := fill_more hown (by rw [HRl.out]; exact hlt) (48 * xs[k] - ys[k]) (lossesRow_at k hlt2 hlt)
      have hbel' := hbel.setCell (p := ⟨w1.heap.size, k, none⟩) (Nat.le_refl _) (.int .i64 (48 * xs[k] - ys[k]))
      have H := Lib.hid (And.intro hst hbel')
      clear hst hbel' hown hbel
      go_wp2
      go_roundw
      case rel => exact ⟨k + 1, by omega, by go_num, H.out.1, H.out.2⟩
      case measure => simp [intOf]; omega
    · obtain rfl : k = ys.length := by omega
      have how := fill_end hown HRl.out
      have Br := B1.trans (hbel.mono (by omega))
      have H := Lib.hid (And.intro how Br)
      clear how Br hown hbel
      go_wp2
      go_ret
      exact ⟨some ⟨w1.heap.size, 0, none⟩, ys.length, by rw [HRl.out]; rfl, H.out.1.more (by omega) (Nat.le_refl _), H.out.2⟩

set_option maxRecDepth 10000 in
set_option maxHeartbeats 400000 in
theorem implLossesOf_no (E : Int) (A : Option Addr) (c : Nat) (xs : List Int) (D : Option Addr) (d : Nat) (ys : List Int) (w : World) (lo hi : Nat) (h : Ints w lo hi A xs) (hh : hi ≤ w.heap.size) (hl : xs.length ≤ 1152921504606846976)
    (lo' hi' : Nat) (h' : Ints w lo' hi' D ys) (hh' : hi' ≤ w.heap.size) (hl' : ys.length ≤ 1152921504606846976) (hok : awardsB E xs ys = false) :
    Calls Try.prog 25 #[.agg #[.int .i64 E, .slice A xs.length c], .slice D ys.length d] w (RetInts w []) := by
  have HO := Lib.hid hok
  clear hok
  have k0 := h.alloc hh (.cells #[.int .i64 E, .slice A xs.length c] 25)
  have q0 := h'.alloc hh' (.cells #[.int .i64 E, .slice A xs.length c] 25)
  have B0 := (Below.refl w.heap.size w).alloc (Nat.le_refl _) (.cells #[.int .i64 E, .slice A xs.length c] 25)
  go_enter Try.func25, Try.ntmps25
  go_wp2_with fail
  refine (implAwardsOk_any E A c xs D d ys _ _ _ k0 (by rw [hsz]; omega) hl _ _ q0 (by rw [hsz]; omega) hl').mono ?_
  rintro e w1 ⟨he1, hb1⟩
  rw [HO.out] at he1
  subst he1
  rw [hsz] at hb1
  have B1 := B0.trans (hb1.mono (by omega))
  clear hb1
  go_wp2
  go_ret
  exact ⟨none, 0, rfl, Own.nil, B1⟩

theorem implLossesOf_any (E : Int) (A : Option Addr) (c : Nat) (xs : List Int) (D : Option Addr) (d : Nat) (ys : List Int) (w : World) (lo hi : Nat) (h : Ints w lo hi A xs) (hh : hi ≤ w.heap.size) (hl : xs.length ≤ 1152921504606846976)
    (lo' hi' : Nat) (h' : Ints w lo' hi' D ys) (hh' : hi' ≤ w.heap.size) (hl' : ys.length ≤ 1152921504606846976) :
    Calls Try.prog 25 #[.agg #[.int .i64 E, .slice A xs.length c], .slice D ys.length d] w (RetInts w (losses E xs ys)) := by
  by_cases hok : awardsB E xs ys = true
  · have e := implLossesOf_yes E A c xs D d ys w lo hi h hh hl lo' hi' h' hh' hl' hok
    simpa [losses, hok] using e
  · have hok' : awardsB E xs ys = false := by simpa using hok
    have e := implLossesOf_no E A c xs D d ys w lo hi h hh hl lo' hi' h' hh' hl' hok'
    simpa [losses, hok'] using e

set_option maxRecDepth 10000 in
set_option maxHeartbeats 2000000 in
theorem specLossesOf_yes (E : Int) (A : Option Addr) (c : Nat) (xs : List Int) (D : Option Addr) (d : Nat) (ys : List Int) (w : World) (lo hi : Nat) (h : Ints w lo hi A xs) (hh : hi ≤ w.heap.size) (hl : xs.length ≤ 1152921504606846976)
    (lo' hi' : Nat) (h' : Ints w lo' hi' D ys) (hh' : hi' ≤ w.heap.size) (hl' : ys.length ≤ 1152921504606846976) (hok : awardsB E xs ys = true) :
    Calls Try.prog 50 #[.agg #[.int .i64 E, .slice A xs.length c], .slice D ys.length d] w (RetInts w (lossesRow xs ys)) := by
  obtain ⟨i0, hi0, hq0, hq1, hq2⟩ := info_parts info_int
  have hA := (awardsB_iff E xs ys).1 hok
  have hbd := caseOk_bd hA.1
  have HC := Lib.hid hA.1
  have HN := Lib.hid hA.2.1
  have hy4 : ys.length ≤ 4 := by have e := hA.2.1; omega
  have hrg := Lib.hid (aw_range hA.1 hA.2.1 hA.2.2.1)
  have HO := Lib.hid hok
  clear hok hA
  have hRl := lossesRow_length HN.out
  have HRl := Lib.hid hRl
  clear hRl
  have k0 := h.alloc hh (.cells #[.int .i64 E, .slice A xs.length c] 25)
  have q0 := h'.alloc hh' (.cells #[.int .i64 E, .slice A xs.length c] 25)
  have a0 := new2 w (.int .i64 E) (.slice A xs.length c) 25
  have B0 := (Below.refl w.heap.size w).alloc (Nat.le_refl _) (.cells #[.int .i64 E, .slice A xs.length c] 25)
  have hsz0 := hsz w (.cells #[.int .i64 E, .slice A xs.length c] 25)
  have HZ := Lib.hid hsz0
  have hR0 : ((w.alloc (.cells #[.int .i64 E, .slice A xs.length c] 25)).alloc (.cells #[] 3)).ownsRow (w.heap.size + 1) 3 1 (.slice (some ⟨w.heap.size + 1, 0, none⟩) 0 0) ((lossesRow xs ys).take 0).length (ints ((lossesRow xs ys).take 0)) := by
    have e := World.ownsRow_made (base := w.heap.size + 1) (e := 3) (size := 1) (w.alloc (.cells #[.int .i64 E, .slice A xs.length c] 25)) #[] 0 (by rw [HZ.out]; exact Nat.le_refl _) (by unfold maxLen; omega) rfl
    rw [HZ.out] at e; exact e
  have b0 := (Below.refl (w.alloc (.cells #[.int .i64 E, .slice A xs.length c] 25)).heap.size (w.alloc (.cells #[.int .i64 E, .slice A xs.length c] 25))).alloc (Nat.le_refl _) (.cells #[] 3)
  rw [HZ.out] at b0
  clear hsz0
  go_enter Try.func50, Try.ntmps50
  go_wp2
  go_loopw [5, 6] (fun v i wr => ∃ k : Nat, k ≤ ys.length ∧ i = .int .i64 k ∧ wr.ownsRow (w.heap.size + 1) 3 1 v ((lossesRow xs ys).take k).length (ints ((lossesRow xs ys).take k)) ∧ Below (w.heap.size + 1) (w.alloc (.cells #[.int .i64 E, .slice A xs.length c] 25)) wr) (fun _ i _ => ys.length - (intOf i).toNat)
  case atStart => exact ⟨0, Nat.zero_le _, rfl, hR0, b0⟩
  case round =>
    obtain ⟨k, hk, rfl, hown, hbel⟩ := hrel
    clear hR0 b0
    have hbs : w.heap.size + 1 ≤ wr.heap.size := by have e := hbel.size; rw [HZ.out] at e; exact e
    obtain ⟨ar, ar'⟩ := keep2 hbel a0 (by omega)
    have kr := k0.below hbel (by omega)
    have qr := q0.below hbel (by omega)
    by_cases hlt : k < ys.length
    · have hlt2 : k < xs.length := by have := HN.out; omega
      obtain ⟨b, o, rfl, _, hbh, hc⟩ := kr.at_ hlt2
      obtain ⟨b', o', rfl, _, hbh', hc'⟩ := qr.at_ hlt
      have hv := case_at HC.out k hlt2
      have hvy := hrg.out _ (List.getElem_mem hlt)
      have hlen : ((lossesRow xs ys).take k).length = k := by rw [List.length_take, HRl.out]; omega
      rw [hlen] at hown
      clear hlen
      go_wp2_with fail
      refine (specAwardsOk_any E (some ⟨b, o, none⟩) c xs (some ⟨b', o', none⟩) d ys _ _ _ kr (by omega) hl _ _ qr (by omega) hl').mono ?_
      rintro e w1 ⟨he1, hb1⟩
      rw [HO.out] at he1
      subst he1
      obtain ⟨a1, a1'⟩ := keep2 hb1 ⟨ar, ar'⟩ (by omega)
      have k1 := kr.below hb1 (by omega)
      have z1 := hb1.size
      have c1 : w1.cell? ⟨b, o + k, none⟩ = some (.int .i64 xs[k]) := (hb1.cell (by show b < _; omega)).trans hc
      have c1' : w1.cell? ⟨b', o' + k, none⟩ = some (.int .i64 ys[k]) := (hb1.cell (by show b' < _; omega)).trans hc'
      have own1 : w1.ownsRow (w.heap.size + 1) 3 1 u5 k (ints ((lossesRow xs ys).take k)) := hown.kept (row := none) ⟨hb1.os, hb1.tape, hb1.output, hb1.size, fun i hi _ => hb1.block i hi⟩ (by cases hv : u5.ownBlock <;> simp)
      have bel1 := hbel.trans (hb1.mono hbs)
      clear hb1 hown hbel hc hc' kr qr
      have hw1 : IntKind.i64.wrap (48 * xs[k]) = 48 * xs[k] := IntWalk.i64_in _ (by omega)
      have hw2 : IntKind.i64.wrap (48 * xs[k] - ys[k]) = 48 * xs[k] - ys[k] := IntWalk.i64_in _ (by omega)
      have hk0 : (0 : Int) ≤ (k : Int) := by omega
      have hk1 : (k : Int) < (xs.length : Int) := by omega
      have hk2 : (k : Int) < (ys.length : Int) := by omega
      have HV : Hid ((lossesRow xs ys)[k]'(by rw [HRl.out]; exact hlt) = 48 * xs[k] - ys[k]) := lossesRow_at k hlt2 hlt
      have hA : (w1.alloc (.cells #[.int .i64 (48 * xs[k] - ys[k])] 3)).drew.ownsRow (w.heap.size + 1) 3 1 u5 k (ints ((lossesRow xs ys).take k)) := (own1.alloc (.cells #[.int .i64 (48 * xs[k] - ys[k])] 3)).drew
      have hba : w.heap.size + 1 ≤ (w1.alloc (.cells #[.int .i64 (48 * xs[k] - ys[k])] 3)).drew.heap.size := by simp; omega
      have hbe : (w1.alloc (.cells #[.int .i64 (48 * xs[k] - ys[k])] 3)).drew.heap.size = w1.heap.size + 1 := by simp
      have hnw : ∀ j u, [Value.int .i64 (48 * xs[k] - ys[k])][j]? = some u → (w1.alloc (.cells #[.int .i64 (48 * xs[k] - ys[k])] 3)).drew.cell? ((⟨w1.heap.size, 0, none⟩ : Addr).add j) = some u := news_one w1 (48 * xs[k] - ys[k]) 3
      have hon := one_cell (48 * xs[k] - ys[k])
      go_wp2_with fail
      go_region_held3 (fun w' => w'.cell? ⟨w.heap.size, 1, none⟩ = some (.slice (some ⟨b, o, none⟩) xs.length c) ∧ w'.cell? ⟨b, o + k, none⟩ = some (.int .i64 xs[k]) ∧ w'.cell? ⟨b', o' + k, none⟩ = some (.int .i64 ys[k])) (first | exact ⟨a2', c2, c2'⟩ | go_keep)
        (first
          | (refine step_append_lies _ rfl _ _ 23 rfl (w.heap.size + 1) 3 i0 (.int .i64 0) 1 8 Try.underlying23 hi0 hq0 hq1 hq2 rfl (by decide) u5 k (ints ((lossesRow xs ys).take k)) rfl (by exact hA) ⟨w1.heap.size, 0, none⟩ 1 1 [.int .i64 (48 * xs[k] - ys[k])] rfl rfl (by exact hnw) hon (by omega) (by unfold maxLen; omega) (by omega) (by exact hba) (w1.heap.size + 1) (by exact hbe) ?_
             intro g cp w2 hown2 hgrow2 hat2 hlt2'
             have hb2 : Below (w.heap.size + 1) w1 w2 := (((Below.refl (w.heap.size + 1) w1).alloc (by omega) (.cells #[.int .i64 (48 * xs[k] - ys[k])] 3)).drew).grown hgrow2 hba (fun g hg => (own1.lt g hg).1)
             obtain ⟨a2, a2'⟩ := keep2 hb2 ⟨a1, a1'⟩ (by omega)
             have c2 : w2.cell? ⟨b, o + k, none⟩ = some (.int .i64 xs[k]) := (hb2.cell (by show b < _; omega)).trans c1
             have c2' : w2.cell? ⟨b', o' + k, none⟩ = some (.int .i64 ys[k]) := (hb2.cell (by show b' < _; omega)).trans c1'))
      have hn := append_one (R := lossesRow xs ys) (k := k) (by rw [HRl.out]; exact hlt) _ HV.out rfl hown2
      have H := Lib.hid (And.intro hn (bel1.trans hb2))
      clear hn hb2 hown2 hgrow2 own1 hA hnw bel1
      go_wp2
      go_roundw
      case rel => exact ⟨k + 1, by omega, by go_num, H.out.1, H.out.2⟩
      case measure => simp [intOf]; omega
    · obtain rfl : k = ys.length := by omega
      have he : (lossesRow xs ys).take ys.length = lossesRow xs ys := by rw [← HRl.out]; exact List.take_length
      rw [he] at hown
      have H := Lib.hid (And.intro hown (B0.trans (hbel.mono (by omega))))
      clear hown hbel he
      go_wp2
      go_ret
      obtain ⟨A', c', e1, _, ho⟩ := own_of_row H.out.1
      exact ⟨A', c', congrArg Ending.returned e1, ho.more (by omega) (Nat.le_refl _), H.out.2⟩

set_option maxRecDepth 10000 in
set_option maxHeartbeats 800000 in
theorem specLossesOf_no (E : Int) (A : Option Addr) (c : Nat) (xs : List Int) (D : Option Addr) (d : Nat) (ys : List Int) (w : World) (lo hi : Nat) (h : Ints w lo hi A xs) (hh : hi ≤ w.heap.size) (hl : xs.length ≤ 1152921504606846976)
    (lo' hi' : Nat) (h' : Ints w lo' hi' D ys) (hh' : hi' ≤ w.heap.size) (hl' : ys.length ≤ 1152921504606846976) (hok : awardsB E xs ys = false) :
    Calls Try.prog 50 #[.agg #[.int .i64 E, .slice A xs.length c], .slice D ys.length d] w (RetInts w []) := by
  have HO := Lib.hid hok
  clear hok
  have k0 := (h.alloc hh (.cells #[.int .i64 E, .slice A xs.length c] 25)).alloc (by rw [hsz]; omega) (.cells #[] 3)
  have q0 := (h'.alloc hh' (.cells #[.int .i64 E, .slice A xs.length c] 25)).alloc (by rw [hsz]; omega) (.cells #[] 3)
  have B0 := ((Below.refl w.heap.size w).alloc (Nat.le_refl _) (.cells #[.int .i64 E, .slice A xs.length c] 25)).alloc (by rw [hsz]; omega) (.cells #[] 3)
  by_cases hlt : 0 < ys.length
  · go_enter Try.func50, Try.ntmps50
    go_wp2
    refine wp_loop_rounds 1 ?_
    rw [rounds_succ]
    go_wp2_with fail
    refine (specAwardsOk_any E A c xs D d ys _ _ _ k0 (by rw [hsz, hsz]; omega) hl _ _ q0 (by rw [hsz, hsz]; omega) hl').mono ?_
    rintro e w1 ⟨he1, hb1⟩
    rw [HO.out] at he1
    subst he1
    rw [hsz, hsz] at hb1
    have B1 := B0.trans (hb1.mono (by omega))
    have hz := hb1.size
    rw [hsz, hsz] at hz
    clear hb1
    go_wp2
    go_ret
    exact ⟨some ⟨w.heap.size + 1, 0, none⟩, 0, rfl, fun h0 => absurd h0 (by simp), B1⟩
  · go_enter Try.func50, Try.ntmps50
    go_wp2
    refine wp_loop_rounds 1 ?_
    rw [rounds_succ]
    go_wp2
    go_ret
    exact ⟨some ⟨w.heap.size + 1, 0, none⟩, 0, rfl, fun h0 => absurd h0 (by simp), B0⟩

theorem specLossesOf_any (E : Int) (A : Option Addr) (c : Nat) (xs : List Int) (D : Option Addr) (d : Nat) (ys : List Int) (w : World) (lo hi : Nat) (h : Ints w lo hi A xs) (hh : hi ≤ w.heap.size) (hl : xs.length ≤ 1152921504606846976)
    (lo' hi' : Nat) (h' : Ints w lo' hi' D ys) (hh' : hi' ≤ w.heap.size) (hl' : ys.length ≤ 1152921504606846976) :
    Calls Try.prog 50 #[.agg #[.int .i64 E, .slice A xs.length c], .slice D ys.length d] w (RetInts w (losses E xs ys)) := by
  by_cases hok : awardsB E xs ys = true
  · have e := specLossesOf_yes E A c xs D d ys w lo hi h hh hl lo' hi' h' hh' hl' hok
    simpa [losses, hok] using e
  · have hok' : awardsB E xs ys = false := by simpa using hok
    have e := specLossesOf_no E A c xs D d ys w lo hi h hh hl lo' hi' h' hh' hl' hok'
    simpa [losses, hok'] using e

end Go.Proofs.Ytdhbeodgebdjjaa
