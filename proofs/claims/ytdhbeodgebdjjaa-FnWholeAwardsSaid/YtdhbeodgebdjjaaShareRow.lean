/-
  Both functions ShareRow return each claim times the estate, and make new memory only.
-/
import Derived.Test.YtdhbeodgebdjjaaCaseOk
import Derived.Test.YtdhbeodgebdjjaaLeast
import Derived.Deep.RegionHeld3
import Derived.Deep.AppendLies
namespace Go.Proofs.Ytdhbeodgebdjjaa
open Go.RowKit

/-- Each claim times the estate. -/
def shareRow (E : Int) (xs : List Int) : List Int := xs.map fun x => x * E
theorem shareRow_length (E : Int) (xs : List Int) : (shareRow E xs).length = xs.length := by simp [shareRow]
theorem shareRow_at (E : Int) (xs : List Int) (k : Nat) (h : k < xs.length) : (shareRow E xs)[k]'(by rw [shareRow_length]; exact h) = xs[k] * E := by simp [shareRow]
def shares (E : Int) (xs : List Int) : List Int := if caseOkB E xs = true then shareRow E xs else []
theorem shares_len (E : Int) (xs : List Int) : (shares E xs).length ≤ xs.length := by unfold shares; split <;> simp [shareRow_length]
theorem mul_bd {a b A B : Int} (h1 : 0 ≤ a) (h2 : a ≤ A) (h3 : 0 ≤ b) (h4 : b ≤ B) : 0 ≤ a * b ∧ a * b ≤ A * B :=
  ⟨Int.mul_nonneg h1 h3, Int.mul_le_mul h2 h4 h3 (by omega)⟩
theorem share_bd {E : Int} {xs : List Int} (h : caseOkB E xs = true) (k : Nat) (hk : k < xs.length) : 0 ≤ xs[k] * E ∧ xs[k] * E ≤ 576 := by
  have h1 := caseOk_bd h
  have h2 : 0 ≤ xs[k] ∧ xs[k] ≤ 12 := ((caseOk_iff E xs).1 h).2.2.1 _ (List.getElem_mem hk)
  have h3 := mul_bd (A := 12) (B := 48) h2.1 h2.2 h1.2.2.1 (by omega)
  exact h3

set_option maxRecDepth 10000 in
set_option maxHeartbeats 1000000 in
theorem implShareRow_yes (E : Int) (A : Option Addr) (c : Nat) (xs : List Int) (w : World) (lo hi : Nat) (h : Ints w lo hi A xs) (hh : hi ≤ w.heap.size) (hok : caseOkB E xs = true) :
    Calls Try.prog 12 #[.agg #[.int .i64 E, .slice A xs.length c]] w (RetInts w (shareRow E xs)) := by
  obtain ⟨i0, hi0, hq0, hq1, hq2⟩ := info_parts info_int
  have hs := caseOk_small hok
  have hbd := caseOk_bd hok
  have HO := Lib.hid hok
  clear hok
  have k0 := h.alloc hh (.cells #[.int .i64 E, .slice A xs.length c] 25)
  have a0 := new2 w (.int .i64 E) (.slice A xs.length c) 25
  have B0 := (Below.refl w.heap.size w).alloc (Nat.le_refl _) (.cells #[.int .i64 E, .slice A xs.length c] 25)
  go_enter Try.func12, Try.ntmps12
  go_wp2_with fail
  refine (implCaseOk_yes E A c xs _ _ _ k0 (by rw [hsz]; omega) (by omega) HO.out).mono ?_
  rintro e w1 ⟨rfl, hb1⟩
  rw [hsz] at hb1
  obtain ⟨a1, a1'⟩ := keep2 hb1 a0 (by omega)
  have k1 := k0.below hb1 (by omega)
  have hz1 : w.heap.size + 1 ≤ w1.heap.size := by rw [← hsz w (.cells #[.int .i64 E, .slice A xs.length c] 25)]; exact hb1.size
  have B1 := B0.trans (hb1.mono (by omega))
  clear hb1 a0 k0 h B0
  have hz1' : hi ≤ w1.heap.size := by omega
  have hRl : (shareRow E xs).length = xs.length := shareRow_length E xs
  have HRl := Lib.hid hRl
  clear hRl
  go_wp2_with (at_make; refine wpList_make_full _ rfl _ _ _ rfl w1.heap.size 3 i0 _ 1 Try.underlying23 hi0 hq0 hq1 .i64 .i64 xs.length xs.length xs.length rfl rfl rfl rfl (by rw [hq2]; omega) (by unfold maxLen; omega) (Nat.le_refl _) ?_; intro wm hownm hgrowm; have bm : Below w1.heap.size w1 wm := (Below.refl _ _).grown hgrowm (Nat.le_refl _) (by intro k hk; cases hk); have hownm' := fill_start (R := shareRow E xs) HRl.out hownm; clear hownm hgrowm; obtain ⟨am, am'⟩ := keep2 bm ⟨a1, a1'⟩ (by omega); have zm := bm.size)
  go_loopw [16] (fun i wr => ∃ k : Nat, k ≤ xs.length ∧ i = .int .i64 k ∧ wr.ownsRow w1.heap.size 3 1 (.slice (some ⟨w1.heap.size, 0, none⟩) xs.length xs.length) xs.length (ints (fillTo (shareRow E xs) k)) ∧ Below w1.heap.size w1 wr) (fun i _ => xs.length - (intOf i).toNat)
  case atStart => exact ⟨0, Nat.zero_le _, rfl, hownm', bm⟩
  case round =>
    obtain ⟨k, hk, rfl, hown, hbel⟩ := hrel
    clear hownm' bm
    obtain ⟨ar, ar'⟩ := keep2 hbel ⟨a1, a1'⟩ (by omega)
    have zr := hbel.size
    by_cases hlt : k < xs.length
    · obtain ⟨b, o, rfl, _, hbh, hc⟩ := (k1.below hbel (by omega)).at_ hlt
      have hv := share_bd HO.out k hlt
      obtain ⟨P, hP⟩ : ∃ P, xs[k] * E = P := ⟨_, rfl⟩
      rw [hP] at hv
      have hwP : IntKind.i64.wrap P = P := IntWalk.i64_in _ (by omega)
      obtain ⟨hd, hf⟩ := fill_cell hown HRl.out hlt
      have hst := fill_more hown (by rw [HRl.out]; exact hlt) P (by rw [shareRow_at E xs k hlt]; exact hP)
      have hbel' := hbel.setCell (p := ⟨w1.heap.size, k, none⟩) (Nat.le_refl _) (.int .i64 P)
      have H := Lib.hid (And.intro hst hbel')
      clear hst hbel' hown hbel
      go_wp2
      go_roundw
      case rel => exact ⟨k + 1, by omega, by go_num, H.out.1, H.out.2⟩
      case measure => simp [intOf]; omega
    · obtain rfl : k = xs.length := by omega
      have how := fill_end hown HRl.out
      have Br := B1.trans (hbel.mono (by omega))
      have H := Lib.hid (And.intro how Br)
      clear how Br hown hbel
      go_wp2
      go_ret
      exact ⟨some ⟨w1.heap.size, 0, none⟩, xs.length, by rw [HRl.out]; rfl, H.out.1.more (by omega) (Nat.le_refl _), H.out.2⟩

set_option maxRecDepth 10000 in
set_option maxHeartbeats 400000 in
theorem implShareRow_no (E : Int) (A : Option Addr) (c : Nat) (xs : List Int) (w : World) (lo hi : Nat) (h : Ints w lo hi A xs) (hh : hi ≤ w.heap.size) (hl : xs.length ≤ 1152921504606846976) (hok : caseOkB E xs = false) :
    Calls Try.prog 12 #[.agg #[.int .i64 E, .slice A xs.length c]] w (RetInts w []) := by
  have HO := Lib.hid hok
  clear hok
  have k0 := h.alloc hh (.cells #[.int .i64 E, .slice A xs.length c] 25)
  have B0 := (Below.refl w.heap.size w).alloc (Nat.le_refl _) (.cells #[.int .i64 E, .slice A xs.length c] 25)
  go_enter Try.func12, Try.ntmps12
  go_wp2_with fail
  refine (implCaseOk_no E A c xs _ _ _ k0 (by rw [hsz]; omega) hl HO.out).mono ?_
  rintro e w1 ⟨rfl, hb1⟩
  rw [hsz] at hb1
  have B1 := B0.trans (hb1.mono (by omega))
  clear hb1
  go_wp2
  go_ret
  exact ⟨none, 0, rfl, Own.nil, B1⟩

theorem implShareRow_any (E : Int) (A : Option Addr) (c : Nat) (xs : List Int) (w : World) (lo hi : Nat) (h : Ints w lo hi A xs) (hh : hi ≤ w.heap.size) (hl : xs.length ≤ 1152921504606846976) :
    Calls Try.prog 12 #[.agg #[.int .i64 E, .slice A xs.length c]] w (RetInts w (shares E xs)) := by
  by_cases hok : caseOkB E xs = true
  · have e := implShareRow_yes E A c xs w lo hi h hh hok
    simpa [shares, hok] using e
  · have hok' : caseOkB E xs = false := by simpa using hok
    have e := implShareRow_no E A c xs w lo hi h hh hl hok'
    simpa [shares, hok'] using e

set_option maxRecDepth 10000 in
set_option maxHeartbeats 2000000 in
theorem specShareRow_yes (E : Int) (A : Option Addr) (c : Nat) (xs : List Int) (w : World) (lo hi : Nat) (h : Ints w lo hi A xs) (hh : hi ≤ w.heap.size) (hok : caseOkB E xs = true) :
    Calls Try.prog 14 #[.agg #[.int .i64 E, .slice A xs.length c]] w (RetInts w (shareRow E xs)) := by
  obtain ⟨i0, hi0, hq0, hq1, hq2⟩ := info_parts info_int
  have hs := caseOk_small hok
  have hbd := caseOk_bd hok
  have HO := Lib.hid hok
  clear hok
  have hRl := shareRow_length E xs
  have HRl := Lib.hid hRl
  clear hRl
  have k0 := h.alloc hh (.cells #[.int .i64 E, .slice A xs.length c] 25)
  have a0 := new2 w (.int .i64 E) (.slice A xs.length c) 25
  have B0 := (Below.refl w.heap.size w).alloc (Nat.le_refl _) (.cells #[.int .i64 E, .slice A xs.length c] 25)
  have hsz0 := hsz w (.cells #[.int .i64 E, .slice A xs.length c] 25)
  have HZ := Lib.hid hsz0
  have hR0 : ((w.alloc (.cells #[.int .i64 E, .slice A xs.length c] 25)).alloc (.cells #[] 3)).ownsRow (w.heap.size + 1) 3 1 (.slice (some ⟨w.heap.size + 1, 0, none⟩) 0 0) ((shareRow E xs).take 0).length (ints ((shareRow E xs).take 0)) := by
    have e := World.ownsRow_made (base := w.heap.size + 1) (e := 3) (size := 1) (w.alloc (.cells #[.int .i64 E, .slice A xs.length c] 25)) #[] 0 (by rw [HZ.out]; exact Nat.le_refl _) (by unfold maxLen; omega) rfl
    rw [HZ.out] at e; exact e
  have b0 := (Below.refl (w.alloc (.cells #[.int .i64 E, .slice A xs.length c] 25)).heap.size (w.alloc (.cells #[.int .i64 E, .slice A xs.length c] 25))).alloc (Nat.le_refl _) (.cells #[] 3)
  rw [HZ.out] at b0
  clear hsz0
  go_enter Try.func14, Try.ntmps14
  go_wp2
  go_loopw [3, 4] (fun v i wr => ∃ k : Nat, k ≤ xs.length ∧ i = .int .i64 k ∧ wr.ownsRow (w.heap.size + 1) 3 1 v ((shareRow E xs).take k).length (ints ((shareRow E xs).take k)) ∧ Below (w.heap.size + 1) (w.alloc (.cells #[.int .i64 E, .slice A xs.length c] 25)) wr) (fun _ i _ => xs.length - (intOf i).toNat)
  case atStart => exact ⟨0, Nat.zero_le _, rfl, hR0, b0⟩
  case round =>
    obtain ⟨k, hk, rfl, hown, hbel⟩ := hrel
    clear hR0 b0
    have hbs : w.heap.size + 1 ≤ wr.heap.size := by have e := hbel.size; rw [HZ.out] at e; exact e
    obtain ⟨ar, ar'⟩ := keep2 hbel a0 (by omega)
    have kr := k0.below hbel (by omega)
    by_cases hlt : k < xs.length
    · obtain ⟨b, o, rfl, _, hbh, hc⟩ := kr.at_ hlt
      have hv := share_bd HO.out k hlt
      obtain ⟨P, hP⟩ : ∃ P, xs[k] * E = P := ⟨_, rfl⟩
      rw [hP] at hv
      have hlen : ((shareRow E xs).take k).length = k := by rw [List.length_take, HRl.out]; omega
      rw [hlen] at hown
      clear hlen
      go_wp2_with fail
      refine (specCaseOk_yes E (some ⟨b, o, none⟩) c xs _ _ _ kr (by omega) (by omega) HO.out).mono ?_
      rintro e w1 ⟨rfl, hb1⟩
      obtain ⟨a1, a1'⟩ := keep2 hb1 ⟨ar, ar'⟩ (by omega)
      have k1 := kr.below hb1 (by omega)
      have z1 := hb1.size
      have c1 : w1.cell? ⟨b, o + k, none⟩ = some (.int .i64 xs[k]) := (hb1.cell (by show b < _; omega)).trans hc
      have own1 : w1.ownsRow (w.heap.size + 1) 3 1 u3 k (ints ((shareRow E xs).take k)) := hown.kept (row := none) ⟨hb1.os, hb1.tape, hb1.output, hb1.size, fun i hi _ => hb1.block i hi⟩ (by cases hv : u3.ownBlock <;> simp)
      have bel1 := hbel.trans (hb1.mono hbs)
      clear hb1 hown hbel hc kr
      have hw1 : IntKind.i64.wrap P = P := IntWalk.i64_in _ (by omega)
      have hk0 : (0 : Int) ≤ (k : Int) := by omega
      have hk1 : (k : Int) < (xs.length : Int) := by omega
      have HV : Hid ((shareRow E xs)[k]'(by rw [HRl.out]; exact hlt) = P) := by show _ = _; rw [shareRow_at E xs k hlt]; exact hP
      have hA : (w1.alloc (.cells #[.int .i64 P] 3)).drew.ownsRow (w.heap.size + 1) 3 1 u3 k (ints ((shareRow E xs).take k)) := (own1.alloc (.cells #[.int .i64 P] 3)).drew
      have hba : w.heap.size + 1 ≤ (w1.alloc (.cells #[.int .i64 P] 3)).drew.heap.size := by simp; omega
      have hbe : (w1.alloc (.cells #[.int .i64 P] 3)).drew.heap.size = w1.heap.size + 1 := by simp
      have hnw : ∀ j u, [Value.int .i64 P][j]? = some u → (w1.alloc (.cells #[.int .i64 P] 3)).drew.cell? ((⟨w1.heap.size, 0, none⟩ : Addr).add j) = some u := news_one w1 P 3
      have hon := one_cell P
      go_wp2_with fail
      go_region_held3 (fun w' => w'.cell? ⟨w.heap.size, 0, none⟩ = some (.int .i64 E) ∧ w'.cell? ⟨w.heap.size, 1, none⟩ = some (.slice (some ⟨b, o, none⟩) xs.length c) ∧ w'.cell? ⟨b, o + k, none⟩ = some (.int .i64 xs[k])) (first | exact ⟨a2, a2', c2⟩ | go_keep)
        (first
          | (refine step_append_lies _ rfl _ _ 23 rfl (w.heap.size + 1) 3 i0 (.int .i64 0) 1 8 Try.underlying23 hi0 hq0 hq1 hq2 rfl (by decide) u3 k (ints ((shareRow E xs).take k)) rfl (by exact hA) ⟨w1.heap.size, 0, none⟩ 1 1 [.int .i64 P] rfl rfl (by exact hnw) hon (by omega) (by unfold maxLen; omega) (by omega) (by exact hba) (w1.heap.size + 1) (by exact hbe) ?_
             intro g cp w2 hown2 hgrow2 hat2 hlt2
             have hb2 : Below (w.heap.size + 1) w1 w2 := (((Below.refl (w.heap.size + 1) w1).alloc (by omega) (.cells #[.int .i64 P] 3)).drew).grown hgrow2 hba (fun g hg => (own1.lt g hg).1)
             obtain ⟨a2, a2'⟩ := keep2 hb2 ⟨a1, a1'⟩ (by omega)
             have c2 : w2.cell? ⟨b, o + k, none⟩ = some (.int .i64 xs[k]) := (hb2.cell (by show b < _; omega)).trans c1))
      have hn := append_one (R := shareRow E xs) (k := k) (by rw [HRl.out]; exact hlt) _ HV.out rfl hown2
      have H := Lib.hid (And.intro hn (bel1.trans hb2))
      clear hn hb2 hown2 hgrow2 own1 hA hnw bel1
      go_wp2
      go_roundw
      case rel => exact ⟨k + 1, by omega, by go_num, H.out.1, H.out.2⟩
      case measure => simp [intOf]; omega
    · obtain rfl : k = xs.length := by omega
      have he : (shareRow E xs).take xs.length = shareRow E xs := by rw [← HRl.out]; exact List.take_length
      rw [he] at hown
      have H := Lib.hid (And.intro hown (B0.trans (hbel.mono (by omega))))
      clear hown hbel he
      go_wp2
      go_ret
      obtain ⟨A', c', e1, _, ho⟩ := own_of_row H.out.1
      exact ⟨A', c', congrArg Ending.returned e1, ho.more (by omega) (Nat.le_refl _), H.out.2⟩

set_option maxRecDepth 10000 in
set_option maxHeartbeats 800000 in
theorem specShareRow_no (E : Int) (A : Option Addr) (c : Nat) (xs : List Int) (w : World) (lo hi : Nat) (h : Ints w lo hi A xs) (hh : hi ≤ w.heap.size) (hl : xs.length ≤ 1152921504606846976) (hok : caseOkB E xs = false) :
    Calls Try.prog 14 #[.agg #[.int .i64 E, .slice A xs.length c]] w (RetInts w []) := by
  have HO := Lib.hid hok
  clear hok
  have k0 := (h.alloc hh (.cells #[.int .i64 E, .slice A xs.length c] 25)).alloc (by rw [hsz]; omega) (.cells #[] 3)
  have B0 := ((Below.refl w.heap.size w).alloc (Nat.le_refl _) (.cells #[.int .i64 E, .slice A xs.length c] 25)).alloc (by rw [hsz]; omega) (.cells #[] 3)
  by_cases hlt : 0 < xs.length
  · go_enter Try.func14, Try.ntmps14
    go_wp2
    refine wp_loop_rounds 1 ?_
    rw [rounds_succ]
    go_wp2_with fail
    refine (specCaseOk_no E A c xs _ _ _ k0 (by rw [hsz, hsz]; omega) hl HO.out).mono ?_
    rintro e w1 ⟨rfl, hb1⟩
    rw [hsz, hsz] at hb1
    have B1 := B0.trans (hb1.mono (by omega))
    have hz := hb1.size
    rw [hsz, hsz] at hz
    clear hb1
    go_wp2
    go_ret
    exact ⟨some ⟨w.heap.size + 1, 0, none⟩, 0, rfl, fun h0 => absurd h0 (by simp), B1⟩
  · go_enter Try.func14, Try.ntmps14
    go_wp2
    refine wp_loop_rounds 1 ?_
    rw [rounds_succ]
    go_wp2
    go_ret
    exact ⟨some ⟨w.heap.size + 1, 0, none⟩, 0, rfl, fun h0 => absurd h0 (by simp), B0⟩

theorem specShareRow_any (E : Int) (A : Option Addr) (c : Nat) (xs : List Int) (w : World) (lo hi : Nat) (h : Ints w lo hi A xs) (hh : hi ≤ w.heap.size) (hl : xs.length ≤ 1152921504606846976) :
    Calls Try.prog 14 #[.agg #[.int .i64 E, .slice A xs.length c]] w (RetInts w (shares E xs)) := by
  by_cases hok : caseOkB E xs = true
  · have e := specShareRow_yes E A c xs w lo hi h hh hok
    simpa [shares, hok] using e
  · have hok' : caseOkB E xs = false := by simpa using hok
    have e := specShareRow_no E A c xs w lo hi h hh hl hok'
    simpa [shares, hok'] using e

end Go.Proofs.Ytdhbeodgebdjjaa
