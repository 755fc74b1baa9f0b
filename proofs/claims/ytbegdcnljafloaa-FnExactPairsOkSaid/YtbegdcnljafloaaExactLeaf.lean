/-
  What the helpers of the exact laws on rows of numbers and cases return, and what they write. No condition but lengths that fit.
-/
import Derived.Test.YtbegdcnljafloaaGA
namespace Go.Proofs.Ytbegdcnljafloaa
open Go.RowKit

set_option maxRecDepth 10000 in
set_option maxHeartbeats 400000 in
theorem toIntS_any (A : Option Addr) (c : Nat) (xs : List Int) (w : World) (lo hi : Nat) (h : Ints w lo hi A xs) (hh : hi ≤ w.heap.size) (hl : xs.length ≤ 1048576) :
    Calls Try.prog 33 #[.slice A xs.length c] w (RetInts w xs) := by
  obtain ⟨i0, hi0, hz0, hz1, hz2⟩ := info_parts info_int
  go_enter Try.func33, Try.ntmps33
  go_wp2_with (at_make; refine wpList_make_full _ rfl _ _ _ rfl w.heap.size 3 i0 _ 1 Try.underlying29 hi0 hz0 hz1 .i64 .i64 xs.length xs.length xs.length rfl rfl rfl rfl (by rw [hz2]; omega) (by unfold maxLen; omega) (Nat.le_refl _) ?_; intro w1 hown1 hgrow1)
  have hz := toList_madeCells_one (.int .i64 0) xs.length
  go_loopw [4] (fun i wr => ∃ k : Nat, k ≤ xs.length ∧ i = .int .i64 k ∧ wr.ownsRow w.heap.size 3 1 (.slice (some ⟨w.heap.size, 0, none⟩) xs.length xs.length) xs.length (ints (fillTo xs k)) ∧ Below w.heap.size w wr) (fun i _ => xs.length - (intOf i).toNat)
  case atStart => 
    refine ⟨0, Nat.zero_le _, rfl, ?_, (Below.refl _ _).grown hgrow1 (Nat.le_refl _) (by intro k hk; cases hk)⟩
    rw [fillTo_zero]
    have e : ints (List.replicate xs.length 0) = (madeCells (Value.int .i64 0).cells (xs.length * 1)).toList := by
      rw [Nat.mul_one]; show _ = (madeCells #[Value.int .i64 0] xs.length).toList; rw [hz]; simp [ints]
    rw [e]
    exact hown1
  case round =>
    obtain ⟨k, hk, rfl, hown, hbel⟩ := hrel
    clear hown1 hgrow1 hz
    by_cases hlt : k < xs.length
    · obtain ⟨b, o, rfl, _, hb, hc0⟩ := h.at_ hlt
      have hc : wr.cell? ⟨b, o + k, none⟩ = some (.int .i64 xs[k]) := (hbel.cell (by show b < _; omega)).trans hc0
      have hbs := hbel.size
      have hd : wr.cell? ⟨w.heap.size, k, none⟩ = some (.int .i64 0) := by rw [hown.cellAt k (by omega), fillTo_at xs k hlt]
      have hf := hown.frozenAt k
      have hst := (hown.stored k (.int .i64 xs[k])).1
      rw [← ints_set, fillTo_set xs k hlt] at hst
      have hbel' := hbel.setCell (p := ⟨w.heap.size, k, none⟩) (Nat.le_refl _) (.int .i64 xs[k])
      have H := Lib.hid (And.intro hst hbel')
      clear hst hbel' hown hbel hc0 h
      go_wp2
      go_roundw
      case rel => exact ⟨k + 1, by omega, by go_num, H.out.1, H.out.2⟩
      case measure => simp [intOf]; omega
    · obtain rfl : k = xs.length := by omega
      rw [fillTo_all] at hown
      have H := Lib.hid (And.intro hown hbel)
      clear hown hbel
      go_wp2
      go_ret
      obtain ⟨A', c', e1, _, ho⟩ := own_of_row H.out.1
      exact ⟨A', c', congrArg Ending.returned e1, ho, H.out.2⟩

set_option maxRecDepth 10000 in
set_option maxHeartbeats 400000 in
theorem szIntS_yes (A : Option Addr) (c n : Nat) (left : Int) (w : World) (hl : (n : Int) ≤ left) (h2 : left ≤ 1048576) :
    Calls Try.prog 66 #[.slice A n c, .int .i64 left] w fun e w' => e = .returned (.int .i64 (left - n)) ∧ w = w' := by
  go_enter Try.func66, Try.ntmps66
  go_wp2
  go_ret
  exact ⟨rfl, rfl⟩
set_option maxRecDepth 10000 in
set_option maxHeartbeats 400000 in
theorem szIntS_no (A : Option Addr) (c n : Nat) (left : Int) (w : World) (hl : left < (n : Int)) (h0 : 0 ≤ left) (h2 : n ≤ 9223372036854775807) :
    Calls Try.prog 66 #[.slice A n c, .int .i64 left] w fun e w' => e = .returned (.int .i64 (-1)) ∧ w = w' := by
  go_enter Try.func66, Try.ntmps66
  go_wp2
  go_ret
  exact ⟨rfl, rfl⟩

set_option maxRecDepth 10000 in
set_option maxHeartbeats 400000 in
theorem eqIntS_any (A A' : Option Addr) (c c' : Nat) (xs ys : List Int) (w : World) (lo hi lo' hi' : Nat) (h : Ints w lo hi A xs) (h' : Ints w lo' hi' A' ys) (hl : xs.length ≤ 1152921504606846976) :
    Calls Try.prog 34 #[.slice A xs.length c, .slice A' ys.length c'] w fun e w' => e = .returned (.bool (decide (xs = ys))) ∧ ∃ n, w' = w.drewN n := by
  by_cases hn : xs.length = ys.length
  · have hne : ((xs.length : Int) != (ys.length : Int)) = false := by simp [hn]
    have HN := Lib.hid hn
    clear hn
    go_enter Try.func34, Try.ntmps34
    go_wp2
    go_loopw [5] (fun i wr => ∃ k : Nat, k ≤ xs.length ∧ i = .int .i64 k ∧ SameTo xs ys k ∧ ∃ n, wr = w.drewN n) (fun i _ => xs.length - (intOf i).toNat)
    case atStart => exact ⟨0, Nat.zero_le _, rfl, SameTo.zero _ _, 0, rfl⟩
    case round =>
      obtain ⟨k, hk, rfl, hu, n, rfl⟩ := hrel
      clear hne
      by_cases hlt : k < xs.length
      · have hlt' : k < ys.length := by have := HN.out; omega
        obtain ⟨b, o, rfl, _, hb, hc⟩ := h.at_ hlt
        obtain ⟨b', o', rfl, _, hb', hc'⟩ := h'.at_ hlt'
        by_cases hx : xs[k] = ys[k]
        · have hu' := hu.succ hlt hlt' hx
          have hX : (xs[k] != ys[k]) = false := by simp [hx]
          clear hu hx
          go_wp2
          go_quiet (fail)
          go_wp2
          go_roundw
          case rel => exact ⟨k + 1, by omega, by go_num, hu', _, rfl⟩
          case measure => simp [intOf]; omega
        · have hbad := Lib.hid (ne_of_at hlt hlt' hx)
          have hX : (xs[k] != ys[k]) = true := by simp [hx]
          clear hu hx
          go_wp2
          go_quiet (fail)
          go_wp2
          go_ret
          exact ⟨ret_bool (by simp [hbad.out]), drewN_two _ _ _⟩
      · obtain rfl : k = xs.length := by omega
        have hall := Lib.hid (hu.all HN.out)
        clear hu
        go_wp2
        go_ret
        exact ⟨ret_bool (by simp [hall.out]), _, rfl⟩
  · have hne : ((xs.length : Int) != (ys.length : Int)) = true := by simp; omega
    have HN := Lib.hid hn
    clear hn
    go_enter Try.func34, Try.ntmps34
    go_wp2
    go_ret
    exact ⟨ret_bool (by symm; simp; intro e; exact HN.out (by rw [e])), 0, rfl⟩

set_option maxRecDepth 10000 in
set_option maxHeartbeats 400000 in
theorem markIntS_any (A : Option Addr) (c : Nat) (xs : List Int) (q : Int) (w : World) (lo hi : Nat) (h : Own w lo hi A xs) (hl : xs.length ≤ 1048576) (hq : 0 ≤ q) (hq' : q ≤ 67108864) :
    Calls Try.prog 35 #[.slice A xs.length c, .int .i64 q] w fun e w' => e = .returned (.int .i64 (q + xs.length)) ∧ Own w' lo hi A (marks q xs.length) ∧ Chg lo hi w w' := by
  go_enter Try.func35, Try.ntmps35
  go_wp2
  go_loopw [1, 5] (fun v i wr => ∃ k : Nat, k ≤ xs.length ∧ i = .int .i64 k ∧ v = .int .i64 (q + k) ∧ Own wr lo hi A (marked xs q k) ∧ Chg lo hi w wr) (fun _ i _ => xs.length - (intOf i).toNat)
  case atStart => exact ⟨0, Nat.zero_le _, rfl, by simp, by rw [marked_zero]; exact h, Chg.refl _ _ _⟩
  case round =>
    obtain ⟨k, hk, rfl, rfl, hown, hchg⟩ := hrel
    clear h
    by_cases hlt : k < xs.length
    · have hml := marked_length xs q k hk
      obtain ⟨b, o, rfl, h1, h2, hc, hf⟩ := hown.at_ (k := k) (by omega)
      generalize (marked xs q k)[k]'(by omega) = u at hc
      have hst := hown.stored (by omega : k < (marked xs q k).length) (q + k)
      rw [marked_set xs q k hlt] at hst
      have hch' := hchg.trans (Chg.setCell wr (p := ⟨b, o + k, none⟩) ⟨h1, h2⟩ (.int .i64 (q + k)))
      have H := Lib.hid (And.intro hst hch')
      clear hst hch' hchg hown hml
      go_wp2
      go_roundw
      case rel => exact ⟨k + 1, by omega, by go_num, by go_num, H.out.1, H.out.2⟩
      case measure => simp [intOf]; omega
    · obtain rfl : k = xs.length := by omega
      rw [marked_all] at hown
      have H := Lib.hid (And.intro hown hchg)
      clear hown hchg
      go_wp2
      go_ret
      exact ⟨rfl, H.out⟩

set_option maxRecDepth 10000 in
set_option maxHeartbeats 400000 in
theorem heldIntS_any (A : Option Addr) (c n : Nat) (q : Int) (w : World) (lo hi : Nat) (h : Ints w lo hi A (marks q n)) (hl : n ≤ 1048576) (hq : 0 ≤ q) (hq' : q ≤ 67108864) :
    Calls Try.prog 36 #[.slice A n c, .int .i64 q] w fun e w' => e = .returned (.int .i64 (q + n)) ∧ w = w' := by
  go_enter Try.func36, Try.ntmps36
  go_wp2
  go_loop [1, 5] (fun v i => ∃ k : Nat, k ≤ n ∧ i = .int .i64 k ∧ v = .int .i64 (q + k)) (fun _ i => n - (intOf i).toNat)
  case atStart => exact ⟨0, Nat.zero_le _, rfl, by simp⟩
  case round =>
    obtain ⟨k, hk, rfl, rfl⟩ := hrel
    by_cases hlt : k < n
    · obtain ⟨b, o, rfl, _, hb, hc⟩ := h.at_ (k := k) (by rw [marks_length]; exact hlt)
      rw [marks_at] at hc
      have hX : (q + (k : Int) != q + (k : Int)) = false := by simp
      go_wp2
      go_round
      case rel => exact ⟨k + 1, by omega, by go_num, by go_num⟩
      case measure => simp [intOf]; omega
    · obtain rfl : k = n := by omega
      go_wp2
      go_ret
      exact ⟨rfl, rfl⟩

theorem eqIntS_yes (A A' : Option Addr) (c c' : Nat) (xs ys : List Int) (w : World) (lo hi lo' hi' : Nat) (h : Ints w lo hi A xs) (h' : Ints w lo' hi' A' ys) (hl : xs.length ≤ 1152921504606846976) (he : xs = ys) :
    Calls Try.prog 34 #[.slice A xs.length c, .slice A' ys.length c'] w fun e w' => e = .returned (.bool true) ∧ ∃ n, w' = w.drewN n :=
  (eqIntS_any A A' c c' xs ys w lo hi lo' hi' h h' hl).mono fun _ _ ⟨e1, e2⟩ => ⟨by rw [e1, decide_eq_true he], e2⟩
theorem eqIntS_same (A A' : Option Addr) (c c' : Nat) (xs : List Int) (w : World) (lo hi lo' hi' : Nat) (h : Ints w lo hi A xs) (h' : Ints w lo' hi' A' xs) (hl : xs.length ≤ 1152921504606846976) :
    Calls Try.prog 34 #[.slice A xs.length c, .slice A' xs.length c'] w fun e w' => e = .returned (.bool true) ∧ Below w.heap.size w w' :=
  (eqIntS_yes A A' c c' xs xs w lo hi lo' hi' h h' hl rfl).mono fun _ _ ⟨e1, n, e2⟩ => ⟨e1, by rw [e2]; exact below_drewN (Below.refl _ _) n⟩
theorem heldIntS_below (A : Option Addr) (c n : Nat) (q : Int) (w : World) (lo hi : Nat) (h : Ints w lo hi A (marks q n)) (hl : n ≤ 1048576) (hq : 0 ≤ q) (hq' : q ≤ 67108864) :
    Calls Try.prog 36 #[.slice A n c, .int .i64 q] w fun e w' => e = .returned (.int .i64 (q + n)) ∧ Below w.heap.size w w' :=
  (heldIntS_any A c n q w lo hi h hl hq hq').mono fun _ _ ⟨e1, e2⟩ => ⟨e1, by rw [← e2]; exact Below.refl _ _⟩
theorem eqIntS_no (A A' : Option Addr) (c c' : Nat) (xs ys : List Int) (w : World) (lo hi lo' hi' : Nat) (h : Ints w lo hi A xs) (h' : Ints w lo' hi' A' ys) (hl : xs.length ≤ 1152921504606846976) (he : ¬ xs = ys) :
    Calls Try.prog 34 #[.slice A xs.length c, .slice A' ys.length c'] w fun e w' => e = .returned (.bool false) ∧ ∃ n, w' = w.drewN n :=
  (eqIntS_any A A' c c' xs ys w lo hi lo' hi' h h' hl).mono fun _ _ ⟨e1, e2⟩ => ⟨by rw [e1, decide_eq_false he], e2⟩

end Go.Proofs.Ytbegdcnljafloaa
