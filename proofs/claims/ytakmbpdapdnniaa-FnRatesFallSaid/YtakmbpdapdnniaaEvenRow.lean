/-
  Even rows, as the program finds them: the row and true, or none and false. No condition but a length that fits.
-/
import Derived.Test.YtakmbpdapdnniaaLevel
namespace Go.Proofs.Ytakmbpdapdnniaa
open Go.RowKit

/-- What a function that hands a new slice of numbers and a bool back leaves. -/
def RetIntsB (w : World) (xs : List Int) (b : Bool) (e : Ending) (w' : World) : Prop :=
  ∃ A c, e = .returned (.tuple #[.slice A xs.length c, .bool b]) ∧ Own w' w.heap.size w'.heap.size A xs ∧ Below w.heap.size w w'
noncomputable def evenB (xs : List Int) (e : Int) : Bool := partB xs && (decide (0 ≤ e ∧ e ≤ xs.sum) && evenOk xs e)
noncomputable def evenXs (xs : List Int) (e : Int) : List Int := if evenB xs e = true then evenOf xs e else []
theorem evenB_iff (xs : List Int) (e : Int) : evenB xs e = true ↔ partB xs = true ∧ (0 ≤ e ∧ e ≤ xs.sum) ∧ evenOk xs e = true := by simp [evenB]
theorem evenOf_min (xs : List Int) (e : Int) (k : Nat) (h : k < xs.length) : (evenOf xs e)[k]'(by rw [evenOf_length]; exact h) = min xs[k] (evenLev xs e) := by simp [evenOf]
theorem partOk_is (A : Option Addr) (c : Nat) (xs : List Int) (w : World) (lo hi : Nat) (h : Ints w lo hi A xs) (hl : xs.length ≤ 1152921504606846976) {b : Bool} (hb : partB xs = b) :
    Calls Try.prog 46 #[.slice A xs.length c] w fun e w' => e = .returned (.bool b) ∧ w = w' := by
  rw [← hb]; exact partOk_any A c xs w lo hi h hl
theorem levelOf_is (A : Option Addr) (c : Nat) (xs : List Int) (e : Int) (w : World) (lo hi : Nat) (h : Ints w lo hi A xs) (hh : hi ≤ w.heap.size) (hp : partB xs = true) (h0 : 0 ≤ e) (h1 : e ≤ xs.sum) {b : Bool} (hb : evenOk xs e = b) :
    Calls Try.prog 47 #[.slice A xs.length c, .int .i64 e] w fun en w' => en = .returned (.tuple #[.int .i64 (evenLev xs e), .bool b]) ∧ Below w.heap.size w w' := by
  rw [← hb]; exact levelOf_any A c xs e w lo hi h hh hp h0 h1

set_option maxRecDepth 10000 in
set_option maxHeartbeats 1000000 in
theorem implEvenRow_yes (A : Option Addr) (c : Nat) (xs : List Int) (e : Int) (w : World) (lo hi : Nat) (h : Ints w lo hi A xs) (hh : hi ≤ w.heap.size) (hb : evenB xs e = true) :
    Calls Try.prog 36 #[.slice A xs.length c, .int .i64 e] w (RetIntsB w (evenOf xs e) true) := by
  obtain ⟨i0, hi0, hq0, hq1, hq2⟩ := info_parts info_int
  obtain ⟨hp, ⟨h0, h1⟩, hok⟩ := (evenB_iff xs e).1 hb
  have hs := part_small hp
  have hlen : xs.length ≤ 4 := ((partB_iff xs).1 hp).2.1
  have HP := Lib.hid hp
  have HK := Lib.hid hok
  clear hb hp hok
  go_enter Try.func36, Try.ntmps36
  go_wp2_with fail
  refine (partOk_is A c xs _ lo hi h (by omega) HP.out).mono ?_
  rintro en w' ⟨rfl, rfl⟩
  go_wp2_with fail
  refine (sumOf_any A c xs _ lo hi h hs).mono ?_
  rintro en w' ⟨rfl, rfl⟩
  go_wp2_with fail
  refine (levelOf_is A c xs e _ lo hi h hh HP.out h0 h1 HK.out).mono ?_
  rintro en w1 ⟨rfl, hb1⟩
  have k1 := h.below hb1 hh
  have z1 := hb1.size
  have HB := Lib.hid hb1
  have hz1 : hi ≤ w1.heap.size := by omega
  have HR : Hid (∀ k (h : k < xs.length), (evenOf xs e)[k]'(by rw [evenOf_length]; exact h) = min xs[k] (evenLev xs e)) := evenOf_min xs e
  have HRl := Lib.hid (evenOf_length xs e)
  clear hb1 h
  obtain ⟨V, hV⟩ : ∃ V, V = evenLev xs e := ⟨_, rfl⟩
  rw [← hV] at HR
  rw [← hV]
  clear hV
  go_wp2_with (at_make; refine wpList_make_full _ rfl _ _ _ rfl w1.heap.size 3 i0 _ 1 Try.underlying23 hi0 hq0 hq1 .i64 .i64 xs.length xs.length xs.length rfl rfl rfl rfl (by rw [hq2]; omega) (by unfold maxLen; omega) (Nat.le_refl _) ?_; intro wm hownm hgrowm; have bm : Below w1.heap.size w1 wm := (Below.refl _ _).grown hgrowm (Nat.le_refl _) (by intro k hk; cases hk); have hownm' := fill_start (R := evenOf xs e) HRl.out hownm; clear hownm hgrowm; have zm := bm.size)
  go_loopw [37] (fun i wr => ∃ k : Nat, k ≤ xs.length ∧ i = .int .i64 k ∧ wr.ownsRow w1.heap.size 3 1 (.slice (some ⟨w1.heap.size, 0, none⟩) xs.length xs.length) xs.length (ints (fillTo (evenOf xs e) k)) ∧ Below w1.heap.size w1 wr) (fun i _ => xs.length - (intOf i).toNat)
  case atStart => exact ⟨0, Nat.zero_le _, rfl, hownm', bm⟩
  case round =>
    obtain ⟨k, hk, rfl, hown, hbel⟩ := hrel
    clear hownm' bm
    have zr := hbel.size
    by_cases hlt : k < xs.length
    · obtain ⟨b, o, rfl, _, hbh, hc⟩ := (k1.below hbel (by omega)).at_ hlt
      obtain ⟨hd, hf⟩ := fill_cell hown HRl.out hlt
      have hst := fill_more hown (by rw [HRl.out]; exact hlt) (min xs[k] V) (HR.out k hlt)
      have hbel' := hbel.setCell (p := ⟨w1.heap.size, k, none⟩) (Nat.le_refl _) (.int .i64 (min xs[k] V))
      have H := Lib.hid (And.intro hst hbel')
      clear hst hbel' hown hbel
      go_wp2
      go_roundw
      case rel => exact ⟨k + 1, by omega, by go_num, H.out.1, H.out.2⟩
      case measure => simp [intOf]; omega
    · obtain rfl : k = xs.length := by omega
      have how := fill_end hown HRl.out
      have H := Lib.hid (And.intro how (HB.out.trans (hbel.mono z1)))
      clear how hown hbel
      go_wp2
      go_ret2
      exact ⟨some ⟨w1.heap.size, 0, none⟩, xs.length, by rw [HRl.out]; rfl, H.out.1.more z1 (Nat.le_refl _), H.out.2⟩

set_option maxRecDepth 10000 in
set_option maxHeartbeats 1000000 in
theorem implEvenRow_no (A : Option Addr) (c : Nat) (xs : List Int) (e : Int) (w : World) (lo hi : Nat) (h : Ints w lo hi A xs) (hh : hi ≤ w.heap.size) (hl : xs.length ≤ 1152921504606846976) (hb : evenB xs e = false) :
    Calls Try.prog 36 #[.slice A xs.length c, .int .i64 e] w (RetIntsB w [] false) := by
  have HE : Hid (¬ (partB xs = true ∧ (0 ≤ e ∧ e ≤ xs.sum) ∧ evenOk xs e = true)) := fun h' => by rw [(evenB_iff xs e).2 h'] at hb; cases hb
  clear hb
  by_cases hp : partB xs = true
  · have hs := part_small hp
    have HP := Lib.hid hp
    clear hp
    by_cases h0 : e < 0
    · go_enter Try.func36, Try.ntmps36
      go_wp2_with fail
      refine (partOk_is A c xs _ lo hi h hl HP.out).mono ?_
      rintro en w' ⟨rfl, rfl⟩
      go_wp2
      go_ret2
      exact ⟨none, 0, rfl, Own.nil, Below.refl _ _⟩
    · by_cases h1 : xs.sum < e
      · go_enter Try.func36, Try.ntmps36
        go_wp2_with fail
        refine (partOk_is A c xs _ lo hi h hl HP.out).mono ?_
        rintro en w' ⟨rfl, rfl⟩
        go_wp2_with fail
        refine (sumOf_any A c xs _ lo hi h hs).mono ?_
        rintro en w' ⟨rfl, rfl⟩
        go_wp2
        go_ret2
        exact ⟨none, 0, rfl, Own.nil, Below.refl _ _⟩
      · have hk0 : evenOk xs e = false := by
          by_cases hk : evenOk xs e = true
          · exact absurd ⟨HP.out, ⟨by omega, by omega⟩, hk⟩ HE.out
          · simpa using hk
        have HK := Lib.hid hk0
        clear hk0
        go_enter Try.func36, Try.ntmps36
        go_wp2_with fail
        refine (partOk_is A c xs _ lo hi h hl HP.out).mono ?_
        rintro en w' ⟨rfl, rfl⟩
        go_wp2_with fail
        refine (sumOf_any A c xs _ lo hi h hs).mono ?_
        rintro en w' ⟨rfl, rfl⟩
        go_wp2_with fail
        refine (levelOf_is A c xs e _ lo hi h hh HP.out (by omega) (by omega) HK.out).mono ?_
        rintro en w1 ⟨rfl, hb1⟩
        have HB := Lib.hid hb1
        clear hb1
        go_wp2
        go_ret2
        exact ⟨none, 0, rfl, Own.nil, HB.out⟩
  · have hp' : partB xs = false := by simpa using hp
    have HP := Lib.hid hp'
    clear hp hp'
    go_enter Try.func36, Try.ntmps36
    go_wp2_with fail
    refine (partOk_is A c xs _ lo hi h hl HP.out).mono ?_
    rintro en w' ⟨rfl, rfl⟩
    go_wp2
    go_ret2
    exact ⟨none, 0, rfl, Own.nil, Below.refl _ _⟩

theorem implEvenRow_any (A : Option Addr) (c : Nat) (xs : List Int) (e : Int) (w : World) (lo hi : Nat) (h : Ints w lo hi A xs) (hh : hi ≤ w.heap.size) (hl : xs.length ≤ 1152921504606846976) :
    Calls Try.prog 36 #[.slice A xs.length c, .int .i64 e] w (RetIntsB w (evenXs xs e) (evenB xs e)) := by
  by_cases hb : evenB xs e = true
  · have g := implEvenRow_yes A c xs e w lo hi h hh hb
    simpa [evenXs, hb] using g
  · have hb' : evenB xs e = false := by simpa using hb
    have g := implEvenRow_no A c xs e w lo hi h hh hl hb'
    simpa [evenXs, hb'] using g

end Go.Proofs.Ytakmbpdapdnniaa
