/-
  The two claims and the estate that are drawn for pairs: three small numbers. No condition.
-/
import Derived.Test.YtbegdcnljafloaaGA
namespace Go.Proofs.Ytbegdcnljafloaa
open Go.RowKit

def DrawnPair (w : World) (e : Ending) (w' : World) : Prop :=
  ∃ x y z : Int, (0 ≤ x ∧ x ≤ 2000) ∧ (-2000 ≤ y ∧ y ≤ 2000) ∧ (0 ≤ z ∧ z ≤ 6000) ∧ e = .returned (.tuple #[.int .i64 x, .int .i64 y, .int .i64 z]) ∧ Below w.heap.size w w'
theorem mul_pair {a b : Int} (h1 : 0 ≤ a) (h2 : a < 13) (h3 : 0 ≤ b) (h4 : b < 49) : 0 ≤ a * b ∧ a * b ≤ 576 := by
  have e1 := Int.mul_nonneg h1 h3
  have e2 := Int.mul_le_mul (show a ≤ 12 by omega) (show b ≤ 48 by omega) h3 (by omega)
  omega
theorem quo_pair {p : Int} (h1 : 0 ≤ p) (h2 : p < 40) : IntKind.i64.wrap (p.tdiv 39) = p / 39 ∧ 0 ≤ p / 39 ∧ p / 39 ≤ 1 :=
  ⟨by rw [Int.tdiv_eq_ediv_of_nonneg h1]; exact IntWalk.i64_in _ (by omega), by omega, by omega⟩

set_option maxRecDepth 10000 in
set_option maxHeartbeats 4000000 in
theorem drawPairTwice_any (A : Option Addr) (c : Nat) (bs : List Int) (w : World) (h : Bytes w w.heap.size A bs) (hl : bs.length ≤ 9223372036854775807) (hc : bs.length ≤ c) :
    Calls Try.prog 11 #[.slice A bs.length c] w (DrawnPair w) := by
  go_enter Try.func11, Try.ntmps11
  go_wp2_with fail
  refine (l20Open_any A c bs _ h hl hc).mono ?_
  rintro e w1 ⟨rfl, hb1, c', bs', hl', rd1⟩
  have ch1 : Chg w.heap.size (w.heap.size + 1) w1 w1 := Chg.refl _ _ _
  have zb := hb1.size
  go_wp2_with fail
  refine (pick_to w.heap.size A c' bs' 0 (13) _ rd1 (by omega) (by omega) hl' (by omega)).mono ?_
  rintro e w2 ⟨u1, rfl, hu1, hu1', rd2, hp2⟩
  have ch2 := ch1.trans hp2
  clear rd1 hp2 ch1
  go_wp2_with fail
  refine (pick_to w.heap.size A c' bs' 1 (49) _ rd2 (by omega) (by omega) hl' (by omega)).mono ?_
  rintro e w3 ⟨u2, rfl, hu2, hu2', rd3, hp3⟩
  have ch3 := ch2.trans hp3
  clear rd2 hp3 ch2
  obtain ⟨P, hP⟩ : ∃ P, u1 * u2 = P := ⟨_, rfl⟩
  have bP := mul_pair hu1 hu1' hu2 hu2'
  rw [hP] at bP
  have wP : IntKind.i64.wrap P = P := IntWalk.i64_in _ (by omega)
  go_wp2_with fail
  refine (pick_to w.heap.size A c' bs' 2 (40) _ rd3 (by omega) (by omega) hl' (by omega)).mono ?_
  rintro e w4 ⟨u3, rfl, hu3, hu3', rd4, hp4⟩
  have ch4 := ch3.trans hp4
  clear rd3 hp4 ch3
  have qu3 := quo_pair hu3 hu3'
  obtain ⟨Q, hQ⟩ : ∃ Q, u3 / 39 = Q := ⟨_, rfl⟩
  rw [hQ] at qu3
  obtain ⟨qu3, qu31, qu32⟩ := qu3
  go_wp2_with fail
  refine (pick_to w.heap.size A c' bs' 3 (13) _ rd4 (by omega) (by omega) hl' (by omega)).mono ?_
  rintro e w5 ⟨u4, rfl, hu4, hu4', rd5, hp5⟩
  have ch5 := ch4.trans hp5
  clear rd4 hp5 ch4
  go_wp2_with fail
  refine (pick_to w.heap.size A c' bs' 4 (49) _ rd5 (by omega) (by omega) hl' (by omega)).mono ?_
  rintro e w6 ⟨u5, rfl, hu5, hu5', rd6, hp6⟩
  have ch6 := ch5.trans hp6
  clear rd5 hp6 ch5
  obtain ⟨R, hR⟩ : ∃ P, u4 * u5 = P := ⟨_, rfl⟩
  have bR := mul_pair hu4 hu4' hu5 hu5'
  rw [hR] at bR
  have wR : IntKind.i64.wrap R = R := IntWalk.i64_in _ (by omega)
  go_wp2_with fail
  refine (pick_to w.heap.size A c' bs' 5 (40) _ rd6 (by omega) (by omega) hl' (by omega)).mono ?_
  rintro e w7 ⟨u6, rfl, hu6, hu6', rd7, hp7⟩
  have ch7 := ch6.trans hp7
  clear rd6 hp7 ch6
  have qu6 := quo_pair hu6 hu6'
  obtain ⟨S, hS⟩ : ∃ Q, u6 / 39 = Q := ⟨_, rfl⟩
  rw [hS] at qu6
  obtain ⟨qu6, qu61, qu62⟩ := qu6
  by_cases hneg : P + Q * 600 + (R - S * 600) < 0
  · go_wp2_with fail
    refine (pick_to w.heap.size A c' bs' 6 (1) _ rd7 (by omega) (by omega) hl' (by omega)).mono ?_
    rintro e w8 ⟨u7, rfl, hu7, hu7', rd8, hp8⟩
    have ch8 := ch7.trans hp8
    clear rd7 hp8 ch7
    go_wp2_with fail
    refine (pick_to w.heap.size A c' bs' 7 (40) _ rd8 (by omega) (by omega) hl' (by omega)).mono ?_
    rintro e w9 ⟨u8, rfl, hu8, hu8', rd9, hp9⟩
    have ch9 := ch8.trans hp9
    clear rd8 hp9 ch8
    have qu8 := quo_pair hu8 hu8'
    obtain ⟨T, hT⟩ : ∃ Q, u8 / 39 = Q := ⟨_, rfl⟩
    rw [hT] at qu8
    obtain ⟨qu8, qu81, qu82⟩ := qu8
    have HB := Lib.hid (hb1.trans (ch9.below (Nat.le_refl _) (by omega)))
    clear ch9 hb1
    go_wp2
    go_ret3
    exact ⟨_, _, _, by omega, by omega, by omega, rfl, HB.out⟩
  · have hwm : IntKind.i64.wrap (P + Q * 600 + (R - S * 600) + 1) = P + Q * 600 + (R - S * 600) + 1 := IntWalk.i64_in _ (by omega)
    go_wp2_with fail
    refine (pick_to w.heap.size A c' bs' 6 (P + Q * 600 + (R - S * 600) + 1) _ rd7 (by omega) (by omega) hl' (by omega)).mono ?_
    rintro e w8 ⟨u7, rfl, hu7, hu7', rd8, hp8⟩
    have ch8 := ch7.trans hp8
    clear rd7 hp8 ch7
    go_wp2_with fail
    refine (pick_to w.heap.size A c' bs' 7 (40) _ rd8 (by omega) (by omega) hl' (by omega)).mono ?_
    rintro e w9 ⟨u8, rfl, hu8, hu8', rd9, hp9⟩
    have ch9 := ch8.trans hp9
    clear rd8 hp9 ch8
    have qu8 := quo_pair hu8 hu8'
    obtain ⟨T, hT⟩ : ∃ Q, u8 / 39 = Q := ⟨_, rfl⟩
    rw [hT] at qu8
    obtain ⟨qu8, qu81, qu82⟩ := qu8
    have HB := Lib.hid (hb1.trans (ch9.below (Nat.le_refl _) (by omega)))
    clear ch9 hb1
    go_wp2
    go_ret3
    exact ⟨_, _, _, by omega, by omega, by omega, rfl, HB.out⟩

end Go.Proofs.Ytbegdcnljafloaa
