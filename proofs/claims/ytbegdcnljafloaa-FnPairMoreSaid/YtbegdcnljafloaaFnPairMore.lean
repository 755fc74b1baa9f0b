/-
  The law of PairTwice with a part more returns true for every code, and writes nothing that was there. No condition.
-/
import Derived.Test.YtbegdcnljafloaaDrawT
import Derived.Test.YtbegdcnljafloaaGA
import Derived.Test.YtbegdcnljafloaaPairLaw
import Derived.Deep.RegionHeld3
namespace Go.Proofs.Ytbegdcnljafloaa
open Go.RowKit

set_option maxRecDepth 10000 in
set_option maxHeartbeats 2000000 in
theorem fnPairMore_walk (A0 : Option Addr) (c0 : Nat) (bs : List Int) (w : World) (h0 : Bytes w w.heap.size A0 bs) (hl : bs.length ≤ 1048576) (hc0 : bs.length ≤ c0) :
    Calls Try.prog 5 #[.slice A0 bs.length c0] w fun e w' => e = .returned (.bool true) ∧ Below w.heap.size w w' := by
  have hlm : bs.length ≤ 9223372036854775807 := by omega
  go_enter Try.func5, Try.ntmps5
  go_wp2_with fail
  refine (drawPairTwice_any A0 c0 bs _ h0 hlm hc0).mono ?_
  rintro e w1 ⟨x, y, z, hx, hy, hz, rfl, hb1⟩
  have B1 := (Below.refl w.heap.size w).trans (hb1.mono (by omega))
  clear hb1 h0
  by_cases hok : pairIn x y z = true
  · by_cases hok2 : pairIn x y (z + 1) = true
    · have HP := Lib.hid hok
      have hin := (pairIn_iff x y z).1 hok
      obtain ⟨a, ha⟩ : ∃ a, pairA x y z = a := ⟨_, rfl⟩
      obtain ⟨b, hb⟩ : ∃ b, pairB x y z = b := ⟨_, rfl⟩
      have HQ := Lib.hid hok2
      have hin2 := (pairIn_iff x y (z + 1)).1 hok2
      obtain ⟨p, hp⟩ : ∃ p, pairA x y (z + 1) = p := ⟨_, rfl⟩
      obtain ⟨q, hq⟩ : ∃ q, pairB x y (z + 1) = q := ⟨_, rfl⟩
      have hf : (a ≤ p ∧ b ≤ q ∧ p + q = a + b + 2) ∧ (0 ≤ a ∧ a ≤ 2000) ∧ (0 ≤ b ∧ b ≤ 2000) ∧ (0 ≤ p ∧ p ≤ 2000) ∧ 0 ≤ q ∧ q ≤ 2000 := by subst ha; subst hb; subst hp; subst hq; unfold pairA pairB; omega
      obtain ⟨⟨f1, f2, f3⟩, f4, f5, f6, f7⟩ := hf
      have HA := Lib.hid (And.intro ha hb)
      have HB := Lib.hid (And.intro hp hq)
      clear hok hok2 ha hb hp hq
      go_wp2_with fail
      refine (implPair_yes x y z a b _ HP.out HA.out.1 HA.out.2).mono ?_
      rintro e w2 ⟨rfl, hb2⟩
      have z2 := hb2.size
      have B2 := B1.trans (hb2.mono (B1.size))
      clear hb2
      go_wp2_with fail
      refine (implPair_yes x y (z + 1) p q _ HQ.out HB.out.1 HB.out.2).mono ?_
      rintro e w3 ⟨rfl, hb3⟩
      have z3 := hb3.size
      have B3 := B2.trans (hb3.mono (B2.size))
      clear hb3
      go_wp2_with fail
      refine (alive_any _).mono ?_
      rintro e w4 ⟨rfl, hb4⟩
      have z4 := hb4.size
      have B4 := B3.trans (hb4.mono (B3.size))
      clear hb4
      go_wp2
      go_ret
      exact ⟨rfl, B4⟩
    · have hin' := (pairIn_iff x y z).1 hok
      have HQ : Hid (pairIn x y (z + 1) = false) := by show _ = _; simpa using hok2
      obtain rfl : z = x + y := by have e : ¬ (z + 1 ≤ x + y) := fun h => hok2 ((pairIn_iff x y (z + 1)).2 ⟨hin'.1, hin'.2.1, by omega, h⟩); omega
      clear hin'
      have HP := Lib.hid hok
      have hin := (pairIn_iff x y (x + y)).1 hok
      obtain ⟨a, ha⟩ : ∃ a, pairA x y (x + y) = a := ⟨_, rfl⟩
      obtain ⟨b, hb⟩ : ∃ b, pairB x y (x + y) = b := ⟨_, rfl⟩
      have HA := Lib.hid (And.intro ha hb)
      clear hok hok2 ha hb
      go_wp2_with fail
      refine (implPair_yes x y (x + y) a b _ HP.out HA.out.1 HA.out.2).mono ?_
      rintro e w2 ⟨rfl, hb2⟩
      have z2 := hb2.size
      have B2 := B1.trans (hb2.mono (B1.size))
      clear hb2
      go_wp2_with fail
      refine (implPair_no x y (x + y + 1) _ HQ.out).mono ?_
      rintro e w3 ⟨rfl, hb3⟩
      have z3 := hb3.size
      have B3 := B2.trans (hb3.mono (B2.size))
      clear hb3
      go_wp2_with fail
      refine (alive_any _).mono ?_
      rintro e w4 ⟨rfl, hb4⟩
      have z4 := hb4.size
      have B4 := B3.trans (hb4.mono (B3.size))
      clear hb4
      go_wp2
      go_ret
      exact ⟨rfl, B4⟩
  · have HP : Hid (pairIn x y z = false) := by show _ = _; simpa using hok
    clear hok
    have HQ := implPair_cases x y (z + 1)
    obtain ⟨p, q, b, HQ⟩ := HQ
    go_wp2_with fail
    refine (implPair_no x y z _ HP.out).mono ?_
    rintro e w2 ⟨rfl, hb2⟩
    have z2 := hb2.size
    have B2 := B1.trans (hb2.mono (B1.size))
    clear hb2
    go_wp2_with fail
    refine (HQ _).mono ?_
    rintro e w3 ⟨rfl, hb3⟩
    have z3 := hb3.size
    have B3 := B2.trans (hb3.mono (B2.size))
    clear hb3
    go_wp2_with fail
    refine (alive_any _).mono ?_
    rintro e w4 ⟨rfl, hb4⟩
    have z4 := hb4.size
    have B4 := B3.trans (hb4.mono (B3.size))
    clear hb4
    go_wp2
    go_ret
    exact ⟨rfl, B4⟩

set_option maxRecDepth 10000 in
set_option maxHeartbeats 400000 in
theorem fnPairMore_big (A0 : Option Addr) (c0 : Nat) (bs : List Int) (w : World) (hl : ¬ bs.length ≤ 1048576) (hm : bs.length ≤ 9223372036854775807) :
    Calls Try.prog 5 #[.slice A0 bs.length c0] w fun e w' => e = .returned (.bool true) ∧ Below w.heap.size w w' := by
  go_enter Try.func5, Try.ntmps5
  go_wp2
  go_ret
  exact ⟨rfl, Below.refl _ _⟩

theorem fnPairMore_all (A0 : Option Addr) (c0 : Nat) (bs : List Int) (w : World) (h0 : Bytes w w.heap.size A0 bs) (hm : bs.length ≤ 9223372036854775807) (hc0 : bs.length ≤ c0) :
    Calls Try.prog 5 #[.slice A0 bs.length c0] w fun e w' => e = .returned (.bool true) ∧ Below w.heap.size w w' := by
  by_cases hl : bs.length ≤ 1048576
  · exact fnPairMore_walk A0 c0 bs w h0 hl hc0
  · exact fnPairMore_big A0 c0 bs w hl hm

end Go.Proofs.Ytbegdcnljafloaa
