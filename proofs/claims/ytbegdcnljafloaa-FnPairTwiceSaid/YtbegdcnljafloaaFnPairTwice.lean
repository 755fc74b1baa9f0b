/-
  The law of PairTwice returns true for every code, and writes nothing that was there. No condition.
-/
import Derived.Test.YtbegdcnljafloaaDrawT
import Derived.Test.YtbegdcnljafloaaGA
import Derived.Test.YtbegdcnljafloaaPairLaw
import Derived.Deep.RegionHeld3
namespace Go.Proofs.Ytbegdcnljafloaa
open Go.RowKit

set_option maxRecDepth 10000 in
set_option maxHeartbeats 2000000 in
theorem fnPairTwice_walk (A0 : Option Addr) (c0 : Nat) (bs : List Int) (w : World) (h0 : Bytes w w.heap.size A0 bs) (hl : bs.length ≤ 1048576) (hc0 : bs.length ≤ c0) :
    Calls Try.prog 3 #[.slice A0 bs.length c0] w fun e w' => e = .returned (.bool true) ∧ Below w.heap.size w w' := by
  have hlm : bs.length ≤ 9223372036854775807 := by omega
  go_enter Try.func3, Try.ntmps3
  go_wp2_with fail
  refine (drawPairTwice_any A0 c0 bs _ h0 hlm hc0).mono ?_
  rintro e w1 ⟨x, y, z, hx, hy, hz, rfl, hb1⟩
  have B1 := (Below.refl w.heap.size w).trans (hb1.mono (by omega))
  clear hb1 h0
  by_cases hok : pairIn x y z = true
  · have HP := Lib.hid hok
    have hin := (pairIn_iff x y z).1 hok
    obtain ⟨a, ha⟩ : ∃ a, pairA x y z = a := ⟨_, rfl⟩
    obtain ⟨b, hb⟩ : ∃ b, pairB x y z = b := ⟨_, rfl⟩
    have hf : (a + b = 2 * z ∧ 0 ≤ a ∧ a ≤ 2 * x ∧ 0 ≤ b ∧ b ≤ 2 * y) ∧ (pairA y x z = b ∧ pairB y x z = a) ∧ pairA x y (x + y - z) = 2 * x - a ∧ pairB x y (x + y - z) = 2 * y - b := by subst ha; subst hb; unfold pairA pairB; omega
    have HP2 : Hid (pairIn y x z = true) := (pairIn_iff y x z).2 ⟨hin.2.1, hin.1, by omega, by omega⟩
    have HP3 : Hid (pairIn x y (x + y - z) = true) := (pairIn_iff x y _).2 ⟨hin.1, hin.2.1, by omega, by omega⟩
    obtain ⟨⟨f1, f2, f3, f4, f5⟩, f6, f7⟩ := hf
    have HA := Lib.hid (And.intro ha hb)
    have HA2 := Lib.hid f6
    have HA3 := Lib.hid f7
    clear hok ha hb f6 f7
    go_wp2_with fail
    refine (implPair_yes x y z a b _ HP.out HA.out.1 HA.out.2).mono ?_
    rintro e w2 ⟨rfl, hb2⟩
    have z2 := hb2.size
    have B2 := B1.trans (hb2.mono (B1.size))
    clear hb2
    go_wp2_with fail
    refine (specPair_yes x y z a b _ HP.out HA.out.1 HA.out.2).mono ?_
    rintro e w3 ⟨rfl, rfl⟩
    go_wp2_with fail
    refine (implPair_yes y x z b a _ HP2.out HA2.out.1 HA2.out.2).mono ?_
    rintro e w3 ⟨rfl, hb3⟩
    have z3 := hb3.size
    have B3 := B2.trans (hb3.mono (B2.size))
    clear hb3
    go_wp2_with fail
    refine (implPair_yes x y (x + y - z) (2 * x - a) (2 * y - b) _ HP3.out HA3.out.1 HA3.out.2).mono ?_
    rintro e w4 ⟨rfl, hb4⟩
    have z4 := hb4.size
    have B4 := B3.trans (hb4.mono (B3.size))
    clear hb4
    go_wp2
    go_ret
    exact ⟨rfl, B4⟩
  · have HP : Hid (pairIn x y z = false) := by show _ = _; simpa using hok
    clear hok
    go_wp2_with fail
    refine (implPair_no x y z _ HP.out).mono ?_
    rintro e w2 ⟨rfl, hb2⟩
    have z2 := hb2.size
    have B2 := B1.trans (hb2.mono (B1.size))
    clear hb2
    go_wp2_with fail
    refine (specPair_no x y z _ HP.out).mono ?_
    rintro e w3 ⟨rfl, rfl⟩
    go_wp2_with fail
    refine (alive_any _).mono ?_
    rintro e w3 ⟨rfl, hb3⟩
    have z3 := hb3.size
    have B3 := B2.trans (hb3.mono (B2.size))
    clear hb3
    go_wp2
    go_ret
    exact ⟨rfl, B3⟩

set_option maxRecDepth 10000 in
set_option maxHeartbeats 400000 in
theorem fnPairTwice_big (A0 : Option Addr) (c0 : Nat) (bs : List Int) (w : World) (hl : ¬ bs.length ≤ 1048576) (hm : bs.length ≤ 9223372036854775807) :
    Calls Try.prog 3 #[.slice A0 bs.length c0] w fun e w' => e = .returned (.bool true) ∧ Below w.heap.size w w' := by
  go_enter Try.func3, Try.ntmps3
  go_wp2
  go_ret
  exact ⟨rfl, Below.refl _ _⟩

theorem fnPairTwice_all (A0 : Option Addr) (c0 : Nat) (bs : List Int) (w : World) (h0 : Bytes w w.heap.size A0 bs) (hm : bs.length ≤ 9223372036854775807) (hc0 : bs.length ≤ c0) :
    Calls Try.prog 3 #[.slice A0 bs.length c0] w fun e w' => e = .returned (.bool true) ∧ Below w.heap.size w w' := by
  by_cases hl : bs.length ≤ 1048576
  · exact fnPairTwice_walk A0 c0 bs w h0 hl hc0
  · exact fnPairTwice_big A0 c0 bs w hl hm

end Go.Proofs.Ytbegdcnljafloaa
