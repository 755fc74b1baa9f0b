/-
  The exact law of PairTwice returns true, and writes nothing that was there. No condition.
-/
import Derived.Test.YtbegdcnljafloaaPairLaw
namespace Go.Proofs.Ytbegdcnljafloaa
open Go.RowKit

set_option maxRecDepth 10000 in
set_option maxHeartbeats 400000 in
theorem exPairTwice_all (x y z : Int) (w : World) :
    Calls Try.prog 9 #[.int .i64 x, .int .i64 y, .int .i64 z] w fun e w' => e = .returned (.bool true) ∧ Below w.heap.size w w' := by
  obtain ⟨a, ha⟩ : ∃ a, twiceA x y z = a := ⟨_, rfl⟩
  obtain ⟨b, hb⟩ : ∃ b, twiceB x y z = b := ⟨_, rfl⟩
  obtain ⟨o, ho⟩ : ∃ o, pairIn x y z = o := ⟨_, rfl⟩
  have H := Lib.hid (And.intro ha (And.intro hb ho))
  have e1 : (a != a) = false := by simp
  have e2 : (b != b) = false := by simp
  have e3 : (o != o) = false := by simp
  clear ha hb ho
  go_enter Try.func9, Try.ntmps9
  go_wp2_with fail
  refine (specPairTwice_any x y z _).mono ?_
  rintro e w1 ⟨he, rfl⟩
  rw [H.out.1, H.out.2.1, H.out.2.2] at he
  subst he
  go_wp2_with fail
  refine (implPairTwice_any x y z _).mono ?_
  rintro e w2 ⟨he, hb2⟩
  rw [H.out.1, H.out.2.1, H.out.2.2] at he
  subst he
  go_wp2
  go_ret
  exact ⟨rfl, hb2⟩

end Go.Proofs.Ytbegdcnljafloaa
