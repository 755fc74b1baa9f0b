/-
  Awards agree for each two exactly if their losses do; then they keep the order; and no two awards of a case agree so: in plain mathematics.
-/
import Derived.Test.YtbegdcnljafloaaAgree
import Derived.Test.YtbegdcnljafloaaGC
namespace Go.Proofs.Ytbegdcnljafloaa
open Go.RowKit

theorem agree_loss {E : Int} {xs ys : List Int} (h : awardsB E xs ys = true) : agreeB (xs.sum - E) xs (lossesRow xs ys) = agreeB E xs ys := by
  have hA := (awardsB_iff E xs ys).1 h
  have hl := hA.2.1
  have hL := lossesRow_length hl
  have h2 : awardsB (xs.sum - E) xs (lossesRow xs ys) = true := (awardsB_iff _ _ _).2 (loss_aw hA)
  have hk : ∀ i j, i < xs.length → j < xs.length → (AgreeAt xs (lossesRow xs ys) i j ↔ AgreeAt xs ys i j) := by
    intro i j hi hj
    unfold AgreeAt pairA pairB
    rw [loss_getD hl i hi, loss_getD hl j hj]
    omega
  have e : agreeB (xs.sum - E) xs (lossesRow xs ys) = true ↔ agreeB E xs ys = true := by
    rw [agreeB_iff, agreeB_iff]
    constructor
    · exact fun ⟨_, k⟩ => ⟨h, fun i j hi hj => (hk i j (by omega) (by omega)).1 (k i j (by omega) hj)⟩
    · exact fun ⟨_, k⟩ => ⟨h2, fun i j hi hj => (hk i j (by omega) (by omega)).2 (k i j (by omega) hj)⟩
  exact Bool.eq_iff_iff.2 e
theorem agree_keeps {E : Int} {xs ys : List Int} (h : agreeB E xs ys = true) : keepsB E xs ys = true := by
  obtain ⟨h1, h2⟩ := (agreeB_iff E xs ys).1 h
  have hl := ((awardsB_iff E xs ys).1 h1).2.1
  refine (keepsB_iff _ _ _).2 ⟨h1, fun i j hi hj hx => ?_⟩
  have e := h2.two i j (by omega) (by omega)
  rw [loss_getD hl i hi, loss_getD hl j hj]
  unfold AgreeAt pairA pairB at e
  omega
/-- Two rows with the same sum that differ have a place where the one is less, and one where the other is. -/
theorem rows_cross : ∀ (ys zs : List Int), ys.length = zs.length → (∀ k, k < ys.length → ys.getD k 0 ≤ zs.getD k 0) → ys.sum ≤ zs.sum ∧ (ys.sum = zs.sum → ys = zs)
  | [], [], _, _ => ⟨Int.le_refl _, fun _ => rfl⟩
  | y :: ys, z :: zs, hl, h => by
    have h0 := h 0 (by simp)
    have ih := rows_cross ys zs (by simpa using hl) (fun k hk => by have e := h (k + 1) (by simpa using hk); simpa using e)
    simp only [List.getD_cons_zero] at h0
    simp only [List.sum_cons]
    refine ⟨by omega, fun hs => ?_⟩
    have e1 : y = z := by omega
    rw [e1, ih.2 (by omega)]
theorem agree_one {E : Int} {xs ys zs : List Int} (h : agreeB E xs ys = true) (h' : agreeB E xs zs = true) : ys = zs := by
  obtain ⟨a1, a2⟩ := (agreeB_iff E xs ys).1 h
  obtain ⟨b1, b2⟩ := (agreeB_iff E xs zs).1 h'
  obtain ⟨_, al, _, hs1⟩ := (awardsB_iff E xs ys).1 a1
  obtain ⟨_, bl, _, hs2⟩ := (awardsB_iff E xs zs).1 b1
  by_cases c : ∀ k, k < ys.length → ys.getD k 0 ≤ zs.getD k 0
  · exact (rows_cross ys zs (by omega) c).2 (by omega)
  · by_cases d : ∀ k, k < zs.length → zs.getD k 0 ≤ ys.getD k 0
    · exact ((rows_cross zs ys (by omega) d).2 (by omega)).symm
    · exfalso
      simp only [Classical.not_forall] at c d
      obtain ⟨i, hi, ci⟩ := c
      obtain ⟨j, hj, dj⟩ := d
      have e := a2.two i j hi (by omega)
      have e' := b2.two i j (by omega) hj
      unfold AgreeAt pairA pairB at e e'
      omega
/-- Rows that are awards of one case, agreeing in another case of the same awards' making, are the same: the form that is used. -/
theorem agree_eq {E : Int} {xs ys zs : List Int} (h : Aw E xs ys) (h2 : Agrees xs ys) (h' : Aw E xs zs) (h2' : Agrees xs zs) : ys = zs :=
  agree_one ((agreeB_iff _ _ _).2 ⟨(awardsB_iff _ _ _).2 h, h2⟩) ((agreeB_iff _ _ _).2 ⟨(awardsB_iff _ _ _).2 h', h2'⟩)

theorem specPairs_is (E : Int) (A : Option Addr) (c : Nat) (xs : List Int) (D : Option Addr) (d : Nat) (ys : List Int) (K : Bool) (w : World) (lo hi : Nat) (h : Ints w lo hi A xs) (hh : hi ≤ w.heap.size) (hl : xs.length ≤ 1152921504606846976)
    (lo' hi' : Nat) (h' : Ints w lo' hi' D ys) (hh' : hi' ≤ w.heap.size) (hl' : ys.length ≤ 1152921504606846976) (hK : agreeB E xs ys = K) :
    Calls Try.prog 17 #[.agg #[.int .i64 E, .slice A xs.length c], .slice D ys.length d] w fun e w' => e = .returned (.bool K) ∧ Below w.heap.size w w' := by
  have e := specPairsOk_any E A c xs D d ys w lo hi h hh hl lo' hi' h' hh' hl'
  rw [hK] at e
  exact e

end Go.Proofs.Ytbegdcnljafloaa
