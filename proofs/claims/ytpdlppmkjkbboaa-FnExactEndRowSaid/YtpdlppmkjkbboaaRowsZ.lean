/-
  Rows of a ladder are marked: only their own memory turns. No condition but lengths that fit.
-/
import Derived.Test.YtpdlppmkjkbboaaRowsY
namespace Go.Proofs.Ytpdlppmkjkbboaa
open Go.RowKit

set_option maxRecDepth 10000 in
set_option maxHeartbeats 1000000 in
theorem markIntSS_any (g hi : Nat) (B : List (List Int)) (q : Int) (w : World) (h : Lad w g hi B.length B B.length) (hl : tot B ≤ 1048576) (hq : 0 ≤ q) (hq' : q ≤ 1048576) :
    Calls Try.prog 41 #[.slice (some ⟨g, 0, none⟩) B.length B.length, .int .i64 q] w fun e w' => ∃ r, e = .returned (.int .i64 r) ∧ 0 ≤ r ∧ Chg g hi w w' := by
  obtain ⟨p1, p2, vs, m, p3, p4, p5, p6, p7, p8⟩ := h
  have H7 := Lib.hid p7
  have H8 := Lib.hid p8
  have H4 := Lib.hid p4
  have HT := Lib.hid (tot_rows hl)
  have hlen : B.length ≤ 1048576 := HT.out.1
  clear p7 p8 p4
  go_enter Try.func41, Try.ntmps41
  go_wp2
  go_loopw [1, 5] (fun v i wr => ∃ k : Nat, ∃ s : Int, k ≤ B.length ∧ i = .int .i64 k ∧ v = .int .i64 s ∧ 0 ≤ s ∧ s ≤ q + (lenTo B k : Int) ∧ Chg g hi w wr ∧ Hid (Chg (m 0) (m k) w wr)) (fun _ i _ => B.length - (intOf i).toNat)
  case atStart => exact ⟨0, q, Nat.zero_le _, rfl, rfl, hq, by show _ ≤ q + ((0 : Nat) : Int); omega, Chg.refl _ _ _, Chg.refl _ _ _⟩
  case round =>
    obtain ⟨k, s, hk, rfl, rfl, hs0, hs1, hC, HC⟩ := hrel
    by_cases hlt : k < B.length
    · have a := lad_mono H7.out (Nat.zero_le k) (by omega)
      have b := H7.out k hlt
      have d := lad_mono H7.out (show k + 1 ≤ B.length from hlt) (Nat.le_refl _)
      have hlk := lenTo_le (B := B) (show k + 1 ≤ B.length from hlt)
      have htt : lenTo B B.length ≤ tot B := by unfold tot; omega
      have hls : lenTo B (k + 1) = lenTo B k + (B.getD k []).length := rfl
      obtain ⟨A, q1, q2⟩ := H8.out k hlt
      obtain ⟨y, hy⟩ : ∃ y_, B.getD k [] = y_ := ⟨_, rfl⟩
      have hry := HT.out.2 k
      rw [hy] at q1 q2 hry hls
      have hls1 : lenTo B k + y.length ≤ lenTo B (k + 1) := by omega
      have hls2 : lenTo B k ≤ 1048576 := by omega
      have hc1 : w.cell? ⟨g, k, none⟩ = some (.slice A y.length y.length) := by rw [H4.out.cellAt k (by omega)]; exact q1
      have hc2 : wr.cell? ⟨g, k, none⟩ = some (.slice A y.length y.length) := (HC.out.cell (p := ⟨g, k, none⟩) (by show g < _; omega) (by show ¬ (m 0 ≤ g ∧ g < m k); omega)).trans hc1
      have ho := q2.chg HC.out (by omega) (Or.inr (Nat.le_refl _))
      have HK : Hid (∀ w2, Chg (m k) (m (k + 1)) wr w2 → Chg g hi w w2 ∧ Chg (m 0) (m (k + 1)) w w2) := fun w2 h2 => ⟨hC.trans (h2.wide (by omega) (by omega)), (HC.out.wide (Nat.le_refl _) b).trans (h2.wide a (Nat.le_refl _))⟩
      clear hy hls hc1 q1 q2
      go_wp2_with fail
      refine (markIntS_any A y.length y s wr _ _ ho hry hs0 (by omega)).mono ?_
      rintro e w2 ⟨rfl, -, hC2⟩
      have HK2 := Lib.hid (HK.out w2 hC2)
      clear hC2
      go_wp2
      go_roundw
      case rel => exact ⟨k + 1, s + y.length, by omega, by go_num, rfl, by omega, by omega, HK2.out.1, HK2.out.2⟩
      case measure => simp [intOf]; omega
    · go_wp2
      go_ret
      exact ⟨s, rfl, hs0, hC⟩

end Go.Proofs.Ytpdlppmkjkbboaa
