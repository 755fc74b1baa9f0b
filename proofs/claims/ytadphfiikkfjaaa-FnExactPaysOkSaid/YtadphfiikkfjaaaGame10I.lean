/-
  Chapter 10 of the program: RunwayOrders, the mean over all orders. No condition but a length that fits.
-/
import Derived.Test.YtadphfiikkfjaaaGame10A
import Derived.Test.YtadphfiikkfjaaaMeanC
namespace Go.Proofs.Ytadphfiikkfjaaa
open Go.RowKit

theorem mean_shares {xs : List Int} (h : needB xs = true) : meanRow (costs10 xs) xs.length = shareR xs := by
  have hb := need_bd h
  refine fnRow_congr fun i hi => ?_
  unfold meanF
  rw [addF_perms hb.2, ← perms_fac hb.2, show ((perms xs.length).map fun o => (costs10 xs o).getD i 0) = (perms xs.length).map fun o => runTo xs o i xs.length from List.map_congr_left fun o _ => fnRow_getD _ hi]
  exact run_mean h hi
theorem runRow_of {A : Option Addr} {c : Nat} {xs : List Int} {w1 : World} {lo hi Bc : Nat} (h : Ints w1 lo hi A xs) (hh : hi ≤ w1.heap.size) (hc : w1.cell? ⟨Bc, 0, none⟩ = some (.slice A xs.length c)) (hbc : Bc < w1.heap.size) (hb : needB xs = true) :
    RowOf 51 (.pointer (some ⟨Bc, 0, none⟩)) xs.length (costs10 xs) w1 := by
  intro D d os w lo' hi' hB hO hh' ho
  have hz := hB.size
  have o1 := h.below hB hh
  have o2 := (hB.cell (p := ⟨Bc, 0, none⟩) hbc).trans hc
  have e := costsIn_any A c xs D d os w lo hi o1 (by omega) lo' hi' hO hh' hb ho
  have HOL := Lib.hid (order_iff ho).1
  rw [HOL.out] at e
  go_enter Try.func51, Try.ntmps51
  go_wp2_with (go_at_call 52; refine e.mono ?_; rintro e9 w2 ⟨A2, c2, rfl, ho2, hb2⟩)
  go_ret
  exact ⟨A2, c2, rfl, ho2, hb2⟩
theorem implRunwayOrders_yes (A : Option Addr) (c : Nat) (xs : List Int) (w : World) (lo hi : Nat) (h : Ints w lo hi A xs) (hh : hi ≤ w.heap.size) (hb : needB xs = true) :
    Calls Try.prog 26 #[.slice A xs.length c] w (RetInts w (sharesRow xs)) := by
  have HNB := Lib.hid hb
  have hbd := need_bd hb
  obtain ⟨hx1, hx4⟩ := hbd
  have o1 := h.alloc hh (.cells #[.slice A xs.length c] 23)
  have c1 : (w.alloc (.cells #[.slice A xs.length c] 23)).cell? ⟨w.heap.size, 0, none⟩ = some (.slice A xs.length c) := by simp [go_sem]
  have b1 : Below w.heap.size w (w.alloc (.cells #[.slice A xs.length c] 23)) := (Below.refl _ w).alloc (Nat.le_refl _) _
  have z1 : (w.alloc (.cells #[.slice A xs.length c] 23)).heap.size = w.heap.size + 1 := by simp
  have hE : Enters Try.prog 51 := enters_of Try.func51 (by kernel_rfl) rfl
  have e := meanOf_any (n := xs.length) (F := costs10 xs) (w := w.alloc (.cells #[.slice A xs.length c] 23)) hE (runRow_of (Bc := w.heap.size) o1 (by omega) c1 (by omega) hb) (costs10_length xs) (fun o k => by have q := costs10_rg hb o k; omega) hx1 hx4
  rw [mean_shares hb] at e
  have hfin := Lib.hid (sharesRow_yes hb)
  have hmf : ∀ (fn : Fn) (first cap : Array Value) (w : World), (Instr.makeFunc fn first cap).run Try.prog w = .ok (.func fn first cap) w := fun _ _ _ _ => rfl
  have E1 := Lib.hid e
  clear e hb hE
  go_enter Try.func26, Try.ntmps26
  go_wp2_with fail
  refine (implNeeds_same A c xs _ _ _ o1 (by omega)).mono ?_
  rintro e w' ⟨he, rfl⟩
  rw [HNB.out] at he
  subst he
  go_wp2_with fail
  refine E1.out.mono ?_
  rintro e w2 ⟨A2, c2, rfl, ho2, hb2⟩
  have ho3 : Own w2 w.heap.size w2.heap.size A2 (shareR xs) := ho2.more (by omega) (Nat.le_refl _)
  have hb3 := b1.trans (hb2.mono (by omega))
  clear hmf
  go_wp2
  go_ret
  rw [hfin.out]
  exact ⟨A2, c2, rfl, ho3, hb3⟩
theorem implRunwayOrders_no (A : Option Addr) (c : Nat) (xs : List Int) (w : World) (lo hi : Nat) (h : Ints w lo hi A xs) (hh : hi ≤ w.heap.size) (hl : xs.length ≤ 1000000000) (hb : needB xs = false) :
    Calls Try.prog 26 #[.slice A xs.length c] w (RetInts w (sharesRow xs)) := by
  have HNB := Lib.hid hb
  have o1 := h.alloc hh (.cells #[.slice A xs.length c] 23)
  have b1 : Below w.heap.size w (w.alloc (.cells #[.slice A xs.length c] 23)) := (Below.refl _ w).alloc (Nat.le_refl _) _
  clear hb
  go_enter Try.func26, Try.ntmps26
  go_wp2_with fail
  refine (implNeeds_same A c xs _ _ _ o1 (by omega)).mono ?_
  rintro e w' ⟨he, rfl⟩
  rw [HNB.out] at he
  subst he
  go_wp2
  go_ret
  exact retInts_nil (by rw [sharesRow, if_neg (by rw [HNB.out]; simp)]) b1
theorem implRunwayOrders_any (A : Option Addr) (c : Nat) (xs : List Int) (w : World) (lo hi : Nat) (h : Ints w lo hi A xs) (hh : hi ≤ w.heap.size) (hl : xs.length ≤ 1000000000) :
    Calls Try.prog 26 #[.slice A xs.length c] w (RetInts w (sharesRow xs)) := by
  by_cases hb : needB xs = true
  · exact implRunwayOrders_yes A c xs w lo hi h hh hb
  · exact implRunwayOrders_no A c xs w lo hi h hh hl (by simpa using hb)

end Go.Proofs.Ytadphfiikkfjaaa
