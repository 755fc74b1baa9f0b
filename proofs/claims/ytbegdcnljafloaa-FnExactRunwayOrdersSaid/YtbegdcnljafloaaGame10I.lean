/-
  Chapter 10 of the program: RunwayOrders, the mean over all orders. No condition but a length that fits.
-/
import Derived.Test.YtbegdcnljafloaaGame10A
import Derived.Test.YtbegdcnljafloaaRiseA
namespace Go.Proofs.Ytbegdcnljafloaa
open Go.RowKit

/-- What a set costs, as an amount. -/
def costAmt (xs : List Int) (s : Nat) : Int := costTo xs (s : Int) xs.length
theorem costAmt_ok {xs : List Int} (h : needB xs = true) : AmtOk (costAmt xs) xs.length := by
  constructor
  · intro s _
    have e := cost_rg (need_rg h) (s : Int) xs.length
    unfold costAmt; omega
  · intro s k _ _
    unfold costAmt
    rw [cost_or]; omega
theorem rise_run {xs os : List Int} (h : needB xs = true) (ho : orderB xs.length os = true) (i : Nat) : ∀ q, q ≤ xs.length → riseTo (costAmt xs) os i q = runTo xs os i q
  | 0, _ => rfl
  | q + 1, hq => by
    have c : ∀ p, p ≤ xs.length → costAmt xs (comeTo os p) = longTo xs os p := fun p hp => come_cost (need_rg h) xs.length p fun j hj => (order_at ho (by omega)).2.2
    simp only [riseTo, runTo]
    rw [rise_run h ho i q (by omega), c (q + 1) hq, c q (by omega)]
    by_cases e : (os.getD q 0).toNat = i
    · rw [if_pos e, if_pos e]
      simp only [longTo]
      rw [e]
    · rw [if_neg e, if_neg e]
theorem mean_shares {xs : List Int} (h : needB xs = true) : meanRow (risesR (costAmt xs) xs.length) xs.length = shareR xs := by
  have hb := need_bd h
  refine fnRow_congr fun i hi => ?_
  rw [mean_rises hb.2 hi, ← run_mean h hi]
  congr 2
  exact List.map_congr_left fun o ho => rise_run h (perms_order hb.2 ho) i _ (Nat.le_refl _)
theorem costAmt_of {A : Option Addr} {c : Nat} {xs : List Int} {w0 : World} {lo hi Bc : Nat} (h : Ints w0 lo hi A xs) (hh : hi ≤ w0.heap.size) (hc : w0.cell? ⟨Bc, 0, none⟩ = some (.slice A xs.length c)) (hbc : Bc < w0.heap.size) (hb : needB xs = true) :
    AmtOf 62 #[.pointer (some ⟨Bc, 0, none⟩)] xs.length (costAmt xs) w0 := by
  intro s w hs hB
  have o1 := h.below hB hh
  have o2 := (hB.cell (p := ⟨Bc, 0, none⟩) hbc).trans hc
  have e := implCost_in A c xs (s : Int) w lo hi o1 hb (p := 2 ^ xs.length) rfl (by omega) (by omega)
  have E1 := Lib.hid e
  clear e
  show Calls Try.prog _ #[.int .i64 (s : Int), .pointer (some ⟨Bc, 0, none⟩)] w _
  go_enter Try.func62, Try.ntmps62
  go_wp2_with (go_at_call 32; refine E1.out.mono ?_; rintro e9 w2 ⟨rfl, rfl⟩)
  go_ret
  exact ⟨rfl, Below.refl _ _⟩
theorem implRunwayOrders_yes (A : Option Addr) (c : Nat) (xs : List Int) (w : World) (lo hi : Nat) (h : Ints w lo hi A xs) (hh : hi ≤ w.heap.size) (hb : needB xs = true) :
    Calls Try.prog 28 #[.slice A xs.length c] w (RetInts w (sharesRow xs)) := by
  have HNB := Lib.hid hb
  have hbd := need_bd hb
  obtain ⟨hx1, hx4⟩ := hbd
  have o1 := h.alloc hh (.cells #[.slice A xs.length c] 29)
  have c1 : (w.alloc (.cells #[.slice A xs.length c] 29)).cell? ⟨w.heap.size, 0, none⟩ = some (.slice A xs.length c) := by simp [go_sem]
  have b1 : Below w.heap.size w (w.alloc (.cells #[.slice A xs.length c] 29)) := (Below.refl _ w).alloc (Nat.le_refl _) _
  have z1 : (w.alloc (.cells #[.slice A xs.length c] 29)).heap.size = w.heap.size + 1 := by simp
  have hE : Enters Try.prog 62 := enters_of Try.func62 (by kernel_rfl) rfl
  have e := meanRises_any (n := xs.length) (w := w.alloc (.cells #[.slice A xs.length c] 29)) hE (costAmt_of (Bc := w.heap.size) o1 (by omega) c1 (by omega) hb) (costAmt_ok hb) hx1 hx4
  rw [mean_shares hb] at e
  have hfin := Lib.hid (sharesRow_yes hb)
  have hmf : ∀ (fn : Fn) (first cap : Array Value) (w : World), (Instr.makeFunc fn first cap).run Try.prog w = .ok (.func fn first cap) w := fun _ _ _ _ => rfl
  have E1 := Lib.hid e
  clear e hb hE
  go_enter Try.func28, Try.ntmps28
  go_wp2_with fail
  refine (implNeeds_same A c xs _ _ _ o1 (by omega)).mono ?_
  rintro e w' ⟨he, rfl⟩
  rw [HNB.out] at he
  subst he
  go_wp2_with fail
  refine E1.out.mono ?_
  rintro e w2 ⟨A2, c2, rfl, ho2, hb2⟩
  have ho3 : Own w2 w.heap.size w2.heap.size A2 (shareR xs) := ho2.more (by omega) (Nat.le_refl _)
  have hb3 := b1.trans (hb2.mono (by omega))
  clear hmf
  go_wp2
  go_ret
  rw [hfin.out]
  exact ⟨A2, c2, rfl, ho3, hb3⟩
theorem implRunwayOrders_no (A : Option Addr) (c : Nat) (xs : List Int) (w : World) (lo hi : Nat) (h : Ints w lo hi A xs) (hh : hi ≤ w.heap.size) (hl : xs.length ≤ 1000000000) (hb : needB xs = false) :
    Calls Try.prog 28 #[.slice A xs.length c] w (RetInts w (sharesRow xs)) := by
  have HNB := Lib.hid hb
  have o1 := h.alloc hh (.cells #[.slice A xs.length c] 29)
  have b1 : Below w.heap.size w (w.alloc (.cells #[.slice A xs.length c] 29)) := (Below.refl _ w).alloc (Nat.le_refl _) _
  clear hb
  go_enter Try.func28, Try.ntmps28
  go_wp2_with fail
  refine (implNeeds_same A c xs _ _ _ o1 (by omega)).mono ?_
  rintro e w' ⟨he, rfl⟩
  rw [HNB.out] at he
  subst he
  go_wp2
  go_ret
  exact retInts_nil (by rw [sharesRow, if_neg (by rw [HNB.out]; simp)]) b1
theorem implRunwayOrders_any (A : Option Addr) (c : Nat) (xs : List Int) (w : World) (lo hi : Nat) (h : Ints w lo hi A xs) (hh : hi ≤ w.heap.size) (hl : xs.length ≤ 1000000000) :
    Calls Try.prog 28 #[.slice A xs.length c] w (RetInts w (sharesRow xs)) := by
  by_cases hb : needB xs = true
  · exact implRunwayOrders_yes A c xs w lo hi h hh hb
  · exact implRunwayOrders_no A c xs w lo hi h hh hl (by simpa using hb)

end Go.Proofs.Ytbegdcnljafloaa
