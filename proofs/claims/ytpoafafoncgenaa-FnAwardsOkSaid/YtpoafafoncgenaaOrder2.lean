/-
  The program's test of an order returns the same as the model's. No condition but lengths that fit.
-/
import Derived.Test.YtpoafafoncgenaaOrder
namespace Go.Proofs.Ytpoafafoncgenaa
open Go.RowKit

theorem info_bool : (Try.prog.info? 4).map (fun i => (i.zero, i.size, i.bytes)) = some (some (.bool false), 1, 1) := by kernel_rfl
def bools (l : List Bool) : List Value := l.map Value.bool
theorem bools_set (l : List Bool) (k : Nat) (b : Bool) : bools (l.set k b) = (bools l).set k (.bool b) := by simp [bools, List.map_set]
theorem bools_at (l : List Bool) (k : Nat) (h : k < l.length) : (bools l)[k]? = some (.bool (l.getD k false)) := by simp [bools, h]

set_option maxRecDepth 10000 in
set_option maxHeartbeats 800000 in
theorem isOrder_any (D : Option Addr) (d : Nat) (ys : List Int) (n : Nat) (w : World) (lo hi : Nat) (h : Ints w lo hi D ys) (hh : hi ≤ w.heap.size) (hn : n ≤ 4) (hl : ys.length ≤ 1152921504606846976) :
    Calls Try.prog 58 #[.slice D ys.length d, .int .i64 (n : Int)] w fun e w' => e = .returned (.bool (orderB n ys)) ∧ Below w.heap.size w w' := by
  obtain ⟨i0, hi0, hz0, hz1, hz2⟩ := info_parts info_bool
  by_cases hne : ys.length = n
  · have hX : ((ys.length : Int) != (n : Int)) = false := by simp [hne]
    have hln : ys.length ≤ 4 := by omega
    have HN := Lib.hid hne
    clear hne
    go_enter Try.func58, Try.ntmps58
    go_wp2_with (at_make; refine wpList_make_full _ rfl _ _ _ rfl w.heap.size 4 i0 _ 1 Try.underlying71 hi0 hz0 hz1 .i64 .i64 n n n rfl rfl rfl rfl (by rw [hz2]; omega) (by unfold maxLen; omega) (Nat.le_refl _) ?_; intro w1 hown1 hgrow1)
    have hst : w1.ownsRow w.heap.size 4 1 (.slice (some ⟨w.heap.size, 0, none⟩) n n) n (bools (seenAt ys n 0)) := by
      have e1 : bools (seenAt ys n 0) = (madeCells (Value.bool false).cells (n * 1)).toList := by
        rw [Nat.mul_one]; show _ = (madeCells #[Value.bool false] n).toList; rw [toList_madeCells_one]; simp [bools, seenAt]
      rw [e1]; exact hown1
    have hb1 : Below w.heap.size w w1 := (Below.refl _ _).grown hgrow1 (Nat.le_refl _) (by intro k hk; cases hk)
    clear hown1 hgrow1
    go_loopw [16] (fun i wr => ∃ k : Nat, k ≤ ys.length ∧ i = .int .i64 k ∧ OrdTo ys n k ∧ wr.ownsRow w.heap.size 4 1 (.slice (some ⟨w.heap.size, 0, none⟩) n n) n (bools (seenAt ys n k)) ∧ Below w.heap.size w wr) (fun i _ => ys.length - (intOf i).toNat)
    case atStart => exact ⟨0, Nat.zero_le _, rfl, OrdTo.zero _ _, hst, hb1⟩
    case round =>
      obtain ⟨k, hk, rfl, hu, hown, hbel⟩ := hrel
      clear hst hb1
      by_cases hlt : k < ys.length
      · obtain ⟨b, o, rfl, _, hb, hc⟩ := (h.below hbel hh).at_ hlt
        have hbs := hbel.size
        have hbw : b < w.heap.size := by omega
        by_cases h1 : 0 ≤ ys[k]
        · by_cases h2 : ys[k] < (n : Int)
          · obtain ⟨y, hy⟩ : ∃ y : Nat, ys[k] = (y : Int) := ⟨ys[k].toNat, by omega⟩
            rw [hy] at hc
            have hyn : (y : Int) < (n : Int) := by omega
            have hyn' : y < n := by omega
            have hg : ys.getD k 0 = (y : Int) := by rw [getD_of_lt ys k hlt]; exact hy
            have hsl := seenAt_length ys n k
            have hcell : wr.cell? ⟨w.heap.size, y, none⟩ = some (.bool ((seenAt ys n k).getD y false)) := by rw [hown.cellAt y (by omega), bools_at _ y (by omega)]
            have hfz := hown.frozenAt y
            cases hB : (seenAt ys n k).getD y false
            · rw [hB] at hcell
              have hat : OrdAt ys n k := ⟨by rw [hg]; omega, by rw [hg]; exact hyn, by rw [hg, Int.toNat_natCast]; exact hB⟩
              have hst := (hown.stored y (.bool true)).1
              have e2 : seenAt ys n (k + 1) = (seenAt ys n k).set y true := by show (seenAt ys n k).set (ys.getD k 0).toNat true = _; rw [hg, Int.toNat_natCast]
              rw [← bools_set, ← e2] at hst
              have H := Lib.hid (And.intro (hu.succ hat) (And.intro hst (hbel.setCell (p := ⟨w.heap.size, y, none⟩) (Nat.le_refl _) (.bool true))))
              clear hy h1 h2 hu hat hg hB hsl hst e2 hown hbel
              go_wp2
              go_roundw
              case rel => exact ⟨k + 1, by omega, by go_num, H.out.1, H.out.2.1, H.out.2.2⟩
              case measure => simp [intOf]; omega
            · rw [hB] at hcell
              have hbad := Lib.hid (order_bad (n := n) hlt (fun hat => by have e := hat.2.2; rw [hg, Int.toNat_natCast, hB] at e; cases e))
              have HB := Lib.hid hbel
              clear hy h1 h2 hu hg hB hsl hown hbel
              go_wp2
              go_ret
              exact ⟨ret_bool hbad.out.symm, HB.out⟩
          · have hbad := Lib.hid (order_bad (n := n) hlt (fun hat => by have e := hat.2.1; rw [getD_of_lt ys k hlt] at e; exact h2 e))
            have HB := Lib.hid hbel
            clear hu hown hbel
            go_wp2
            go_ret
            exact ⟨ret_bool hbad.out.symm, HB.out⟩
        · have hbad := Lib.hid (order_bad (n := n) hlt (fun hat => by have e := hat.1; rw [getD_of_lt ys k hlt] at e; exact h1 e))
          have HB := Lib.hid hbel
          clear hu hown hbel
          go_wp2
          go_ret
          exact ⟨ret_bool hbad.out.symm, HB.out⟩
      · obtain rfl : k = ys.length := by omega
        have hend := Lib.hid (order_yes HN.out hu)
        have HB := Lib.hid hbel
        clear hu hown hbel
        go_wp2
        go_ret
        exact ⟨ret_bool hend.out.symm, HB.out⟩
  · have hX : ((ys.length : Int) != (n : Int)) = true := by rw [bne_iff_ne]; omega
    have hbad := Lib.hid (order_len hne)
    clear hne
    go_enter Try.func58, Try.ntmps58
    go_wp2
    go_ret
    exact ⟨ret_bool hbad.out.symm, Below.refl _ _⟩

end Go.Proofs.Ytpoafafoncgenaa
