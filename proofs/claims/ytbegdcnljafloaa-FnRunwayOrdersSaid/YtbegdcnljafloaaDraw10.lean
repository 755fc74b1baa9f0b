/-
  The needs that are drawn for chapter 10, with sets, and with payments: short rows in new memory. No condition.
-/
import Derived.Test.YtbegdcnljafloaaGA
import Derived.Test.YtbegdcnljafloaaGD
import Derived.Test.YtbegdcnljafloaaGrow
import Derived.Test.YtbegdcnljafloaaFx
import Derived.Test.YtbegdcnljafloaaSpec10
import Derived.BigQuiet
import Derived.Deep.Cut
namespace Go.Proofs.Ytbegdcnljafloaa
open Go.RowKit

/-- What drawn needs are, and the reader goes on. -/
def LenTo (w : World) (R : Nat) (A : Option Addr) (c : Nat) (bs : List Int) (q : Nat) (e : Ending) (w' : World) : Prop :=
  ∃ A1 c1, ∃ xs : List Int, e = .returned (.slice A1 xs.length c1) ∧ Own w' w.heap.size w'.heap.size A1 xs ∧ xs.length ≤ 8 ∧ (∃ q', q' ≤ q + 20 ∧ Rd w' R A c bs q') ∧ Chg R (R + 1) w w'
def DrawnRow1 (w : World) (e : Ending) (w' : World) : Prop :=
  ∃ A1 c1, ∃ xs : List Int, xs.length ≤ 8 ∧ e = .returned (.slice A1 xs.length c1) ∧ Own w' w.heap.size w'.heap.size A1 xs ∧ Below w.heap.size w w'
def DrawnRowInt (w : World) (e : Ending) (w' : World) : Prop :=
  ∃ A1 c1, ∃ xs : List Int, ∃ s : Int, xs.length ≤ 8 ∧ (0 ≤ s ∧ s ≤ 63) ∧ e = .returned (.tuple #[.slice A1 xs.length c1, .int .i64 s]) ∧ Own w' w.heap.size w'.heap.size A1 xs ∧ Below w.heap.size w w'
def DrawnRow2 (w : World) (e : Ending) (w' : World) : Prop :=
  ∃ A1 c1 A2 c2, ∃ xs ys : List Int, xs.length ≤ 8 ∧ ys.length ≤ 8 ∧ e = .returned (.tuple #[.slice A1 xs.length c1, .slice A2 ys.length c2]) ∧ Own w' w.heap.size w'.heap.size A1 xs ∧ Own w' w.heap.size w'.heap.size A2 ys ∧ Below w.heap.size w w'
theorem shareSet_rg (xs : List Int) (v : Int) : 0 ≤ ((sharesRow xs).set 0 v).getD 1 0 ∧ ((sharesRow xs).set 0 v).getD 1 0 ≤ 576 := by
  have e := sharesRow_rg xs 1
  simpa [List.getD, List.getElem?_set] using e
theorem pow4 {n : Nat} (h : n ≤ 4) : 1 ≤ (2 : Int) ^ n ∧ (2 : Int) ^ n ≤ 16 := by
  rcases (show n = 0 ∨ n = 1 ∨ n = 2 ∨ n = 3 ∨ n = 4 from by omega) with rfl | rfl | rfl | rfl | rfl <;> simp

set_option maxRecDepth 10000 in
set_option maxHeartbeats 2000000 in
theorem l20Lengths_any (R : Nat) (A : Option Addr) (c : Nat) (bs : List Int) (q0 : Nat) (n : Int) (w : World) (h : Rd w R A c bs q0) (hn : 0 ≤ n) (hn' : n ≤ 1000000) (hl : bs.length ≤ 2000) (hq : q0 ≤ 100000) :
    Calls Try.prog 55 #[.pointer (some ⟨R, 0, none⟩), .int .i64 n] w (LenTo w R A c bs q0) := by
  have hRw := h.lt
  go_enter Try.func55, Try.ntmps55
  have o1_ := h.alloc (.cells #[] 3)
  have B2_ := (Chg.refl R (R + 1) w).trans (Chg.alloc w (.cells #[] 3))
  have G3_ : Grow (w.alloc (.cells #[] 3)) (w.heap.size) 0 ([] : List Int) := by have e := grow_lit w ([] : List Int) (by simp); (try simp only [hsz] at e); exact e
  have l4_ := G3_.lt
  have HL5_ : Hid (([] : List Int).length = 0) := rfl
  go_wp2_with fail
  refine (pick_to R A c bs _ 4 _ o1_ (by omega) (by omega) hl (by omega)).mono ?_
  rintro e w6 ⟨u7_, rfl, u7_l, u7_h, rd8_, hC9_⟩
  have o10_ := G3_.chg hC9_ (by omega)
  have z11_ := hC9_.size
  try simp at z11_
  have B12_ := B2_.trans hC9_
  clear hC9_
  go_wp2
  go_loopw [6, 5] (fun kk u wr => ∃ ys : List Int, ∃ m : Nat, ∃ gy cy : Nat, kk = .int .i64 m ∧ u = .slice (some ⟨gy, 0, none⟩) ys.length cy ∧ (ys.length + m ≤ 4) ∧ (1 ≤ ys.length + m) ∧ w.heap.size ≤ gy ∧ Grow wr gy cy ys ∧ Chg R (R + 1) w wr ∧ w6.heap.size ≤ wr.heap.size ∧ (∃ q : Nat, q ≤ q0 + 12 - 2 * m ∧ Rd wr R A c bs q)) (fun kk u _ => (intOf kk).toNat)
  case atStart => exact ⟨[], ((1 + u7_)).toNat, w.heap.size, 0, (by congr 1; omega), (slice_n (by rfl)), by simp; omega, by simp; omega, (by omega), o10_, B12_, (by first | omega | (simp; omega) | simp), ⟨_, by omega, rd8_⟩⟩
  case round =>
    obtain ⟨ys, m, gy, cy, rfl, rfl, hm1, hm2, gylb, G14_, k15_, k16_, ⟨k17_q, k17_h, k17_⟩⟩ := hrel
    obtain ⟨w13, rfl⟩ : ∃ x, x = wr := ⟨_, rfl⟩
    have l18_ := G14_.lt
    by_cases hlt0 : 0 < m
    · go_wp2_with fail
      refine (pick_to R A c bs _ 6 _ k17_ (by omega) (by omega) hl (by omega)).mono ?_
      rintro e w19 ⟨u20_, rfl, u20_l, u20_h, rd21_, hC22_⟩
      have o23_ := G14_.chg hC22_ (by omega)
      have z24_ := hC22_.size
      have B25_ := k15_.trans hC22_
      clear hC22_
      go_wp2_with fail
      refine (pick_to R A c bs _ 4 _ rd21_ (by omega) (by omega) hl (by omega)).mono ?_
      rintro e w26 ⟨u27_, rfl, u27_l, u27_h, rd28_, hC29_⟩
      have o30_ := o23_.chg hC29_ (by omega)
      have z31_ := hC29_.size
      have B32_ := B25_.trans hC29_
      clear hC29_
      have hq33_ : IntKind.i64.wrap (u27_.tdiv 3) = u27_ / 3 := by rw [Int.tdiv_eq_ediv_of_nonneg (by omega)]; exact IntWalk.i64_in _ (by omega)
      have o34_ := rd28_.alloc (.cells #[.int .i64 (u20_ + ((u27_ / 3) * 7))] 3)
      have o35_ := o30_.alloc (.cells #[.int .i64 (u20_ + ((u27_ / 3) * 7))] 3)
      have B36_ := B32_.trans (Chg.alloc w26 (.cells #[.int .i64 (u20_ + ((u27_ / 3) * 7))] 3))
      have G37_ : Grow (w26.alloc (.cells #[.int .i64 (u20_ + ((u27_ / 3) * 7))] 3)) (w26.heap.size) 1 ([(u20_ + ((u27_ / 3) * 7))] : List Int) := by have e := grow_lit w26 ([(u20_ + ((u27_ / 3) * 7))] : List Int) (by simp); (try simp only [hsz] at e); exact e
      have l38_ := G37_.lt
      have HL39_ : Hid (([(u20_ + ((u27_ / 3) * 7))] : List Int).length = 1) := rfl
      go_upto_region 4 with (at_builtin; (refine append_grL (by rfl) _ _ (by rfl) (xs := ys) (ys := ([(u20_ + ((u27_ / 3) * 7))] : List Int)) (by rfl) (by rfl) o35_ (by rfl) (by have e := HL39_.out; omega) (G37_.ints.read) (by omega) ?_; intro g40_ c41_ L46_ w42 HL46_ L46_l L46_u G42_ hC43_ hg44_))
      have o47_ := o34_.chg hC43_ (by omega)
      have o48_ := G37_.chg hC43_ (by omega)
      have z49_ := hC43_.size
      try simp at z49_
      have B50_ := B36_.then_own hC43_ (by omega)
      clear hC43_
      have l51_ := G42_.lt
      go_wp2
      go_roundw
      case rel => exact ⟨(ys ++ ([(u20_ + ((u27_ / 3) * 7))] : List Int)), m - 1, g40_, c41_, (by congr 1; omega), (slice_n (by have e := HL46_.out; omega)), by have e := HL46_.out; omega, by have e := HL46_.out; omega, (by omega), G42_, B50_, (by first | omega | (simp; omega) | simp), ⟨_, by omega, o47_⟩⟩
      case measure => simp [intOf] <;> omega
    · obtain rfl : m = 0 := by omega
      go_wp2_with fail
      refine (odd_to R A c bs _ n _ k17_ (by omega) (by omega) hl (by omega)).mono ?_
      rintro e w19 ⟨u20_, rfl, ⟨rq23_, rq23_h, rd21_⟩, hC22_⟩
      have o24_ := G14_.chg hC22_ (by omega)
      have z25_ := hC22_.size
      have B26_ := k15_.trans hC22_
      clear hC22_
      cases u20_
      · go_wp2
        go_ret
        exact ⟨_, _, ys, congrArg Ending.returned (slice_n (by first | rfl | (simp) | simp)), o24_.own.more (by omega) (by first | omega | (simp; omega) | simp), by first | omega | (simp) | (simp; done) | (simp; omega), ⟨_, (by omega), rd21_⟩, B26_⟩
      · go_wp2_with fail
        refine (pick_to R A c bs _ 3 _ rd21_ (by omega) (by omega) hl (by omega)).mono ?_
        rintro e w27 ⟨u28_, rfl, u28_l, u28_h, rd29_, hC30_⟩
        have o31_ := o24_.chg hC30_ (by omega)
        have z32_ := hC30_.size
        have B33_ := B26_.trans hC30_
        clear hC30_
        by_cases h34_ : u28_ = 0
        · have h34_b : (u28_ == 0) = true := by simpa using h34_
          have h34_n : (u28_ != 0) = false := by simpa using h34_
          have h34_le : u28_ ≤ 0 := by omega
          have h34_ge : 0 ≤ u28_ := by omega
          have Hh34_ := Lib.hid h34_
          clear h34_
          have o35_ := rd29_.alloc (.cells #[] 3)
          have o36_ := o31_.alloc (.cells #[] 3)
          have B37_ := B33_.trans (Chg.alloc w27 (.cells #[] 3))
          have G38_ : Grow (w27.alloc (.cells #[] 3)) (w27.heap.size) 0 ([] : List Int) := by have e := grow_lit w27 ([] : List Int) (by simp); (try simp only [hsz] at e); exact e
          have l39_ := G38_.lt
          have HL40_ : Hid (([] : List Int).length = 0) := rfl
          go_wp2
          go_ret
          exact ⟨_, _, ([] : List Int), congrArg Ending.returned (slice_n (by first | rfl | (have e := HL40_.out; omega) | simp)), G38_.own.more (by omega) (by first | omega | (simp; omega) | simp), by first | omega | (have e := HL40_.out; omega) | (simp; done) | (simp; omega), ⟨_, (by omega), o35_⟩, B37_⟩
        · have h34_b : (u28_ == 0) = false := by simpa using h34_
          have h34_n : (u28_ != 0) = true := by simpa using h34_
          by_cases h35_ : u28_ = 1
          · have h35_b : (u28_ == 1) = true := by simpa using h35_
            have h35_n : (u28_ != 1) = false := by simpa using h35_
            have h35_le : u28_ ≤ 1 := by omega
            have h35_ge : 1 ≤ u28_ := by omega
            have Hh35_ := Lib.hid h35_
            clear h35_
            have o36_ := rd29_.alloc (.cells #[.int .i64 1, .int .i64 1, .int .i64 1, .int .i64 1] 3)
            have o37_ := o31_.alloc (.cells #[.int .i64 1, .int .i64 1, .int .i64 1, .int .i64 1] 3)
            have B38_ := B33_.trans (Chg.alloc w27 (.cells #[.int .i64 1, .int .i64 1, .int .i64 1, .int .i64 1] 3))
            have G39_ : Grow (w27.alloc (.cells #[.int .i64 1, .int .i64 1, .int .i64 1, .int .i64 1] 3)) (w27.heap.size) 4 ([1, 1, 1, 1] : List Int) := by have e := grow_lit w27 ([1, 1, 1, 1] : List Int) (by simp); (try simp only [hsz] at e); exact e
            have l40_ := G39_.lt
            have HL41_ : Hid (([1, 1, 1, 1] : List Int).length = 4) := rfl
            go_wp2_with (at_builtin; (refine append_grL (by rfl) _ _ (by rfl) (xs := ys) (ys := ([1, 1, 1, 1] : List Int)) (by rfl) (by rfl) o37_ (by rfl) (by have e := HL41_.out; omega) (G39_.ints.read) (by omega) ?_; intro g42_ c43_ L48_ w44 HL48_ L48_l L48_u G44_ hC45_ hg46_))
            have o49_ := o36_.chg hC45_ (by omega)
            have o50_ := G39_.chg hC45_ (by omega)
            have z51_ := hC45_.size
            try simp at z51_
            have B52_ := B38_.then_own hC45_ (by omega)
            clear hC45_
            have l53_ := G44_.lt
            go_wp2
            go_ret
            exact ⟨_, _, (ys ++ ([1, 1, 1, 1] : List Int)), congrArg Ending.returned (slice_n (by first | rfl | (have e := HL48_.out; omega) | simp)), G44_.own.more (by omega) (by first | omega | (simp; omega) | simp), by first | omega | (have e := HL48_.out; omega) | (simp; done) | (simp; omega), ⟨_, (by omega), o49_⟩, B52_⟩
          · have h35_b : (u28_ == 1) = false := by simpa using h35_
            have h35_n : (u28_ != 1) = true := by simpa using h35_
            have o36_ := rd29_.alloc (.cells #[.int .i64 (-1), .int .i64 13] 3)
            have o37_ := o31_.alloc (.cells #[.int .i64 (-1), .int .i64 13] 3)
            have B38_ := B33_.trans (Chg.alloc w27 (.cells #[.int .i64 (-1), .int .i64 13] 3))
            have G39_ : Grow (w27.alloc (.cells #[.int .i64 (-1), .int .i64 13] 3)) (w27.heap.size) 2 ([-1, 13] : List Int) := by have e := grow_lit w27 ([-1, 13] : List Int) (by simp); (try simp only [hsz] at e); exact e
            have l40_ := G39_.lt
            have HL41_ : Hid (([-1, 13] : List Int).length = 2) := rfl
            go_wp2_with fail
            refine (pick_to R A c bs _ 2 _ o36_ (by omega) (by omega) hl (by omega)).mono ?_
            rintro e w42 ⟨u43_, rfl, u43_l, u43_h, rd44_, hC45_⟩
            have o46_ := o37_.chg hC45_ (by omega)
            have o47_ := G39_.chg hC45_ (by omega)
            have z48_ := hC45_.size
            try simp at z48_
            have B49_ := B38_.trans hC45_
            clear hC45_
            obtain ⟨x50_, hx50_⟩ : ∃ x : Nat, u43_ = (x : Int) := ⟨(u43_).toNat, by omega⟩
            have Hx50_ := Lib.hid hx50_
            have x50_b : x50_ < 2 := by omega
            have c51_ : w42.cell? ⟨w27.heap.size, x50_, none⟩ = some (.int .i64 (([-1, 13] : List Int).getD x50_ 0)) := o47_.at_ x50_ (by omega)
            have c51_i : (x50_ : Int) < (2 : Int) := by omega
            have c51_j : (0 : Int) ≤ (x50_ : Int) := by omega
            obtain ⟨v52_, hv52_⟩ : ∃ v, v = ([-1, 13] : List Int).getD x50_ 0 := ⟨_, rfl⟩
            rw [← hv52_] at c51_
            have Hv52_ := Lib.hid hv52_
            clear hv52_
            have c54_ := o46_.at_ 0 (by omega)
            have c54_f := o46_.soft 0 (by omega)
            have c54_i : 0 < (ys.length : Int) := by omega
            have c54_j : (0 : Int) ≤ 0 := by omega
            have hC53_ := Chg.setCell (lo := gy) (hi := gy + 1) w42 (p := ⟨gy, 0, none⟩) ⟨Nat.le_refl _, Nat.lt_succ_self _⟩ (.int .i64 v52_)
            have G55_ := o46_.store 0 v52_
            have o56_ := rd44_.chg hC53_ (by omega)
            have o57_ := o47_.chg hC53_ (by omega)
            have z58_ := hC53_.size
            try simp at z58_
            have B59_ := B49_.then_own hC53_ (by omega)
            clear hC53_
            go_wp2
            go_ret
            exact ⟨_, _, (ys.set 0 v52_), congrArg Ending.returned (slice_n (by first | rfl | (rw [List.length_set]; omega) | simp)), G55_.own.more (by omega) (by first | omega | (simp; omega) | simp), by first | omega | (rw [List.length_set]; omega) | (simp; done) | (simp; omega), ⟨_, (by omega), o56_⟩, B59_⟩

set_option maxRecDepth 10000 in
set_option maxHeartbeats 2000000 in
theorem drawRunwayShares_any (A : Option Addr) (c : Nat) (bs : List Int) (w : World) (h : Bytes w w.heap.size A bs) (hl : bs.length ≤ 9223372036854775807) (hc : bs.length ≤ c) :
    Calls Try.prog 22 #[.slice A bs.length c] w (DrawnRow1 w) := by
  go_enter Try.func22, Try.ntmps22
  go_wp2_with fail
  refine (l20Open_any A c bs _ (h.more (by first | omega | (simp; omega) | simp)) (by omega) hc).mono ?_
  rintro e w1 ⟨rfl, hb3_, rc1_, rb1_, rl1_, rd2_⟩
  have o4_ := h.below hb3_ (by first | omega | (simp; omega) | simp)
  have z5_ := hb3_.size
  have B6_ := (Below.refl w.heap.size w).trans (hb3_.mono (by first | omega | (simp; omega) | simp))
  clear hb3_
  have l7_ := rd2_.lt
  go_wp2_with fail
  refine (l20Lengths_any (w.heap.size) A rc1_ rb1_ _ 9 _ rd2_ (by omega) (by omega) rl1_ (by omega)).mono ?_
  rintro e w8 ⟨A12_, c13_, xs, rfl, ho14_, hx8, ⟨rq11_, rq11_h, rd9_⟩, hC10_⟩
  have o16_ := o4_.chg hC10_ (by first | omega | (simp; omega) | simp) (by omega)
  have z17_ := hC10_.size
  have B18_ := B6_.trans (hC10_.below (by omega) (by first | omega | (simp; omega) | simp))
  clear hC10_
  go_wp2
  go_ret
  exact ⟨A12_, c13_, xs, hx8, rfl, ho14_.more (by omega) (by first | omega | (simp; omega) | simp), B18_⟩

set_option maxRecDepth 10000 in
set_option maxHeartbeats 2000000 in
theorem drawRunwayOrders_any (A : Option Addr) (c : Nat) (bs : List Int) (w : World) (h : Bytes w w.heap.size A bs) (hl : bs.length ≤ 9223372036854775807) (hc : bs.length ≤ c) :
    Calls Try.prog 29 #[.slice A bs.length c] w (DrawnRow1 w) := by
  go_enter Try.func29, Try.ntmps29
  go_wp2_with fail
  refine (l20Open_any A c bs _ (h.more (by first | omega | (simp; omega) | simp)) (by omega) hc).mono ?_
  rintro e w1 ⟨rfl, hb3_, rc1_, rb1_, rl1_, rd2_⟩
  have o4_ := h.below hb3_ (by first | omega | (simp; omega) | simp)
  have z5_ := hb3_.size
  have B6_ := (Below.refl w.heap.size w).trans (hb3_.mono (by first | omega | (simp; omega) | simp))
  clear hb3_
  have l7_ := rd2_.lt
  go_wp2_with fail
  refine (l20Lengths_any (w.heap.size) A rc1_ rb1_ _ 9 _ rd2_ (by omega) (by omega) rl1_ (by omega)).mono ?_
  rintro e w8 ⟨A12_, c13_, xs, rfl, ho14_, hx8, ⟨rq11_, rq11_h, rd9_⟩, hC10_⟩
  have o16_ := o4_.chg hC10_ (by first | omega | (simp; omega) | simp) (by omega)
  have z17_ := hC10_.size
  have B18_ := B6_.trans (hC10_.below (by omega) (by first | omega | (simp; omega) | simp))
  clear hC10_
  go_wp2
  go_ret
  exact ⟨A12_, c13_, xs, hx8, rfl, ho14_.more (by omega) (by first | omega | (simp; omega) | simp), B18_⟩

end Go.Proofs.Ytbegdcnljafloaa
