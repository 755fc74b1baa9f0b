/-
  The visits that are drawn for chapter 11, with a number of houses, and with a price or a set: short rows in new memory. No condition.
-/
import Derived.Test.YtdbohnaohinieaaGA
import Derived.Test.YtdbohnaohinieaaGD
import Derived.Test.YtdbohnaohinieaaGrow
import Derived.Test.YtdbohnaohinieaaFx
import Derived.Test.YtdbohnaohinieaaSpec11
import Derived.BigQuiet
import Derived.Deep.Cut
namespace Go.Proofs.Ytdbohnaohinieaa
open Go.RowKit

/-- What drawn visits are, and the reader goes on. -/
def VisTab (w : World) (R : Nat) (A : Option Addr) (c : Nat) (bs : List Int) (q : Nat) (e : Ending) (w' : World) : Prop :=
  ∃ g1 o1 c1, ∃ vs : List Int, ∃ N : Int, e = .returned (.tuple #[.int .i64 N, .slice (some ⟨g1, o1, none⟩) vs.length c1]) ∧ (w.heap.size ≤ g1 ∧ g1 < w'.heap.size) ∧ Own w' w.heap.size w'.heap.size (some ⟨g1, o1, none⟩) vs ∧ vs.length ≤ c1 ∧ vs.length ≤ 12 ∧ (1 ≤ N ∧ N ≤ 8) ∧ (∃ q', q' ≤ q + 20 ∧ Rd w' R A c bs q') ∧ Chg R (R + 1) w w'
def DrawnVis (w : World) (e : Ending) (w' : World) : Prop :=
  ∃ g1 o1 c1, ∃ vs : List Int, ∃ N : Int, (w.heap.size ≤ g1 ∧ g1 < w'.heap.size) ∧ vs.length ≤ c1 ∧ vs.length ≤ 12 ∧ (1 ≤ N ∧ N ≤ 8) ∧ e = .returned (.tuple #[.int .i64 N, .slice (some ⟨g1, o1, none⟩) vs.length c1]) ∧ Own w' w.heap.size w'.heap.size (some ⟨g1, o1, none⟩) vs ∧ Below w.heap.size w w'
def DrawnVisInt (w : World) (e : Ending) (w' : World) : Prop :=
  ∃ g1 o1 c1, ∃ vs : List Int, ∃ N s : Int, (w.heap.size ≤ g1 ∧ g1 < w'.heap.size) ∧ vs.length ≤ c1 ∧ vs.length ≤ 12 ∧ (1 ≤ N ∧ N ≤ 8) ∧ (-100 ≤ s ∧ s ≤ 100) ∧ e = .returned (.tuple #[.int .i64 N, .slice (some ⟨g1, o1, none⟩) vs.length c1, .int .i64 s]) ∧ Own w' w.heap.size w'.heap.size (some ⟨g1, o1, none⟩) vs ∧ Below w.heap.size w w'

set_option maxRecDepth 10000 in
set_option maxHeartbeats 2000000 in
theorem l20Visits_any (R : Nat) (A : Option Addr) (c : Nat) (bs : List Int) (q0 : Nat) (m0 : Int) (w : World) (h : Rd w R A c bs q0) (hn : 0 ≤ m0) (hn' : m0 ≤ 1000000) (hl : bs.length ≤ 2000) (hq : q0 ≤ 100000) :
    Calls Try.prog 31 #[.pointer (some ⟨R, 0, none⟩), .int .i64 m0] w (VisTab w R A c bs q0) := by
  have hRw := h.lt
  go_enter Try.func31, Try.ntmps31
  go_wp2_with fail
  refine (pick_to R A c bs _ 4 _ h (by omega) (by omega) hl (by omega)).mono ?_
  rintro e w1 ⟨u2_, rfl, u2_l, u2_h, rd3_, hC4_⟩
  have z5_ := hC4_.size
  have B6_ := (Chg.refl R (R + 1) w).trans hC4_
  clear hC4_
  obtain ⟨n, hnn⟩ : ∃ n : Nat, (1 : Int) + u2_ = (n : Int) := ⟨(1 + u2_).toNat, by omega⟩
  have hn1 : 1 ≤ n := by omega
  have hn4 : n ≤ 4 := by omega
  obtain ⟨hq1, hq2⟩ := pow_bd hn4
  have o7_ := rd3_.alloc (.cells #[] 3)
  have B8_ := B6_.trans (Chg.alloc w1 (.cells #[] 3))
  have G9_ : Grow (w1.alloc (.cells #[] 3)) (w1.heap.size) 0 ([] : List Int) := by have e := grow_lit w1 ([] : List Int) (by simp); (try simp only [hsz] at e); exact e
  have l10_ := G9_.lt
  have HL11_ : Hid (([] : List Int).length = 0) := rfl
  go_wp2_with fail
  refine (pick_to R A c bs _ 6 _ o7_ (by omega) (by omega) hl (by omega)).mono ?_
  rintro e w12 ⟨u13_, rfl, u13_l, u13_h, rd14_, hC15_⟩
  have o16_ := G9_.chg hC15_ (by omega)
  have z17_ := hC15_.size
  try simp at z17_
  have B18_ := B8_.trans hC15_
  clear hC15_
  go_wp2
  go_loopw [8, 7] (fun kk u wr => ∃ ys : List Int, ∃ m : Nat, ∃ gy cy : Nat, kk = .int .i64 m ∧ u = .slice (some ⟨gy, 0, none⟩) ys.length cy ∧ (ys.length + m ≤ 5) ∧ w.heap.size ≤ gy ∧ Grow wr gy cy ys ∧ Chg R (R + 1) w wr ∧ w12.heap.size ≤ wr.heap.size ∧ (∃ q : Nat, q ≤ q0 + 12 - m ∧ Rd wr R A c bs q)) (fun kk u _ => (intOf kk).toNat)
  case atStart => exact ⟨[], (u13_).toNat, w1.heap.size, 0, (by congr 1; omega), (slice_n (by rfl)), by simp; omega, (by omega), o16_, B18_, (by first | omega | (simp; omega) | simp), ⟨_, by omega, rd14_⟩⟩
  case round =>
    obtain ⟨ys, m, gy, cy, rfl, rfl, hm1, gylb, G20_, k21_, k22_, ⟨k23_q, k23_h, k23_⟩⟩ := hrel
    obtain ⟨w19, rfl⟩ : ∃ x, x = wr := ⟨_, rfl⟩
    have l24_ := G20_.lt
    by_cases hlt0 : 0 < m
    · go_wp2_with fail
      refine (pick_to R A c bs _ (2 ^ n) _ k23_ (by omega) (by omega) hl (by omega)).mono ?_
      rintro e w25 ⟨u26_, rfl, u26_l, u26_h, rd27_, hC28_⟩
      have o29_ := G20_.chg hC28_ (by omega)
      have z30_ := hC28_.size
      have B31_ := k21_.trans hC28_
      clear hC28_
      have o32_ := rd27_.alloc (.cells #[.int .i64 u26_] 3)
      have o33_ := o29_.alloc (.cells #[.int .i64 u26_] 3)
      have B34_ := B31_.trans (Chg.alloc w25 (.cells #[.int .i64 u26_] 3))
      have G35_ : Grow (w25.alloc (.cells #[.int .i64 u26_] 3)) (w25.heap.size) 1 ([u26_] : List Int) := by have e := grow_lit w25 ([u26_] : List Int) (by simp); (try simp only [hsz] at e); exact e
      have l36_ := G35_.lt
      have HL37_ : Hid (([u26_] : List Int).length = 1) := rfl
      go_upto_region 5 with (at_builtin; (refine append_grL (by rfl) _ _ (by rfl) (xs := ys) (ys := ([u26_] : List Int)) (by rfl) (by rfl) o33_ (by rfl) (by have e := HL37_.out; omega) (G35_.ints.read) (by omega) ?_; intro g38_ c39_ L44_ w40 HL44_ L44_l L44_u G40_ hC41_ hg42_))
      have o45_ := o32_.chg hC41_ (by omega)
      have o46_ := G35_.chg hC41_ (by omega)
      have z47_ := hC41_.size
      try simp at z47_
      have B48_ := B34_.then_own hC41_ (by omega)
      clear hC41_
      have l49_ := G40_.lt
      go_wp2
      go_roundw
      case rel => exact ⟨(ys ++ ([u26_] : List Int)), m - 1, g38_, c39_, (by congr 1; omega), (slice_n (by have e := HL44_.out; omega)), by have e := HL44_.out; omega, (by omega), G40_, B48_, (by first | omega | (simp; omega) | simp), ⟨_, by omega, o45_⟩⟩
      case measure => simp [intOf] <;> omega
    · obtain rfl : m = 0 := by omega
      go_wp2_with fail
      refine (odd_to R A c bs _ m0 _ k23_ (by omega) (by omega) hl (by omega)).mono ?_
      rintro e w25 ⟨u26_, rfl, ⟨rq29_, rq29_h, rd27_⟩, hC28_⟩
      have o30_ := G20_.chg hC28_ (by omega)
      have z31_ := hC28_.size
      have B32_ := k21_.trans hC28_
      clear hC28_
      cases u26_
      · go_wp2
        go_ret2
        exact ⟨_, _, _, ys, _, congrArg (fun z => Ending.returned (.tuple #[_, z])) (slice_n (by first | rfl | (simp) | (simp; done))), ⟨by omega, o30_.lt⟩, o30_.own.more (by omega) (by first | omega | (simp; omega) | simp), o30_.room, by first | omega | (simp) | (simp; done) | (simp; omega), (by omega), ⟨_, (by omega), rd27_⟩, B32_⟩
      · go_wp2_with fail
        refine (pick_to R A c bs _ 3 _ rd27_ (by omega) (by omega) hl (by omega)).mono ?_
        rintro e w33 ⟨u34_, rfl, u34_l, u34_h, rd35_, hC36_⟩
        have o37_ := o30_.chg hC36_ (by omega)
        have z38_ := hC36_.size
        have B39_ := B32_.trans hC36_
        clear hC36_
        by_cases h40_ : u34_ = 0
        · have h40_b : (u34_ == 0) = true := by simpa using h40_
          have h40_n : (u34_ != 0) = false := by simpa using h40_
          have h40_le : u34_ ≤ 0 := by omega
          have h40_ge : 0 ≤ u34_ := by omega
          have Hh40_ := Lib.hid h40_
          clear h40_
          go_wp2
          go_ret2
          exact ⟨_, _, _, ys, _, congrArg (fun z => Ending.returned (.tuple #[_, z])) (slice_n (by first | rfl | (simp) | (simp; done))), ⟨by omega, o37_.lt⟩, o37_.own.more (by omega) (by first | omega | (simp; omega) | simp), o37_.room, by first | omega | (simp) | (simp; done) | (simp; omega), (by omega), ⟨_, (by omega), rd35_⟩, B39_⟩
        · have h40_b : (u34_ == 0) = false := by simpa using h40_
          have h40_n : (u34_ != 0) = true := by simpa using h40_
          by_cases h41_ : u34_ = 1
          · have h41_b : (u34_ == 1) = true := by simpa using h41_
            have h41_n : (u34_ != 1) = false := by simpa using h41_
            have h41_le : u34_ ≤ 1 := by omega
            have h41_ge : 1 ≤ u34_ := by omega
            have Hh41_ := Lib.hid h41_
            clear h41_
            have o42_ := rd35_.alloc (.cells #[.int .i64 (2 ^ n)] 3)
            have o43_ := o37_.alloc (.cells #[.int .i64 (2 ^ n)] 3)
            have B44_ := B39_.trans (Chg.alloc w33 (.cells #[.int .i64 (2 ^ n)] 3))
            have G45_ : Grow (w33.alloc (.cells #[.int .i64 (2 ^ n)] 3)) (w33.heap.size) 1 ([(2 ^ n)] : List Int) := by have e := grow_lit w33 ([(2 ^ n)] : List Int) (by simp); (try simp only [hsz] at e); exact e
            have l46_ := G45_.lt
            have HL47_ : Hid (([(2 ^ n)] : List Int).length = 1) := rfl
            go_wp2_with (at_builtin; (refine append_grL (by rfl) _ _ (by rfl) (xs := ys) (ys := ([(2 ^ n)] : List Int)) (by rfl) (by rfl) o43_ (by rfl) (by have e := HL47_.out; omega) (G45_.ints.read) (by omega) ?_; intro g48_ c49_ L54_ w50 HL54_ L54_l L54_u G50_ hC51_ hg52_))
            have o55_ := o42_.chg hC51_ (by omega)
            have o56_ := G45_.chg hC51_ (by omega)
            have z57_ := hC51_.size
            try simp at z57_
            have B58_ := B44_.then_own hC51_ (by omega)
            clear hC51_
            have l59_ := G50_.lt
            go_wp2
            go_ret2
            exact ⟨_, _, _, (ys ++ ([(2 ^ n)] : List Int)), _, congrArg (fun z => Ending.returned (.tuple #[_, z])) (slice_n (by first | rfl | (have e := HL54_.out; omega) | (simp; done))), ⟨by omega, G50_.lt⟩, G50_.own.more (by omega) (by first | omega | (simp; omega) | simp), G50_.room, by first | omega | (have e := HL54_.out; omega) | (simp; done) | (simp; omega), (by omega), ⟨_, (by omega), o55_⟩, B58_⟩
          · have h41_b : (u34_ == 1) = false := by simpa using h41_
            have h41_n : (u34_ != 1) = true := by simpa using h41_
            have o42_ := rd35_.alloc (.cells #[.int .i64 0, .int .i64 0, .int .i64 0, .int .i64 0, .int .i64 0, .int .i64 0, .int .i64 1] 3)
            have o43_ := o37_.alloc (.cells #[.int .i64 0, .int .i64 0, .int .i64 0, .int .i64 0, .int .i64 0, .int .i64 0, .int .i64 1] 3)
            have B44_ := B39_.trans (Chg.alloc w33 (.cells #[.int .i64 0, .int .i64 0, .int .i64 0, .int .i64 0, .int .i64 0, .int .i64 0, .int .i64 1] 3))
            have G45_ : Grow (w33.alloc (.cells #[.int .i64 0, .int .i64 0, .int .i64 0, .int .i64 0, .int .i64 0, .int .i64 0, .int .i64 1] 3)) (w33.heap.size) 7 ([0, 0, 0, 0, 0, 0, 1] : List Int) := by have e := grow_lit w33 ([0, 0, 0, 0, 0, 0, 1] : List Int) (by simp); (try simp only [hsz] at e); exact e
            have l46_ := G45_.lt
            have HL47_ : Hid (([0, 0, 0, 0, 0, 0, 1] : List Int).length = 7) := rfl
            go_wp2_with (at_builtin; (refine append_grL (by rfl) _ _ (by rfl) (xs := ys) (ys := ([0, 0, 0, 0, 0, 0, 1] : List Int)) (by rfl) (by rfl) o43_ (by rfl) (by have e := HL47_.out; omega) (G45_.ints.read) (by omega) ?_; intro g48_ c49_ L54_ w50 HL54_ L54_l L54_u G50_ hC51_ hg52_))
            have o55_ := o42_.chg hC51_ (by omega)
            have o56_ := G45_.chg hC51_ (by omega)
            have z57_ := hC51_.size
            try simp at z57_
            have B58_ := B44_.then_own hC51_ (by omega)
            clear hC51_
            have l59_ := G50_.lt
            go_wp2
            go_ret2
            exact ⟨_, _, _, (ys ++ ([0, 0, 0, 0, 0, 0, 1] : List Int)), _, congrArg (fun z => Ending.returned (.tuple #[_, z])) (slice_n (by first | rfl | (have e := HL54_.out; omega) | (simp; done))), ⟨by omega, G50_.lt⟩, G50_.own.more (by omega) (by first | omega | (simp; omega) | simp), G50_.room, by first | omega | (have e := HL54_.out; omega) | (simp; done) | (simp; omega), (by omega), ⟨_, (by omega), o55_⟩, B58_⟩

set_option maxRecDepth 10000 in
set_option maxHeartbeats 2000000 in
theorem drawVisitsOk_any (A : Option Addr) (c : Nat) (bs : List Int) (w : World) (h : Bytes w w.heap.size A bs) (hl : bs.length ≤ 9223372036854775807) (hc : bs.length ≤ c) :
    Calls Try.prog 12 #[.slice A bs.length c] w (DrawnVis w) := by
  go_enter Try.func12, Try.ntmps12
  go_wp2_with fail
  refine (l20Open_any A c bs _ (h.more (by first | omega | (simp; omega) | simp)) (by omega) hc).mono ?_
  rintro e w1 ⟨rfl, hb3_, rc1_, rb1_, rl1_, rd2_⟩
  have o4_ := h.below hb3_ (by first | omega | (simp; omega) | simp)
  have z5_ := hb3_.size
  have B6_ := (Below.refl w.heap.size w).trans (hb3_.mono (by first | omega | (simp; omega) | simp))
  clear hb3_
  have l7_ := rd2_.lt
  go_wp2_with fail
  refine (l20Visits_any (w.heap.size) A rc1_ rb1_ _ 2 _ rd2_ (by omega) (by omega) rl1_ (by omega)).mono ?_
  rintro e w8 ⟨g1, o1, c13_, vs, N, rfl, ⟨hg1a, hg1b⟩, ho14_, hxc, hx12, ⟨hN1, hN8⟩, ⟨rq11_, rq11_h, rd9_⟩, hC10_⟩
  have o15_ := o4_.chg hC10_ (by first | omega | (simp; omega) | simp) (by omega)
  have z16_ := hC10_.size
  have B17_ := B6_.trans (hC10_.below (by omega) (by first | omega | (simp; omega) | simp))
  clear hC10_
  go_wp2
  go_ret2
  exact ⟨g1, o1, c13_, vs, N, ⟨by omega, by omega⟩, hxc, hx12, ⟨hN1, hN8⟩, rfl, ho14_.more (by omega) (by first | omega | (simp; omega) | simp), B17_⟩

set_option maxRecDepth 10000 in
set_option maxHeartbeats 2000000 in
theorem drawPassShares_any (A : Option Addr) (c : Nat) (bs : List Int) (w : World) (h : Bytes w w.heap.size A bs) (hl : bs.length ≤ 9223372036854775807) (hc : bs.length ≤ c) :
    Calls Try.prog 16 #[.slice A bs.length c] w (DrawnVisInt w) := by
  go_enter Try.func16, Try.ntmps16
  go_wp2_with fail
  refine (l20Open_any A c bs _ (h.more (by first | omega | (simp; omega) | simp)) (by omega) hc).mono ?_
  rintro e w1 ⟨rfl, hb3_, rc1_, rb1_, rl1_, rd2_⟩
  have o4_ := h.below hb3_ (by first | omega | (simp; omega) | simp)
  have z5_ := hb3_.size
  have B6_ := (Below.refl w.heap.size w).trans (hb3_.mono (by first | omega | (simp; omega) | simp))
  clear hb3_
  have l7_ := rd2_.lt
  go_wp2_with fail
  refine (l20Visits_any (w.heap.size) A rc1_ rb1_ _ 12 _ rd2_ (by omega) (by omega) rl1_ (by omega)).mono ?_
  rintro e w8 ⟨g1, o1, c13_, vs, N, rfl, ⟨hg1a, hg1b⟩, ho14_, hxc, hx12, ⟨hN1, hN8⟩, ⟨rq11_, rq11_h, rd9_⟩, hC10_⟩
  have o15_ := o4_.chg hC10_ (by first | omega | (simp; omega) | simp) (by omega)
  have z16_ := hC10_.size
  have B17_ := B6_.trans (hC10_.below (by omega) (by first | omega | (simp; omega) | simp))
  clear hC10_
  go_wp2_with fail
  refine (pick_to (w.heap.size) A rc1_ rb1_ _ 13 _ rd9_ (by omega) (by omega) rl1_ (by omega)).mono ?_
  rintro e w18 ⟨u19_, rfl, u19_l, u19_h, rd20_, hC21_⟩
  have o22_ := o15_.chg hC21_ (by first | omega | (simp; omega) | simp) (by omega)
  have o23_ := ho14_.chg hC21_ (by first | omega | (simp; omega) | simp) (by omega)
  have z24_ := hC21_.size
  have B25_ := B17_.trans (hC21_.below (by omega) (by first | omega | (simp; omega) | simp))
  clear hC21_
  go_wp2_with fail
  refine (pick_to (w.heap.size) A rc1_ rb1_ _ 40 _ rd20_ (by omega) (by omega) rl1_ (by omega)).mono ?_
  rintro e w26 ⟨u27_, rfl, u27_l, u27_h, rd28_, hC29_⟩
  have o30_ := o22_.chg hC29_ (by first | omega | (simp; omega) | simp) (by omega)
  have o31_ := o23_.chg hC29_ (by first | omega | (simp; omega) | simp) (by omega)
  have z32_ := hC29_.size
  have B33_ := B25_.trans (hC29_.below (by omega) (by first | omega | (simp; omega) | simp))
  clear hC29_
  have hq34_ : IntKind.i64.wrap (u27_.tdiv 39) = u27_ / 39 := by rw [Int.tdiv_eq_ediv_of_nonneg (by omega)]; exact IntWalk.i64_in _ (by omega)
  go_wp2_with fail
  refine (pick_to (w.heap.size) A rc1_ rb1_ _ 40 _ rd28_ (by omega) (by omega) rl1_ (by omega)).mono ?_
  rintro e w35 ⟨u36_, rfl, u36_l, u36_h, rd37_, hC38_⟩
  have o39_ := o30_.chg hC38_ (by first | omega | (simp; omega) | simp) (by omega)
  have o40_ := o31_.chg hC38_ (by first | omega | (simp; omega) | simp) (by omega)
  have z41_ := hC38_.size
  have B42_ := B33_.trans (hC38_.below (by omega) (by first | omega | (simp; omega) | simp))
  clear hC38_
  have hq43_ : IntKind.i64.wrap (u36_.tdiv 39) = u36_ / 39 := by rw [Int.tdiv_eq_ediv_of_nonneg (by omega)]; exact IntWalk.i64_in _ (by omega)
  go_wp2
  go_ret3
  exact ⟨g1, o1, c13_, vs, N, _, ⟨by omega, by omega⟩, hxc, hx12, ⟨hN1, hN8⟩, (by omega), rfl, o40_.more (by omega) (by first | omega | (simp; omega) | simp), B42_⟩

set_option maxRecDepth 10000 in
set_option maxHeartbeats 2000000 in
theorem drawPassWorth_any (A : Option Addr) (c : Nat) (bs : List Int) (w : World) (h : Bytes w w.heap.size A bs) (hl : bs.length ≤ 9223372036854775807) (hc : bs.length ≤ c) :
    Calls Try.prog 23 #[.slice A bs.length c] w (DrawnVisInt w) := by
  go_enter Try.func23, Try.ntmps23
  go_wp2_with fail
  refine (l20Open_any A c bs _ (h.more (by first | omega | (simp; omega) | simp)) (by omega) hc).mono ?_
  rintro e w1 ⟨rfl, hb3_, rc1_, rb1_, rl1_, rd2_⟩
  have o4_ := h.below hb3_ (by first | omega | (simp; omega) | simp)
  have z5_ := hb3_.size
  have B6_ := (Below.refl w.heap.size w).trans (hb3_.mono (by first | omega | (simp; omega) | simp))
  clear hb3_
  have l7_ := rd2_.lt
  go_wp2_with fail
  refine (l20Visits_any (w.heap.size) A rc1_ rb1_ _ 12 _ rd2_ (by omega) (by omega) rl1_ (by omega)).mono ?_
  rintro e w8 ⟨g1, o1, c13_, vs, N, rfl, ⟨hg1a, hg1b⟩, ho14_, hxc, hx12, ⟨hN1, hN8⟩, ⟨rq11_, rq11_h, rd9_⟩, hC10_⟩
  have o15_ := o4_.chg hC10_ (by first | omega | (simp; omega) | simp) (by omega)
  have z16_ := hC10_.size
  have B17_ := B6_.trans (hC10_.below (by omega) (by first | omega | (simp; omega) | simp))
  clear hC10_
  obtain ⟨p, hp⟩ : ∃ p : Nat, (if (4 : Int) < N then 4 else N) = (p : Int) := ⟨(min N 4).toNat, by split <;> omega⟩
  have hp4 : p ≤ 4 := by split at hp <;> omega
  have hpm : min N 4 = (p : Int) := by have e := hp; split at e <;> omega
  obtain ⟨hq1, hq2⟩ := pow_bd hp4
  go_wp2_with fail
  refine (pick_to (w.heap.size) A rc1_ rb1_ _ (2 ^ p) _ rd9_ (by omega) (by omega) rl1_ (by omega)).mono ?_
  rintro e w18 ⟨u19_, rfl, u19_l, u19_h, rd20_, hC21_⟩
  have o22_ := o15_.chg hC21_ (by first | omega | (simp; omega) | simp) (by omega)
  have o23_ := ho14_.chg hC21_ (by first | omega | (simp; omega) | simp) (by omega)
  have z24_ := hC21_.size
  have B25_ := B17_.trans (hC21_.below (by omega) (by first | omega | (simp; omega) | simp))
  clear hC21_
  go_wp2_with fail
  refine (pick_to (w.heap.size) A rc1_ rb1_ _ 40 _ rd20_ (by omega) (by omega) rl1_ (by omega)).mono ?_
  rintro e w26 ⟨u27_, rfl, u27_l, u27_h, rd28_, hC29_⟩
  have o30_ := o22_.chg hC29_ (by first | omega | (simp; omega) | simp) (by omega)
  have o31_ := o23_.chg hC29_ (by first | omega | (simp; omega) | simp) (by omega)
  have z32_ := hC29_.size
  have B33_ := B25_.trans (hC29_.below (by omega) (by first | omega | (simp; omega) | simp))
  clear hC29_
  have hq34_ : IntKind.i64.wrap (u27_.tdiv 39) = u27_ / 39 := by rw [Int.tdiv_eq_ediv_of_nonneg (by omega)]; exact IntWalk.i64_in _ (by omega)
  go_wp2
  go_ret3
  exact ⟨g1, o1, c13_, vs, N, _, ⟨by omega, by omega⟩, hxc, hx12, ⟨hN1, hN8⟩, (by omega), rfl, o31_.more (by omega) (by first | omega | (simp; omega) | simp), B33_⟩

set_option maxRecDepth 10000 in
set_option maxHeartbeats 2000000 in
theorem drawPassOrders_any (A : Option Addr) (c : Nat) (bs : List Int) (w : World) (h : Bytes w w.heap.size A bs) (hl : bs.length ≤ 9223372036854775807) (hc : bs.length ≤ c) :
    Calls Try.prog 25 #[.slice A bs.length c] w (DrawnVisInt w) := by
  go_enter Try.func25, Try.ntmps25
  go_wp2_with fail
  refine (drawPassShares_any A c bs _ (h.more (by first | omega | (simp; omega) | simp)) hl hc).mono ?_
  rintro e w1 ⟨g1, o1, c4_, vs, N, s, ⟨hg1a, hg1b⟩, hxc, hx12, ⟨hN1, hN8⟩, hs, rfl, ho5_, hb2_⟩
  have o6_ := h.below hb2_ (by first | omega | (simp; omega) | simp)
  have z7_ := hb2_.size
  have B8_ := (Below.refl w.heap.size w).trans (hb2_.mono (by first | omega | (simp; omega) | simp))
  clear hb2_
  go_wp2
  go_ret3
  exact ⟨g1, o1, c4_, vs, N, s, ⟨by omega, by omega⟩, hxc, hx12, ⟨hN1, hN8⟩, hs, rfl, ho5_.more (by omega) (by first | omega | (simp; omega) | simp), B8_⟩


end Go.Proofs.Ytdbohnaohinieaa
