/-
  The bids that are drawn for chapter 9: rows of rows in new memory, few and short. No condition.
-/
import Derived.Test.YtpdlppmkjkbboaaGA
import Derived.Test.YtpdlppmkjkbboaaGD
import Derived.Test.YtpdlppmkjkbboaaGrow
import Derived.Test.YtpdlppmkjkbboaaGridS
import Derived.BigQuiet
import Derived.Deep.Cut
namespace Go.Proofs.Ytpdlppmkjkbboaa
open Go.RowKit

/-- What drawn bids are, and the reader goes on. -/
def TabTo (w : World) (R : Nat) (A : Option Addr) (c : Nat) (bs : List Int) (q : Nat) (e : Ending) (w' : World) : Prop :=
  ∃ A1 c1, ∃ B : List (List Int), e = .returned (.slice A1 B.length c1) ∧ GridS w' w.heap.size w'.heap.size A1 B ∧ B.length ≤ 4 ∧ (∀ k, (B.getD k []).length ≤ 6) ∧ (∃ q', q' ≤ q + 40 ∧ Rd w' R A c bs q') ∧ Chg R (R + 1) w w'
def DrawnTab (w : World) (e : Ending) (w' : World) : Prop :=
  ∃ A1 c1, ∃ B : List (List Int), B.length ≤ 4 ∧ (∀ k, (B.getD k []).length ≤ 6) ∧ e = .returned (.slice A1 B.length c1) ∧ GridS w' w.heap.size w'.heap.size A1 B ∧ Below w.heap.size w w'
theorem few_snoc {Z : List (List Int)} {y : List Int} {m : Nat} (h : ∀ k, (Z.getD k []).length ≤ m) (hy : y.length ≤ m) (k : Nat) : ((Z ++ [y]).getD k []).length ≤ m := by
  simp only [List.getD_eq_getElem?_getD, List.getElem?_append] at *
  split
  · exact h k
  · rcases Nat.eq_zero_or_pos (k - Z.length) with q | q
    · rw [q]; simpa using hy
    · rw [List.getElem?_eq_none (by simp; omega)]; simp
theorem few_set {Z : List (List Int)} {y : List Int} {j m n : Nat} (h : ∀ k, (Z.getD k []).length ≤ m) (hmn : m ≤ n) (hy : y.length ≤ n) (k : Nat) : ((Z.set j y).getD k []).length ≤ n := by
  have e := h k
  simp only [List.getD_eq_getElem?_getD, List.getElem?_set] at *
  split
  · split
    · simpa using hy
    · simp
  · omega
theorem few_take {Z : List (List Int)} {m n : Nat} (h : ∀ k, (Z.getD k []).length ≤ n) (k : Nat) : ((Z.take m).getD k []).length ≤ n := by
  have e := h k
  simp only [List.getD_eq_getElem?_getD, List.getElem?_take] at *
  split
  · exact e
  · simp

set_option maxRecDepth 10000 in
set_option maxHeartbeats 2000000 in
theorem l20Bids_any (R : Nat) (A : Option Addr) (c : Nat) (bs : List Int) (q0 : Nat) (n : Int) (w : World) (h : Rd w R A c bs q0) (hn : 0 ≤ n) (hn' : n ≤ 1000000) (hl : bs.length ≤ 2000) (hq : q0 ≤ 100000) :
    Calls Try.prog 44 #[.pointer (some ⟨R, 0, none⟩), .int .i64 n] w (TabTo w R A c bs q0) := by
  have hRw := h.lt
  go_enter Try.func44, Try.ntmps44
  have o1_ := h.alloc (.cells #[] 26)
  have B2_ := (Chg.refl R (R + 1) w).trans (Chg.alloc w (.cells #[] 26))
  have R3_ : RowsS (w.alloc (.cells #[] 26)) w.heap.size (w.heap.size + 1) w.heap.size 0 ([]) := by have e := rowsS_lit0 w; (try simp only [hsz] at e); exact e
  go_wp2_with fail
  refine (pick_to R A c bs _ 5 _ o1_ (by omega) (by omega) hl (by omega)).mono ?_
  rintro e w4 ⟨u5_, rfl, u5_l, u5_h, rd6_, hC7_⟩
  have o8_ := R3_.chg hC7_ (by omega)
  have z9_ := hC7_.size
  try simp at z9_
  have B10_ := B2_.trans hC7_
  clear hC7_
  go_wp2_with fail
  refine (pick_to R A c bs _ 3 _ rd6_ (by omega) (by omega) hl (by omega)).mono ?_
  rintro e w11 ⟨u12_, rfl, u12_l, u12_h, rd13_, hC14_⟩
  have o15_ := o8_.chg hC14_ (by omega)
  have z16_ := hC14_.size
  have B17_ := B10_.trans hC14_
  clear hC14_
  go_wp2
  go_loopw [7, 5] (fun kk v wr => ∃ Z : List (List Int), ∃ m : Nat, ∃ g cg : Nat, kk = .int .i64 m ∧ v = .slice (some ⟨g, 0, none⟩) Z.length cg ∧ (Z.length + m ≤ 4) ∧ (2 ≤ Z.length + m) ∧ (∀ k, (Z.getD k []).length ≤ 5) ∧ w.heap.size ≤ g ∧ RowsS wr w.heap.size wr.heap.size g cg Z ∧ Chg R (R + 1) w wr ∧ w11.heap.size ≤ wr.heap.size ∧ (∃ q : Nat, q ≤ q0 + 34 - 8 * m ∧ Rd wr R A c bs q)) (fun kk v _ => (intOf kk).toNat)
  case atStart => exact ⟨[], ((2 + u12_)).toNat, w.heap.size, 0, (by congr 1; omega), (slice_n (by rfl)), by simp; omega, by simp; omega, fun k => by simp, (by omega), (o15_).more (by omega) (by first | omega | (simp; omega) | simp) (Nat.le_refl _), B17_, (by first | omega | (simp; omega) | simp), ⟨_, by omega, rd13_⟩⟩
  case round =>
    obtain ⟨Z, m, g, cg, rfl, rfl, hm1, hm2, hz, glb, G19_, k20_, k21_, ⟨k22_q, k22_h, k22_⟩⟩ := hrel
    obtain ⟨w18, rfl⟩ : ∃ x, x = wr := ⟨_, rfl⟩
    have l23_ := G19_.lt
    have l24_ := G19_.ge
    have HZ := Lib.hid hz
    clear hz
    by_cases hlt0 : 0 < m
    · have o25_ := k22_.alloc (.cells #[] 3)
      have o26_ := G19_.alloc (.cells #[] 3)
      have B27_ := k20_.trans (Chg.alloc w18 (.cells #[] 3))
      have G28_ : Grow (w18.alloc (.cells #[] 3)) (w18.heap.size) 0 ([] : List Int) := by have e := grow_lit w18 ([] : List Int) (by simp); (try simp only [hsz] at e); exact e
      have l29_ := G28_.lt
      have HL30_ : Hid (([] : List Int).length = 0) := rfl
      go_wp2
      go_loopw [9, 8] (fun jj u wr => ∃ ys : List Int, ∃ j : Nat, ∃ gy cy : Nat, jj = .int .i64 j ∧ u = .slice (some ⟨gy, 0, none⟩) ys.length cy ∧ (ys.length ≤ j) ∧ ((j : Int) ≤ u5_) ∧ w18.heap.size ≤ gy ∧ Grow wr gy cy ys ∧ Chg R (R + 1) w wr ∧ w18.heap.size + 1 ≤ wr.heap.size ∧ (∃ q : Nat, q ≤ q0 + 34 - 8 * m + 2 * j ∧ Rd wr R A c bs q) ∧ RowsS wr w.heap.size w18.heap.size g cg Z) (fun jj u _ => (u5_).toNat - (intOf jj).toNat)
      case atStart => exact ⟨[], 0, w18.heap.size, 0, rfl, (slice_n (by rfl)), by simp, by omega, (by omega), G28_, B27_, (by first | omega | (simp; omega) | simp), ⟨_, by omega, o25_⟩, o26_⟩
      case round =>
        obtain ⟨ys, j, gy, cy, rfl, rfl, hyj, hju, gylb, G32_, k33_, k34_, ⟨k35_q, k35_h, k35_⟩, k36_⟩ := hrel
        obtain ⟨w31, rfl⟩ : ∃ x, x = wr := ⟨_, rfl⟩
        have l37_ := G32_.lt
        by_cases hlt2 : (j : Int) < u5_
        · go_wp2_with fail
          refine (pick_to R A c bs _ 9 _ k35_ (by omega) (by omega) hl (by omega)).mono ?_
          rintro e w38 ⟨u39_, rfl, u39_l, u39_h, rd40_, hC41_⟩
          have o42_ := k36_.chg hC41_ (by omega)
          have o43_ := G32_.chg hC41_ (by omega)
          have z44_ := hC41_.size
          have B45_ := k33_.trans hC41_
          clear hC41_
          go_wp2_with fail
          refine (pick_to R A c bs _ 20 _ rd40_ (by omega) (by omega) hl (by omega)).mono ?_
          rintro e w46 ⟨u47_, rfl, u47_l, u47_h, rd48_, hC49_⟩
          have o50_ := o42_.chg hC49_ (by omega)
          have o51_ := o43_.chg hC49_ (by omega)
          have z52_ := hC49_.size
          have B53_ := B45_.trans hC49_
          clear hC49_
          have hq54_ : IntKind.i64.wrap (u47_.tdiv 19) = u47_ / 19 := by rw [Int.tdiv_eq_ediv_of_nonneg (by omega)]; exact IntWalk.i64_in _ (by omega)
          have o55_ := rd48_.alloc (.cells #[.int .i64 (u39_ + ((u47_ / 19) * 4))] 3)
          have o56_ := o50_.alloc (.cells #[.int .i64 (u39_ + ((u47_ / 19) * 4))] 3)
          have o57_ := o51_.alloc (.cells #[.int .i64 (u39_ + ((u47_ / 19) * 4))] 3)
          have B58_ := B53_.trans (Chg.alloc w46 (.cells #[.int .i64 (u39_ + ((u47_ / 19) * 4))] 3))
          have G59_ : Grow (w46.alloc (.cells #[.int .i64 (u39_ + ((u47_ / 19) * 4))] 3)) (w46.heap.size) 1 ([(u39_ + ((u47_ / 19) * 4))] : List Int) := by have e := grow_lit w46 ([(u39_ + ((u47_ / 19) * 4))] : List Int) (by simp); (try simp only [hsz] at e); exact e
          have l60_ := G59_.lt
          have HL61_ : Hid (([(u39_ + ((u47_ / 19) * 4))] : List Int).length = 1) := rfl
          go_upto_region 9 with (at_builtin; (refine append_grL (by rfl) _ _ (by rfl) (xs := ys) (ys := ([(u39_ + ((u47_ / 19) * 4))] : List Int)) (by rfl) (by rfl) o57_ (by rfl) (by have e := HL61_.out; omega) (G59_.ints.read) (by omega) ?_; intro g62_ c63_ L68_ w64 HL68_ L68_l L68_u G64_ hC65_ hg66_))
          have o69_ := o55_.chg hC65_ (by omega)
          have o70_ := o56_.chg hC65_ (by omega)
          have o71_ := G59_.chg hC65_ (by omega)
          have z72_ := hC65_.size
          try simp at z72_
          have B73_ := B58_.then_own hC65_ (by omega)
          clear hC65_
          have l74_ := G64_.lt
          go_wp2
          go_roundw
          case rel => exact ⟨(ys ++ ([(u39_ + ((u47_ / 19) * 4))] : List Int)), j + 1, g62_, c63_, by go_num, (slice_n (by have e := HL68_.out; omega)), by have e := HL68_.out; omega, by omega, (by omega), G64_, B73_, (by first | omega | (simp; omega) | simp), ⟨_, by omega, o69_⟩, o70_⟩
          case measure => simp [intOf] <;> omega
        · have lit38_ := rows_lit1 (n := ys.length) (d := cy) w31 G32_.ints (by rfl) (by first | omega | (simp; omega) | simp) (by first | omega | (simp; omega) | simp) (by have e := G32_.room; omega) true (fun _ => ⟨_, _, rfl⟩)
          have o39_ := k35_.alloc (.cells #[.slice (some ⟨gy, 0, none⟩) ys.length cy] 26)
          have o40_ := k36_.alloc (.cells #[.slice (some ⟨gy, 0, none⟩) ys.length cy] 26)
          have o41_ := G32_.alloc (.cells #[.slice (some ⟨gy, 0, none⟩) ys.length cy] 26)
          have B42_ := k33_.trans (Chg.alloc w31 (.cells #[.slice (some ⟨gy, 0, none⟩) ys.length cy] 26))
          have R43_ : Rows (w31.alloc (.cells #[.slice (some ⟨gy, 0, none⟩) ys.length cy] 26)) true gy (w31.heap.size + 1) w31.heap.size 1 ([ys]) := by have e := lit38_; (try simp only [hsz] at e); exact e
          have a44_ : (w31.alloc (.cells #[.slice (some ⟨gy, 0, none⟩) ys.length cy] 26)).cell? ⟨w31.heap.size, 0, none⟩ = some (.slice (some ⟨gy, 0, none⟩) ys.length cy) := by simp [go_sem]
          go_upto_region 5 with (at_builtin; (refine append_rowsS (by rfl) _ _ (by rfl) (xss := Z) (xs := ys) (by rfl) (by rfl) o40_ (by rfl) a44_ (by rfl) o41_ (by omega) (by omega) ?_; intro g45_ c46_ L51_ w47 HL51_ L51_l L51_u R47_ hC48_ hg49_))
          have o52_ := o39_.chg hC48_ (by omega)
          have o53_ := o41_.chg hC48_ (by omega)
          have o54_ := R43_.chg hC48_ (by omega)
          have o55_ := (hC48_.cell (p := ⟨w31.heap.size, 0, none⟩) (by first | omega | (simp; omega) | simp) (by first | omega | (simp; omega) | simp)).trans a44_
          have z56_ := hC48_.size
          try simp at z56_
          have B57_ := B42_.then_own hC48_ (by omega)
          clear hC48_
          have l58_ := R47_.lt
          have l59_ := R47_.ge
          have HL60_ : Hid ((Z ++ [ys]).length = L51_) := by show _ = _; rw [List.length_append, HL51_.out]; rfl
          go_wp2
          go_roundw
          case rel => exact ⟨(Z ++ [ys]), m - 1, g45_, c46_, (by congr 1; omega), (slice_n (by have e := HL60_.out; omega)), by have e := HL60_.out; omega, by have e := HL60_.out; omega, few_snoc HZ.out (by omega), (by omega), (R47_).more (by omega) (by first | omega | (simp; omega) | simp) (Nat.le_refl _), B57_, (by first | omega | (simp; omega) | simp), ⟨_, by omega, o52_⟩⟩
          case measure => simp [intOf] <;> omega
    · obtain rfl : m = 0 := by omega
      go_wp2_with fail
      refine (odd_to R A c bs _ n _ k22_ (by omega) (by omega) hl (by omega)).mono ?_
      rintro e w25 ⟨u26_, rfl, ⟨rq29_, rq29_h, rd27_⟩, hC28_⟩
      have o30_ := G19_.chg hC28_ (by omega)
      have z31_ := hC28_.size
      have B32_ := k20_.trans hC28_
      clear hC28_
      cases u26_
      · go_wp2
        go_ret
        exact ⟨_, _, Z, congrArg Ending.returned (slice_n (rfl)), (o30_.gridS).more (by omega) (by first | omega | (simp; omega) | simp), by omega, fun k => Nat.le_trans (HZ.out k) (by omega), ⟨_, (by omega), rd27_⟩, B32_⟩
      · go_wp2_with fail
        refine (pick_to R A c bs _ 3 _ rd27_ (by omega) (by omega) hl (by omega)).mono ?_
        rintro e w33 ⟨u34_, rfl, u34_l, u34_h, rd35_, hC36_⟩
        have o37_ := o30_.chg hC36_ (by omega)
        have z38_ := hC36_.size
        have B39_ := B32_.trans hC36_
        clear hC36_
        by_cases h40_ : u34_ = 0
        · have h40_b : (u34_ == 0) = true := by simpa using h40_
          have h40_n : (u34_ != 0) = false := by simpa using h40_
          have h40_le : u34_ ≤ 0 := by omega
          have h40_ge : 0 ≤ u34_ := by omega
          have Hh40_ := Lib.hid h40_
          clear h40_
          have rm41_ : 1 ≤ cg := by have e := o37_.room; omega
          go_wp2
          go_ret
          exact ⟨_, _, (Z.take 1), congrArg Ending.returned (slice_n (by rw [List.length_take]; omega)), (o37_.gridS.take).more (by omega) (by first | omega | (simp; omega) | simp), by rw [List.length_take]; omega, few_take (fun k => Nat.le_trans (HZ.out k) (by omega)), ⟨_, (by omega), rd35_⟩, B39_⟩
        · have h40_b : (u34_ == 0) = false := by simpa using h40_
          have h40_n : (u34_ != 0) = true := by simpa using h40_
          by_cases h41_ : u34_ = 1
          · have h41_b : (u34_ == 1) = true := by simpa using h41_
            have h41_n : (u34_ != 1) = false := by simpa using h41_
            have h41_le : u34_ ≤ 1 := by omega
            have h41_ge : 1 ≤ u34_ := by omega
            have Hh41_ := Lib.hid h41_
            clear h41_
            obtain ⟨b42_, d43_, c44_, G45_, z48_, z49_, z50_, hput47_⟩ := o37_.put 1 (by omega)
            obtain ⟨y46_, hy46_⟩ : ∃ y_, Z.getD 1 [] = y_ := ⟨_, rfl⟩
            rw [hy46_] at c44_ G45_
            have hqy46_ := HZ.out 1
            rw [hy46_] at hqy46_
            have Hy46_ := Lib.hid hy46_
            clear hy46_
            have c44_ : w33.cell? ⟨g, 1, none⟩ = some (.slice (some ⟨b42_, 0, none⟩) y46_.length d43_) := c44_
            have c44_i : 1 < (Z.length : Int) := by omega
            have c44_j : (0 : Int) ≤ 1 := by omega
            have o52_ : Chg b42_ (b42_ + 1) w33 w33 := Chg.of_below (Below.refl _ _)
            have HL53_ : Hid (y46_.length = y46_.length) := rfl
            have l54_ := G45_.lt
            have o55_ := rd35_.alloc (.cells #[.int .i64 0] 3)
            have o56_ := o52_.trans (Chg.of_below ((Below.refl _ _).alloc (Nat.le_refl _) (.cells #[.int .i64 0] 3)))
            have o57_ := G45_.alloc (.cells #[.int .i64 0] 3)
            have B58_ := B39_.trans (Chg.alloc w33 (.cells #[.int .i64 0] 3))
            have G59_ : Grow (w33.alloc (.cells #[.int .i64 0] 3)) (w33.heap.size) 1 ([0] : List Int) := by have e := grow_lit w33 ([0] : List Int) (by simp); (try simp only [hsz] at e); exact e
            have l60_ := G59_.lt
            have HL61_ : Hid (([0] : List Int).length = 1) := rfl
            go_upto_region 19 with ((at_builtin; (refine append_grL (by rfl) _ _ (by rfl) (xs := y46_) (ys := ([0] : List Int)) (by rfl) (by have e := HL53_.out; omega) o57_ (by rfl) (by have e := HL61_.out; omega) (G59_.ints.read) (by omega) ?_; intro g62_ c63_ L68_ w64 HL68_ L68_l L68_u G64_ hC65_ hg66_)); (have o69_ := o56_.trans hC65_); (have o70_ := o55_.chg hC65_ (by omega)); (have o71_ := G59_.chg hC65_ (by omega)); (have z72_ := hC65_.size); (try simp at z72_); (have B73_ := B58_.then_own hC65_ (by omega)); (clear hC65_); (have l74_ := G64_.lt); (obtain ⟨hs75_, hs76_, Gd77_⟩ := hput47_ w64 g62_ c63_ L68_ (y46_ ++ ([0] : List Int)) (by have e := HL68_.out; first | omega | exact e) o69_ (by omega) G64_); (have hs75_i : 1 < (Z.length : Int) := by omega); (have hs75_j : (0 : Int) ≤ 1 := by omega); (have hC78_ := Chg.setCell (lo := g) (hi := g + 1) w64 (p := ⟨g, 1, none⟩) ⟨Nat.le_refl _, Nat.lt_succ_self _⟩ (.slice (some ⟨g62_, 0, none⟩) L68_ c63_)); (have o79_ := o70_.chg hC78_ (by omega)); (have o80_ := o71_.chg hC78_ (by omega)); (have o81_ := G64_.chg hC78_ (by omega)); (have z82_ := hC78_.size); (try simp at z82_); (have B83_ := B73_.then_own hC78_ (by omega)); (clear hC78_); (have HL84_ : Hid ((Z.set 1 (y46_ ++ ([0] : List Int))).length = Z.length) := by show _ = _; rw [List.length_set]))
            go_wp2
            go_ret
            exact ⟨_, _, (Z.set 1 (y46_ ++ ([0] : List Int))), congrArg Ending.returned (slice_n (by have e := HL84_.out; first | exact e.symm | omega)), (Gd77_).more (by omega) (by first | omega | (simp; omega) | simp), by have e := HL84_.out; omega, few_set HZ.out (by omega) (by have e := HL68_.out; omega), ⟨_, (by omega), o79_⟩, B83_⟩
          · have h41_b : (u34_ == 1) = false := by simpa using h41_
            have h41_n : (u34_ != 1) = true := by simpa using h41_
            have o42_ := rd35_.alloc (.cells #[] 3)
            have o43_ := o37_.alloc (.cells #[] 3)
            have B44_ := B39_.trans (Chg.alloc w33 (.cells #[] 3))
            have G45_ : Grow (w33.alloc (.cells #[] 3)) (w33.heap.size) 0 ([] : List Int) := by have e := grow_lit w33 ([] : List Int) (by simp); (try simp only [hsz] at e); exact e
            have l46_ := G45_.lt
            have HL47_ : Hid (([] : List Int).length = 0) := rfl
            obtain ⟨B48_, d49_, c50_, F51_, rm53_, F51_n⟩ := o43_.1.at_ 0 (by omega)
            obtain ⟨b54_, f55_, rfl⟩ := F51_n rfl
            obtain ⟨y52_, hy52_⟩ : ∃ y, Z.getD 0 [] = y := ⟨_, rfl⟩
            rw [hy52_] at c50_ F51_ rm53_
            have hqy52_ := HZ.out 0
            rw [hy52_] at hqy52_
            have Hy52_ := Lib.hid hy52_
            clear hy52_
            have c50_ : (w33.alloc (.cells #[] 3)).cell? ⟨g, 0, none⟩ = some (.slice (some ⟨b54_, f55_, none⟩) y52_.length d49_) := c50_
            have c50_i : 0 < (Z.length : Int) := by omega
            have c50_j : (0 : Int) ≤ 0 := by omega
            have c50_n : 0 < Z.length := by omega
            go_upto_region 19 with (first | ((at_builtin; (refine append_grL (by rfl) _ _ (by rfl) (xs := ([] : List Int)) (ys := y52_) (by rfl) (by have e := HL47_.out; omega) G45_ (by rfl) (by rfl) (F51_.read) (by omega) ?_; intro g56_ c57_ L62_ w58 HL62_ L62_l L62_u G58_ hC59_ hg60_)); (have o63_ := o42_.chg hC59_ (by omega)); (have o64_ := o43_.chg hC59_ (by omega)); (have o65_ := F51_.chg hC59_ (by first | omega | (simp; omega) | simp) (by omega)); (have z66_ := hC59_.size); (try simp at z66_); (have B67_ := B44_.then_own hC59_ (by omega)); (clear hC59_); (have l68_ := G58_.lt); (have o69_ := o63_.alloc (.cells #[.int .i64 13] 3)); (have o70_ := o64_.alloc (.cells #[.int .i64 13] 3)); (have o71_ := o65_.alloc (by first | omega | (simp; omega) | simp) (.cells #[.int .i64 13] 3)); (have o72_ := G58_.alloc (.cells #[.int .i64 13] 3)); (have B73_ := B67_.trans (Chg.alloc w58 (.cells #[.int .i64 13] 3))); (have G74_ : Grow (w58.alloc (.cells #[.int .i64 13] 3)) (w58.heap.size) 1 ([13] : List Int) := by have e := grow_lit w58 ([13] : List Int) (by simp); (try simp only [hsz] at e); exact e); (have l75_ := G74_.lt); (have HL76_ : Hid (([13] : List Int).length = 1) := rfl)) | ((at_builtin; (refine append_grL (by rfl) _ _ (by rfl) (xs := (([] : List Int) ++ y52_)) (ys := ([13] : List Int)) (by rfl) (by have e := HL62_.out; omega) o72_ (by rfl) (by have e := HL76_.out; omega) (G74_.ints.read) (by omega) ?_; intro g77_ c78_ L83_ w79 HL83_ L83_l L83_u G79_ hC80_ hg81_)); (have o84_ := o69_.chg hC80_ (by omega)); (have o85_ := o70_.chg hC80_ (by omega)); (have o86_ := o71_.chg hC80_ (by first | omega | (simp; omega) | simp) (by omega)); (have o87_ := G74_.chg hC80_ (by omega)); (have z88_ := hC80_.size); (try simp at z88_); (have B89_ := B73_.then_own hC80_ (by omega)); (clear hC80_); (have l90_ := G79_.lt); (obtain ⟨b95_, d96_, -, -, -, -, -, hput97_⟩ := o85_.put 0 (by omega)); (obtain ⟨hs91_, hs92_, Gd93_⟩ := hput97_ w79 g77_ c78_ L83_ ((([] : List Int) ++ y52_) ++ ([13] : List Int)) (by have e := HL83_.out; first | omega | exact e) (Chg.of_below (Below.refl _ _)) (by omega) G79_); (have hs91_i : 0 < (Z.length : Int) := by omega); (have hs91_j : (0 : Int) ≤ 0 := by omega); (have hC94_ := Chg.setCell (lo := g) (hi := g + 1) w79 (p := ⟨g, 0, none⟩) ⟨Nat.le_refl _, Nat.lt_succ_self _⟩ (.slice (some ⟨g77_, 0, none⟩) L83_ c78_)); (have o98_ := o84_.chg hC94_ (by omega)); (have o99_ := o87_.chg hC94_ (by omega)); (have o100_ := G79_.chg hC94_ (by omega)); (have z101_ := hC94_.size); (try simp at z101_); (have B102_ := B89_.then_own hC94_ (by omega)); (clear hC94_); (have HL103_ : Hid ((Z.set 0 ((([] : List Int) ++ y52_) ++ ([13] : List Int))).length = Z.length) := by show _ = _; rw [List.length_set])))
            go_wp2
            go_ret
            exact ⟨_, _, (Z.set 0 ((([] : List Int) ++ y52_) ++ ([13] : List Int))), congrArg Ending.returned (slice_n (by have e := HL103_.out; first | exact e.symm | omega)), (Gd93_).more (by omega) (by first | omega | (simp; omega) | simp), by have e := HL103_.out; omega, few_set HZ.out (by omega) (by have e := HL83_.out; omega), ⟨_, (by omega), o98_⟩, B102_⟩

set_option maxRecDepth 10000 in
set_option maxHeartbeats 2000000 in
theorem drawBidsOk_any (A : Option Addr) (c : Nat) (bs : List Int) (w : World) (h : Bytes w w.heap.size A bs) (hl : bs.length ≤ 9223372036854775807) (hc : bs.length ≤ c) :
    Calls Try.prog 16 #[.slice A bs.length c] w (DrawnTab w) := by
  go_enter Try.func16, Try.ntmps16
  go_wp2_with fail
  refine (l20Open_any A c bs _ (h.more (by first | omega | (simp; omega) | simp)) (by omega) hc).mono ?_
  rintro e w1 ⟨rfl, hb3_, rc1_, rb1_, rl1_, rd2_⟩
  have o4_ := h.below hb3_ (by first | omega | (simp; omega) | simp)
  have z5_ := hb3_.size
  have B6_ := (Below.refl w.heap.size w).trans (hb3_.mono (by first | omega | (simp; omega) | simp))
  clear hb3_
  have l7_ := rd2_.lt
  go_wp2_with fail
  refine (l20Bids_any (w.heap.size) A rc1_ rb1_ _ 2 _ rd2_ (by omega) (by omega) rl1_ (by omega)).mono ?_
  rintro e w8 ⟨A12_, c13_, B, rfl, Gd14_, hB15_4, hB15_6, ⟨rq11_, rq11_h, rd9_⟩, hC10_⟩
  have o16_ := o4_.chg hC10_ (by first | omega | (simp; omega) | simp) (by omega)
  have z17_ := hC10_.size
  have B18_ := B6_.trans (hC10_.below (by omega) (by first | omega | (simp; omega) | simp))
  clear hC10_
  have HhB15_ := Lib.hid hB15_6
  clear hB15_6
  go_wp2
  go_ret
  exact ⟨A12_, c13_, B, hB15_4, HhB15_.out, rfl, Gd14_.more (by omega) (by first | omega | (simp; omega) | simp), B18_⟩

set_option maxRecDepth 10000 in
set_option maxHeartbeats 2000000 in
theorem drawTakersOf_any (A : Option Addr) (c : Nat) (bs : List Int) (w : World) (h : Bytes w w.heap.size A bs) (hl : bs.length ≤ 9223372036854775807) (hc : bs.length ≤ c) :
    Calls Try.prog 19 #[.slice A bs.length c] w (DrawnTab w) := by
  go_enter Try.func19, Try.ntmps19
  go_wp2_with fail
  refine (l20Open_any A c bs _ (h.more (by first | omega | (simp; omega) | simp)) (by omega) hc).mono ?_
  rintro e w1 ⟨rfl, hb3_, rc1_, rb1_, rl1_, rd2_⟩
  have o4_ := h.below hb3_ (by first | omega | (simp; omega) | simp)
  have z5_ := hb3_.size
  have B6_ := (Below.refl w.heap.size w).trans (hb3_.mono (by first | omega | (simp; omega) | simp))
  clear hb3_
  have l7_ := rd2_.lt
  go_wp2_with fail
  refine (l20Bids_any (w.heap.size) A rc1_ rb1_ _ 9 _ rd2_ (by omega) (by omega) rl1_ (by omega)).mono ?_
  rintro e w8 ⟨A12_, c13_, B, rfl, Gd14_, hB15_4, hB15_6, ⟨rq11_, rq11_h, rd9_⟩, hC10_⟩
  have o16_ := o4_.chg hC10_ (by first | omega | (simp; omega) | simp) (by omega)
  have z17_ := hC10_.size
  have B18_ := B6_.trans (hC10_.below (by omega) (by first | omega | (simp; omega) | simp))
  clear hC10_
  have HhB15_ := Lib.hid hB15_6
  clear hB15_6
  go_wp2
  go_ret
  exact ⟨A12_, c13_, B, hB15_4, HhB15_.out, rfl, Gd14_.more (by omega) (by first | omega | (simp; omega) | simp), B18_⟩

set_option maxRecDepth 10000 in
set_option maxHeartbeats 2000000 in
theorem drawFairRow_any (A : Option Addr) (c : Nat) (bs : List Int) (w : World) (h : Bytes w w.heap.size A bs) (hl : bs.length ≤ 9223372036854775807) (hc : bs.length ≤ c) :
    Calls Try.prog 24 #[.slice A bs.length c] w (DrawnTab w) := by
  go_enter Try.func24, Try.ntmps24
  go_wp2_with fail
  refine (l20Open_any A c bs _ (h.more (by first | omega | (simp; omega) | simp)) (by omega) hc).mono ?_
  rintro e w1 ⟨rfl, hb3_, rc1_, rb1_, rl1_, rd2_⟩
  have o4_ := h.below hb3_ (by first | omega | (simp; omega) | simp)
  have z5_ := hb3_.size
  have B6_ := (Below.refl w.heap.size w).trans (hb3_.mono (by first | omega | (simp; omega) | simp))
  clear hb3_
  have l7_ := rd2_.lt
  go_wp2_with fail
  refine (l20Bids_any (w.heap.size) A rc1_ rb1_ _ 9 _ rd2_ (by omega) (by omega) rl1_ (by omega)).mono ?_
  rintro e w8 ⟨A12_, c13_, B, rfl, Gd14_, hB15_4, hB15_6, ⟨rq11_, rq11_h, rd9_⟩, hC10_⟩
  have o16_ := o4_.chg hC10_ (by first | omega | (simp; omega) | simp) (by omega)
  have z17_ := hC10_.size
  have B18_ := B6_.trans (hC10_.below (by omega) (by first | omega | (simp; omega) | simp))
  clear hC10_
  have HhB15_ := Lib.hid hB15_6
  clear hB15_6
  go_wp2
  go_ret
  exact ⟨A12_, c13_, B, hB15_4, HhB15_.out, rfl, Gd14_.more (by omega) (by first | omega | (simp; omega) | simp), B18_⟩

set_option maxRecDepth 10000 in
set_option maxHeartbeats 2000000 in
theorem drawSurplusOf_any (A : Option Addr) (c : Nat) (bs : List Int) (w : World) (h : Bytes w w.heap.size A bs) (hl : bs.length ≤ 9223372036854775807) (hc : bs.length ≤ c) :
    Calls Try.prog 28 #[.slice A bs.length c] w (DrawnTab w) := by
  go_enter Try.func28, Try.ntmps28
  go_wp2_with fail
  refine (l20Open_any A c bs _ (h.more (by first | omega | (simp; omega) | simp)) (by omega) hc).mono ?_
  rintro e w1 ⟨rfl, hb3_, rc1_, rb1_, rl1_, rd2_⟩
  have o4_ := h.below hb3_ (by first | omega | (simp; omega) | simp)
  have z5_ := hb3_.size
  have B6_ := (Below.refl w.heap.size w).trans (hb3_.mono (by first | omega | (simp; omega) | simp))
  clear hb3_
  have l7_ := rd2_.lt
  go_wp2_with fail
  refine (l20Bids_any (w.heap.size) A rc1_ rb1_ _ 9 _ rd2_ (by omega) (by omega) rl1_ (by omega)).mono ?_
  rintro e w8 ⟨A12_, c13_, B, rfl, Gd14_, hB15_4, hB15_6, ⟨rq11_, rq11_h, rd9_⟩, hC10_⟩
  have o16_ := o4_.chg hC10_ (by first | omega | (simp; omega) | simp) (by omega)
  have z17_ := hC10_.size
  have B18_ := B6_.trans (hC10_.below (by omega) (by first | omega | (simp; omega) | simp))
  clear hC10_
  have HhB15_ := Lib.hid hB15_6
  clear hB15_6
  go_wp2
  go_ret
  exact ⟨A12_, c13_, B, hB15_4, HhB15_.out, rfl, Gd14_.more (by omega) (by first | omega | (simp; omega) | simp), B18_⟩

set_option maxRecDepth 10000 in
set_option maxHeartbeats 2000000 in
theorem drawPaidRow_any (A : Option Addr) (c : Nat) (bs : List Int) (w : World) (h : Bytes w w.heap.size A bs) (hl : bs.length ≤ 9223372036854775807) (hc : bs.length ≤ c) :
    Calls Try.prog 31 #[.slice A bs.length c] w (DrawnTab w) := by
  go_enter Try.func31, Try.ntmps31
  go_wp2_with fail
  refine (l20Open_any A c bs _ (h.more (by first | omega | (simp; omega) | simp)) (by omega) hc).mono ?_
  rintro e w1 ⟨rfl, hb3_, rc1_, rb1_, rl1_, rd2_⟩
  have o4_ := h.below hb3_ (by first | omega | (simp; omega) | simp)
  have z5_ := hb3_.size
  have B6_ := (Below.refl w.heap.size w).trans (hb3_.mono (by first | omega | (simp; omega) | simp))
  clear hb3_
  have l7_ := rd2_.lt
  go_wp2_with fail
  refine (l20Bids_any (w.heap.size) A rc1_ rb1_ _ 9 _ rd2_ (by omega) (by omega) rl1_ (by omega)).mono ?_
  rintro e w8 ⟨A12_, c13_, B, rfl, Gd14_, hB15_4, hB15_6, ⟨rq11_, rq11_h, rd9_⟩, hC10_⟩
  have o16_ := o4_.chg hC10_ (by first | omega | (simp; omega) | simp) (by omega)
  have z17_ := hC10_.size
  have B18_ := B6_.trans (hC10_.below (by omega) (by first | omega | (simp; omega) | simp))
  clear hC10_
  have HhB15_ := Lib.hid hB15_6
  clear hB15_6
  go_wp2
  go_ret
  exact ⟨A12_, c13_, B, hB15_4, HhB15_.out, rfl, Gd14_.more (by omega) (by first | omega | (simp; omega) | simp), B18_⟩

set_option maxRecDepth 10000 in
set_option maxHeartbeats 2000000 in
theorem drawEndRow_any (A : Option Addr) (c : Nat) (bs : List Int) (w : World) (h : Bytes w w.heap.size A bs) (hl : bs.length ≤ 9223372036854775807) (hc : bs.length ≤ c) :
    Calls Try.prog 34 #[.slice A bs.length c] w (DrawnTab w) := by
  go_enter Try.func34, Try.ntmps34
  go_wp2_with fail
  refine (l20Open_any A c bs _ (h.more (by first | omega | (simp; omega) | simp)) (by omega) hc).mono ?_
  rintro e w1 ⟨rfl, hb3_, rc1_, rb1_, rl1_, rd2_⟩
  have o4_ := h.below hb3_ (by first | omega | (simp; omega) | simp)
  have z5_ := hb3_.size
  have B6_ := (Below.refl w.heap.size w).trans (hb3_.mono (by first | omega | (simp; omega) | simp))
  clear hb3_
  have l7_ := rd2_.lt
  go_wp2_with fail
  refine (l20Bids_any (w.heap.size) A rc1_ rb1_ _ 9 _ rd2_ (by omega) (by omega) rl1_ (by omega)).mono ?_
  rintro e w8 ⟨A12_, c13_, B, rfl, Gd14_, hB15_4, hB15_6, ⟨rq11_, rq11_h, rd9_⟩, hC10_⟩
  have o16_ := o4_.chg hC10_ (by first | omega | (simp; omega) | simp) (by omega)
  have z17_ := hC10_.size
  have B18_ := B6_.trans (hC10_.below (by omega) (by first | omega | (simp; omega) | simp))
  clear hC10_
  have HhB15_ := Lib.hid hB15_6
  clear hB15_6
  go_wp2
  go_ret
  exact ⟨A12_, c13_, B, hB15_4, HhB15_.out, rfl, Gd14_.more (by omega) (by first | omega | (simp; omega) | simp), B18_⟩


end Go.Proofs.Ytpdlppmkjkbboaa
