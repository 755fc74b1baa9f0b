/-
  The law of EndRow returns true for every code, and writes nothing that was there. No condition.
-/
import Derived.Test.YtpdlppmkjkbboaaGA
import Derived.Test.YtpdlppmkjkbboaaDraw9
import Derived.Test.YtpdlppmkjkbboaaGridB
import Derived.Test.YtpdlppmkjkbboaaGame9I
import Derived.Test.YtpdlppmkjkbboaaGC
import Derived.Test.YtpdlppmkjkbboaaFx
import Derived.Deep.RegionHeld3
namespace Go.Proofs.Ytpdlppmkjkbboaa
open Go.RowKit

set_option maxRecDepth 10000 in
set_option maxHeartbeats 2000000 in
theorem fnEndRow_walk (A0 : Option Addr) (c0 : Nat) (bs : List Int) (w : World) (h0 : Bytes w w.heap.size A0 bs) (hl : bs.length ≤ 1048576) (hc0 : bs.length ≤ c0) :
    Calls Try.prog 8 #[.slice A0 bs.length c0] w fun e w' => e = .returned (.bool true) ∧ Below w.heap.size w w' := by
  have hlm : bs.length ≤ 9223372036854775807 := by omega
  go_enter Try.func8, Try.ntmps8
  have Htrue : Hid True := trivial
  have hc0u := hc0
  have h0u := h0
  have hlmu := hlm
  go_wp2_with fail
  refine (drawEndRow_any A0 c0 bs _ (h0.more (by first | omega | (simp; omega) | simp)) hlm hc0).mono ?_
  rintro e w1 ⟨A3_, c4_, B, hB4, hB6, rfl, Gd5_, hb2_⟩
  have o6_ := h0.below hb2_ (by first | omega | (simp; omega) | simp)
  have z7_ := hb2_.size
  have B8_ := (Below.refl w.heap.size w).trans (hb2_.mono (by first | omega | (simp; omega) | simp))
  clear hb2_
  have HB6 := Lib.hid hB6
  clear hB6
  go_wp2_with fail
  refine (implEndRow_any A3_ c4_ B _ _ _ Gd5_.grid (by first | omega | (simp; omega) | simp) (by omega)).mono ?_
  rintro e w9 ⟨A10_, c11_, rfl, ho12_, hb9_⟩
  have o13_ := o6_.below hb9_ (by first | omega | (simp; omega) | simp)
  have o14_ := Gd5_.below hb9_ (by first | omega | (simp; omega) | simp)
  have z15_ := hb9_.size
  have B16_ := B8_.trans (hb9_.mono (by first | omega | (simp; omega) | simp))
  clear hb9_
  go_wp2_with fail
  refine (specEndRow_any A3_ c4_ B _ _ _ o14_.grid (by first | omega | (simp; omega) | simp) (by omega)).mono ?_
  rintro e w17 ⟨A18_, c19_, rfl, ho20_, hb17_⟩
  have o21_ := o13_.below hb17_ (by first | omega | (simp; omega) | simp)
  have o22_ := o14_.below hb17_ (by first | omega | (simp; omega) | simp)
  have o23_ := ho12_.below hb17_ (by first | omega | (simp; omega) | simp)
  have z24_ := hb17_.size
  have B25_ := B16_.trans (hb17_.mono (by first | omega | (simp; omega) | simp))
  clear hb17_
  go_wp2_with fail
  refine (sameInts_yes A10_ A18_ c11_ c19_ (endRow B) (endRow B) _ _ _ _ _ o23_.ints ho20_.ints (by have e := endRow_few B (by omega); omega) rfl).mono ?_
  rintro e w26 ⟨rfl, hb26_⟩
  have o27_ := o21_.below hb26_ (by first | omega | (simp; omega) | simp)
  have o28_ := o22_.below hb26_ (by first | omega | (simp; omega) | simp)
  have o29_ := o23_.below hb26_ (by first | omega | (simp; omega) | simp)
  have o30_ := ho20_.below hb26_ (by first | omega | (simp; omega) | simp)
  have z31_ := hb26_.size
  have B32_ := B25_.trans (hb26_.mono (by first | omega | (simp; omega) | simp))
  clear hb26_
  by_cases h33_ : ((endRow B).length : Int) = 0
  · have h33_b : (((endRow B).length : Int) == 0) = true := by simpa using h33_
    have h33_n : (((endRow B).length : Int) != 0) = false := by simpa using h33_
    have h33_le : ((endRow B).length : Int) ≤ 0 := by omega
    have h33_ge : 0 ≤ ((endRow B).length : Int) := by omega
    have Hh33_ := Lib.hid h33_
    clear h33_
    have H34_ : Hid (bidB B = false) := by rw [Bool.eq_false_iff]; intro z; have e := Hh33_.out; rw [endRow, if_pos z, fnRow_length] at e; have e2 := bidB_bd z; omega
    go_wp2_with fail
    refine (implBidsOk_any A3_ c4_ B _ _ _ o28_.grid (by first | omega | (simp; omega) | simp) (by omega)).mono ?_
    rintro e w35 ⟨he, hb35_⟩
    rw [H34_.out] at he
    subst he
    have o36_ := o27_.below hb35_ (by first | omega | (simp; omega) | simp)
    have o37_ := o28_.below hb35_ (by first | omega | (simp; omega) | simp)
    have o38_ := o29_.below hb35_ (by first | omega | (simp; omega) | simp)
    have o39_ := o30_.below hb35_ (by first | omega | (simp; omega) | simp)
    have z40_ := hb35_.size
    have B41_ := B32_.trans (hb35_.mono (by first | omega | (simp; omega) | simp))
    clear hb35_
    go_wp2_with fail
    refine (alive_any _).mono ?_
    rintro e w42 ⟨rfl, hb42_⟩
    have o43_ := o36_.below hb42_ (by first | omega | (simp; omega) | simp)
    have o44_ := o37_.below hb42_ (by first | omega | (simp; omega) | simp)
    have o45_ := o38_.below hb42_ (by first | omega | (simp; omega) | simp)
    have o46_ := o39_.below hb42_ (by first | omega | (simp; omega) | simp)
    have z47_ := hb42_.size
    have B48_ := B41_.trans (hb42_.mono (by first | omega | (simp; omega) | simp))
    clear hb42_
    go_wp2
    go_ret
    exact ⟨ret_bool (by first | exact rfl | exact h33_b.trans rfl), B48_⟩
  · have h33_b : (((endRow B).length : Int) == 0) = false := by simpa using h33_
    have h33_n : (((endRow B).length : Int) != 0) = true := by simpa using h33_
    have HBQ : Hid (bidB B = true) := by show _ = _; cases z : bidB B with | true => rfl | false => exact absurd (by rw [endRow, if_neg (by rw [z]; simp)]; rfl) h33_
    have HBO := Lib.hid HBQ.out
    have hbd := bidB_bd HBO.out
    obtain ⟨hB2, hB4', hT4⟩ := hbd
    have HTL := Lib.hid (takersRow_len HBO.out)
    have htl1 : (takersRow B).length ≤ things B := by have e := HTL.out; omega
    have htl2 : things B ≤ (takersRow B).length := by have e := HTL.out; omega
    have HFL : Hid ((fairRow B).length = B.length) := by show _ = _; rw [fairRow_yes HBO.out, fnRow_length]
    have hfl1 : (fairRow B).length ≤ B.length := by have e := HFL.out; omega
    have hfl2 : B.length ≤ (fairRow B).length := by have e := HFL.out; omega
    have HPL : Hid ((paidRow B).length = B.length) := by show _ = _; rw [paidRow, if_pos HBO.out, fnRow_length]
    have hpl1 : (paidRow B).length ≤ B.length := by have e := HPL.out; omega
    have hpl2 : B.length ≤ (paidRow B).length := by have e := HPL.out; omega
    have HEL : Hid ((endRow B).length = B.length) := by show _ = _; rw [endRow, if_pos HBO.out, fnRow_length]
    have hel1 : (endRow B).length ≤ B.length := by have e := HEL.out; omega
    have hel2 : B.length ≤ (endRow B).length := by have e := HEL.out; omega
    go_wp2_with fail
    refine (implFairRow_any A3_ c4_ B _ _ _ o28_.grid (by first | omega | (simp; omega) | simp) (by omega)).mono ?_
    rintro e w34 ⟨A35_, c36_, rfl, ho37_, hb34_⟩
    have o38_ := o27_.below hb34_ (by first | omega | (simp; omega) | simp)
    have o39_ := o28_.below hb34_ (by first | omega | (simp; omega) | simp)
    have o40_ := o29_.below hb34_ (by first | omega | (simp; omega) | simp)
    have o41_ := o30_.below hb34_ (by first | omega | (simp; omega) | simp)
    have z42_ := hb34_.size
    have B43_ := B32_.trans (hb34_.mono (by first | omega | (simp; omega) | simp))
    clear hb34_
    go_wp2_with fail
    refine (implSurplusOf_any A3_ c4_ B _ _ _ o39_.grid (by first | omega | (simp; omega) | simp) (by omega)).mono ?_
    rintro e w44 ⟨he, hb44_⟩
    obtain ⟨v45_, hv45_⟩ : ∃ v, surplusV B = v := ⟨_, rfl⟩
    rw [hv45_] at he
    subst he
    have v45_g := surplusV_rg B
    rw [hv45_] at v45_g
    obtain ⟨v45_g1, v45_g2⟩ := v45_g
    have Hv45_ := Lib.hid hv45_
    clear hv45_
    have o46_ := o38_.below hb44_ (by first | omega | (simp; omega) | simp)
    have o47_ := o39_.below hb44_ (by first | omega | (simp; omega) | simp)
    have o48_ := o40_.below hb44_ (by first | omega | (simp; omega) | simp)
    have o49_ := o41_.below hb44_ (by first | omega | (simp; omega) | simp)
    have o50_ := ho37_.below hb44_ (by first | omega | (simp; omega) | simp)
    have z51_ := hb44_.size
    have B52_ := B43_.trans (hb44_.mono (by first | omega | (simp; omega) | simp))
    clear hb44_
    have o53_ := o46_.below ((Below.refl _ _).alloc (Nat.le_refl _) (.cells #[] 26)) (by first | omega | (simp; omega) | simp)
    have o54_ := o47_.alloc (by first | omega | (simp; omega) | simp) (.cells #[] 26)
    have o55_ := o48_.alloc (by first | omega | (simp; omega) | simp) (.cells #[] 26)
    have o56_ := o49_.alloc (by first | omega | (simp; omega) | simp) (.cells #[] 26)
    have o57_ := o50_.alloc (by first | omega | (simp; omega) | simp) (.cells #[] 26)
    have B58_ := B52_.alloc (by first | omega | (simp; omega) | simp) (.cells #[] 26)
    have R59_ : Rows (w44.alloc (.cells #[] 26)) true w44.heap.size (w44.heap.size + 1) w44.heap.size 0 ([]) := by have e := rows_lit0 w44 true; (try simp only [hsz] at e); exact e
    have HLL : Hid ((lessB B).length = B.length) := by show _ = _; simp [lessB]
    go_wp2
    go_loopw [8, 7] (fun kk u wr => ∃ k : Nat, ∃ gw cw : Nat, kk = .int .i64 k ∧ u = .slice (some ⟨gw, 0, none⟩) k cw ∧ (k ≤ (endRow B).length) ∧ (gw = w44.heap.size ∨ (w44.heap.size + 1) ≤ gw) ∧ w.heap.size ≤ gw ∧ Rows wr true w.heap.size wr.heap.size gw cw ((lessB B).take k) ∧ Below w.heap.size w wr ∧ w44.heap.size + 1 ≤ wr.heap.size ∧ Bytes wr (w.heap.size) A0 bs ∧ GridS wr (w.heap.size) (w1.heap.size) A3_ B ∧ Own wr (w1.heap.size) (w9.heap.size) A10_ (endRow B) ∧ Own wr (w9.heap.size) (w17.heap.size) A18_ (endRow B) ∧ Own wr (w26.heap.size) (w34.heap.size) A35_ (fairRow B)) (fun kk u _ => (endRow B).length - (intOf kk).toNat)
    case atStart => exact ⟨0, w44.heap.size, 0, rfl, (slice_n (by omega)), Nat.zero_le _, Or.inl rfl, (by omega), (show Rows (w44.alloc (.cells #[] 26)) true w44.heap.size (w44.heap.size + 1) w44.heap.size 0 ((lessB B).take 0) from R59_).more (by omega) (by first | omega | (simp; omega) | simp) (Nat.le_refl _), B58_, (by first | omega | (simp; omega) | simp), o53_, o54_, o55_, o56_, o57_⟩
    case round =>
      obtain ⟨k, gw, cw, rfl, rfl, hk, hga, gwlb, G61_, k62_, k63_, k64_, k65_, k66_, k67_, k68_⟩ := hrel
      obtain ⟨w60, rfl⟩ : ∃ x, x = wr := ⟨_, rfl⟩
      have HL69_ : Hid (((lessB B).take k).length = k) := (by show _ = _; rw [List.length_take]; have e := HLL.out; omega)
      have l70_ := G61_.lt
      have l71_ := G61_.ge
      by_cases hlt0 : k < (endRow B).length
      · have h72_ : ((endRow B).length : Int) = (B.length : Int) := by omega
        have h72_b : (((endRow B).length : Int) == (B.length : Int)) = true := by simpa using h72_
        have h72_n : (((endRow B).length : Int) != (B.length : Int)) = false := by simpa using h72_
        have h72_le : ((endRow B).length : Int) ≤ (B.length : Int) := by omega
        have h72_ge : (B.length : Int) ≤ ((endRow B).length : Int) := by omega
        have Hh72_ := Lib.hid h72_
        clear h72_
        have h73_ : ((fairRow B).length : Int) = ((endRow B).length : Int) := by omega
        have h73_b : (((fairRow B).length : Int) == ((endRow B).length : Int)) = true := by simpa using h73_
        have h73_n : (((fairRow B).length : Int) != ((endRow B).length : Int)) = false := by simpa using h73_
        have h73_le : ((fairRow B).length : Int) ≤ ((endRow B).length : Int) := by omega
        have h73_ge : ((endRow B).length : Int) ≤ ((fairRow B).length : Int) := by omega
        have Hh73_ := Lib.hid h73_
        clear h73_
        obtain ⟨b74_, f75_, rfl, b74_l, b74_h, -⟩ := k66_.ints (by omega)
        have c76_ : w60.cell? ⟨b74_, f75_ + k, none⟩ = some (.int .i64 ((endRow B).getD k 0)) := k66_.ints.at2 k (by first | omega | (simp; omega) | simp)
        have c76_i : (k : Int) < ((endRow B).length : Int) := by omega
        have c76_j : (0 : Int) ≤ (k : Int) := by omega
        have v77_g := endRow_rg HBO.out k
        obtain ⟨v77_, hv77_⟩ : ∃ v, v = (endRow B).getD k 0 := ⟨_, rfl⟩
        rw [← hv77_] at c76_ v77_g
        have Hv77_ := Lib.hid hv77_
        clear hv77_
        obtain ⟨v77_g1, v77_g2⟩ := v77_g
        obtain ⟨b78_, f79_, rfl, b78_l, b78_h, -⟩ := k68_.ints (by omega)
        have c80_ : w60.cell? ⟨b78_, f79_ + k, none⟩ = some (.int .i64 ((fairRow B).getD k 0)) := k68_.ints.at2 k (by first | omega | (simp; omega) | simp)
        have c80_i : (k : Int) < ((fairRow B).length : Int) := by omega
        have c80_j : (0 : Int) ≤ (k : Int) := by omega
        have v81_g := fairRow_rg HBO.out k
        obtain ⟨v81_, hv81_⟩ : ∃ v, v = (fairRow B).getD k 0 := ⟨_, rfl⟩
        rw [← hv81_] at c80_ v81_g
        have Hv81_ := Lib.hid hv81_
        clear hv81_
        obtain ⟨v81_g1, v81_g2⟩ := v81_g
        obtain ⟨P82_, hP82_⟩ : ∃ P, (B.length : Int) * v81_ = P := ⟨_, rfl⟩
        have bP82_ := len_mul_rg (n := B.length) hB4 (show -20000 ≤ v81_ by omega) (show v81_ ≤ 20000 by omega)
        rw [hP82_] at bP82_
        obtain ⟨bP82_, bP82_'⟩ := bP82_
        have wP82_ : IntKind.i64.wrap P82_ = P82_ := IntWalk.i64_in _ (by omega)
        have h83_ : (v77_ - P82_) = v45_ := by have e := end_fair B k; rw [← hP82_, ← Hv45_.out, surplusV, if_pos HBO.out, Hv77_.out, Hv81_.out, endRow, if_pos HBO.out, fnRow_getD _ (by omega), fairRow_yes HBO.out, fnRow_getD _ (by omega)]; exact e
        have h83_b : ((v77_ - P82_) == v45_) = true := by simpa using h83_
        have h83_n : ((v77_ - P82_) != v45_) = false := by simpa using h83_
        have h83_le : (v77_ - P82_) ≤ v45_ := by omega
        have h83_ge : v45_ ≤ (v77_ - P82_) := by omega
        have Hh83_ := Lib.hid h83_
        clear h83_
        have hw84_ : IntKind.i64.wrap P82_ = P82_ := IntWalk.i64_in _ (by omega)
        have hw85_ : IntKind.i64.wrap (v77_ - P82_) = (v77_ - P82_) := IntWalk.i64_in _ (by omega)
        go_wp2
        go_quiet (fail)
        obtain ⟨w86, hw86⟩ : ∃ x, x = w60.drewN nq := ⟨_, rfl⟩
        have hb87_ : Below w60.heap.size w60 w86 := by rw [hw86]; exact below_drewN (Below.refl _ _) _
        rw [← hw86]
        clear hw86
        clear hw84_ hw85_
        have o89_ := k64_.below hb87_ (by first | omega | (simp; omega) | simp)
        have o90_ := k65_.below hb87_ (by first | omega | (simp; omega) | simp)
        have o91_ := k66_.below hb87_ (by first | omega | (simp; omega) | simp)
        have o92_ := k67_.below hb87_ (by first | omega | (simp; omega) | simp)
        have o93_ := k68_.below hb87_ (by first | omega | (simp; omega) | simp)
        have o94_ := G61_.below hb87_ (by first | omega | (simp; omega) | simp)
        have z95_ := hb87_.size
        have B96_ := k62_.trans (hb87_.mono (by first | omega | (simp; omega) | simp))
        clear hb87_
        have HL99_ : Hid (([] : List Int).length = 0) := rfl
        obtain ⟨b100_, f101_, rfl, _, b100_h, -⟩ := o90_ (by omega)
        obtain ⟨b108_, f109_, d103_, c104_, F105_, rm107_⟩ := o90_.at_ k (by omega)
        obtain ⟨y106_, hy106_⟩ : ∃ y_, B.getD k [] = y_ := ⟨_, rfl⟩
        rw [hy106_] at c104_ F105_ rm107_
        have qy106_ := row_th HBO.out (k := k) (by omega) hy106_
        obtain ⟨qy106_a, qy106_b⟩ := qy106_
        have Hy106_ := Lib.hid hy106_
        clear hy106_
        have c104_ : w86.cell? ⟨b100_, f101_ + k, none⟩ = some (.slice (some ⟨b108_, f109_, none⟩) y106_.length d103_) := c104_
        have c104_i : (k : Int) < (B.length : Int) := by omega
        have c104_j : (0 : Int) ≤ (k : Int) := by omega
        obtain ⟨m110_, hm110_⟩ : ∃ m : Int, (if 0 > ((y106_.length : Int) - 1) then 0 else ((y106_.length : Int) - 1)) = m := ⟨_, rfl⟩
        have hm110_x : max ((y106_.length : Int) - 1) 0 = m110_ := by rw [← hm110_]; split <;> omega
        have Hm110_ := Lib.hid hm110_x
        have m110_l : m110_ ≥ ((y106_.length : Int) - 1) := by have e := Hm110_.out; omega
        have m110_u : m110_ ≥ 0 := by have e := Hm110_.out; omega
        have m110_o : m110_ = ((y106_.length : Int) - 1) ∨ m110_ = 0 := by have e := Hm110_.out; omega
        obtain ⟨x116_, hx116_⟩ : ∃ x : Nat, m110_ = (x : Int) := ⟨(m110_).toNat, by omega⟩
        have Hx116_ := Lib.hid hx116_
        have hk114_ : x116_ ≤ y106_.length := by omega
        have HL115_ : Hid ((y106_.take x116_).length = x116_) := by show _ = _; rw [List.length_take]; omega
        have hk114_r := rm107_
        have hk114_i : (x116_ : Int) ≤ (d103_ : Int) := by omega
        have HL117_ : Hid ((([] : List Int) ++ (y106_.take x116_)).length = 0 + x116_) := by show _ = _; rw [List.length_append, HL99_.out, HL115_.out]
        have HL124_ : Hid ((((lessB B).take k) ++ [(([] : List Int) ++ (y106_.take x116_))]).length = k + 1) := by show _ = _; rw [List.length_append, HL69_.out]; rfl
        have hw125_ : IntKind.i64.wrap ((y106_.length : Int) - 1) = ((y106_.length : Int) - 1) := IntWalk.i64_in _ (by omega)
        have g133_ : w.heap.size ≤ w86.heap.size := (by first | omega | (simp; omega) | simp)
        have g134_ : w1.heap.size ≤ w86.heap.size := (by first | omega | (simp; omega) | simp)
        have g135_ : w9.heap.size ≤ w86.heap.size := (by first | omega | (simp; omega) | simp)
        have g136_ : w17.heap.size ≤ w86.heap.size := (by first | omega | (simp; omega) | simp)
        have g137_ : w34.heap.size ≤ w86.heap.size := (by first | omega | (simp; omega) | simp)
        have g138_ : w60.heap.size ≤ w86.heap.size := (by first | omega | (simp; omega) | simp)
        have g139_ : w1.heap.size ≤ w86.heap.size := (by first | omega | (simp; omega) | simp)
        have g140_ : b100_ < w86.heap.size := (by first | omega | (simp; omega) | simp)
        have g141_ : w.heap.size ≤ w86.heap.size := (by first | omega | (simp; omega) | simp)
        go_wp2_with fail
        refine wp_region_held_drew (S := (fun w' : World => Below w.heap.size w w' ∧ w86.heap.size ≤ w'.heap.size ∧ Bytes w' (w.heap.size) A0 bs ∧ GridS w' (w.heap.size) (w1.heap.size) (some ⟨b100_, f101_, none⟩) B ∧ Own w' (w1.heap.size) (w9.heap.size) (some ⟨b74_, f75_, none⟩) (endRow B) ∧ Own w' (w9.heap.size) (w17.heap.size) A18_ (endRow B) ∧ Own w' (w26.heap.size) (w34.heap.size) (some ⟨b78_, f79_, none⟩) (fairRow B) ∧ Ints w' (w.heap.size) (w1.heap.size) (some ⟨b108_, f109_, none⟩) y106_ ∧ w'.cell? ⟨b100_, f101_ + k, none⟩ = some (.slice (some ⟨b108_, f109_, none⟩) y106_.length d103_) ∧ w86.heap.size ≤ w'.heap.size)) (by kernel_rfl) ⟨B96_.drew, by exact (by first | omega | (simp; omega) | simp), o89_, o90_, o91_, o92_, o93_, F105_, c104_, Nat.le_refl _⟩ (fun hHeld => ?_)
        have o142_ : Rows w86.drew true w.heap.size w60.heap.size gw cw ((lessB B).take k) := o94_
        refine wpAnyH_take (i := 0) (oi := ?oi1) (v := ?vv1) ?hi1 ?hs1 ?hf1 ?ha1 ?hq1 ?hy1 hHeld ?hr1
        case hi1 => (simp only [List.getElem?_toArray, List.getElem?_cons_zero]; exact rfl)
        case hs1 => kernel_rfl
        case hf1 => kernel_rfl
        case ha1 => kernel_rfl
        case hq1 => exact fun _ _ _ h => h
        case hy1 =>
          refine Or.inl ⟨by rfl, ?_⟩
          intro w' hSw
          try dsimp only at hSw
          go_simp
          first | done | with_reducible rfl
        simp only [Act.put, List.setIfInBounds_toArray, List.set_cons_succ, List.set_cons_zero]
        refine wpAnyH_take (i := 2) (oi := ?oi2) (v := ?vv2) ?hi2 ?hs2 ?hf2 ?ha2 ?hq2 ?hy2 hHeld ?hr2
        case hi2 => (simp only [List.getElem?_toArray, List.getElem?_cons_succ, List.getElem?_cons_zero]; exact rfl)
        case hs2 => kernel_rfl
        case hf2 => kernel_rfl
        case ha2 => kernel_rfl
        case hq2 => exact fun _ _ _ h => h
        case hy2 =>
          refine Or.inl ⟨by rfl, ?_⟩
          intro w' hSw
          try dsimp only at hSw
          go_simp
          first | done | with_reducible rfl
        simp only [Act.put, List.setIfInBounds_toArray, List.set_cons_succ, List.set_cons_zero]
        refine wpAnyH_take (i := 3) (oi := ?oi3) (v := ?vv3) ?hi3 ?hs3 ?hf3 ?ha3 ?hq3 ?hy3 hHeld ?hr3
        case hi3 => (simp only [List.getElem?_toArray, List.getElem?_cons_succ, List.getElem?_cons_zero]; exact rfl)
        case hs3 => kernel_rfl
        case hf3 => kernel_rfl
        case ha3 => kernel_rfl
        case hq3 => exact fun _ _ _ h => h
        case hy3 =>
          refine Or.inl ⟨by rfl, ?_⟩
          intro w' hSw
          try dsimp only at hSw
          go_simp
          first | done | with_reducible rfl
        simp only [Act.put, List.setIfInBounds_toArray, List.set_cons_succ, List.set_cons_zero]
        refine wpAnyH_take (i := 4) (oi := ?oi4) (v := ?vv4) ?hi4 ?hs4 ?hf4 ?ha4 ?hq4 ?hy4 hHeld ?hr4
        case hi4 => (simp only [List.getElem?_toArray, List.getElem?_cons_succ, List.getElem?_cons_zero]; exact rfl)
        case hs4 => kernel_rfl
        case hf4 => kernel_rfl
        case ha4 => kernel_rfl
        case hq4 => exact fun _ _ _ h => h
        case hy4 =>
          refine Or.inl ⟨by rfl, ?_⟩
          intro w' hSw
          try dsimp only at hSw
          go_simp
          first | done | with_reducible rfl
        simp only [Act.put, List.setIfInBounds_toArray, List.set_cons_succ, List.set_cons_zero]
        refine wpAnyH_take (i := 5) (oi := ?oi5) (v := ?vv5) ?hi5 ?hs5 ?hf5 ?ha5 ?hq5 ?hy5 hHeld ?hr5
        case hi5 => (simp only [List.getElem?_toArray, List.getElem?_cons_succ, List.getElem?_cons_zero]; exact rfl)
        case hs5 => kernel_rfl
        case hf5 => kernel_rfl
        case ha5 => kernel_rfl
        case hq5 => exact fun _ _ _ h => h
        case hy5 =>
          refine Or.inl ⟨by rfl, ?_⟩
          intro w' hSw
          try dsimp only at hSw
          go_simp
          first | done | with_reducible rfl
        simp only [Act.put, List.setIfInBounds_toArray, List.set_cons_succ, List.set_cons_zero]
        refine wpAnyH_take (i := 6) (oi := ?oi6) (v := ?vv6) ?hi6 ?hs6 ?hf6 ?ha6 ?hq6 ?hy6 hHeld ?hr6
        case hi6 => (simp only [List.getElem?_toArray, List.getElem?_cons_succ, List.getElem?_cons_zero]; exact rfl)
        case hs6 => kernel_rfl
        case hf6 => kernel_rfl
        case ha6 => kernel_rfl
        case hq6 => exact fun _ _ _ h => h
        case hy6 =>
          refine Or.inl ⟨by rfl, ?_⟩
          intro w' hSw
          try dsimp only at hSw
          go_simp
          first | done | with_reducible rfl
        simp only [Act.put, List.setIfInBounds_toArray, List.set_cons_succ, List.set_cons_zero]
        refine wpAnyH_take (i := 7) (oi := ?oi7) (v := ?vv7) ?hi7 ?hs7 ?hf7 ?ha7 ?hq7 ?hy7 hHeld ?hr7
        case hi7 => (simp only [List.getElem?_toArray, List.getElem?_cons_succ, List.getElem?_cons_zero]; exact rfl)
        case hs7 => kernel_rfl
        case hf7 => kernel_rfl
        case ha7 => kernel_rfl
        case hq7 => exact fun _ _ _ h => h
        case hy7 =>
          refine Or.inl ⟨by rfl, ?_⟩
          intro w' hSw
          try dsimp only at hSw
          go_simp
          first | done | with_reducible rfl
        simp only [Act.put, List.setIfInBounds_toArray, List.set_cons_succ, List.set_cons_zero]
        refine wpAnyH_take (i := 8) (oi := ?oi8) (v := ?vv8) ?hi8 ?hs8 ?hf8 ?ha8 ?hq8 ?hy8 hHeld ?hr8
        case hi8 => (simp only [List.getElem?_toArray, List.getElem?_cons_succ, List.getElem?_cons_zero]; exact rfl)
        case hs8 => kernel_rfl
        case hf8 => kernel_rfl
        case ha8 => kernel_rfl
        case hq8 => exact fun _ _ _ h => h
        case hy8 =>
          refine Or.inl ⟨by rfl, ?_⟩
          intro w' hSw
          try dsimp only at hSw
          go_simp
          first | done | with_reducible rfl
        simp only [Act.put, List.setIfInBounds_toArray, List.set_cons_succ, List.set_cons_zero]
        refine wpAnyH_take (i := 9) (oi := ?oi9) (v := ?vv9) ?hi9 ?hs9 ?hf9 ?ha9 ?hq9 ?hy9 hHeld ?hr9
        case hi9 => (simp only [List.getElem?_toArray, List.getElem?_cons_succ, List.getElem?_cons_zero]; exact rfl)
        case hs9 => kernel_rfl
        case hf9 => kernel_rfl
        case ha9 => kernel_rfl
        case hq9 => exact fun _ _ _ h => h
        case hy9 =>
          refine Or.inl ⟨by rfl, ?_⟩
          intro w' hSw
          try dsimp only at hSw
          go_simp
          first | done | with_reducible rfl
        simp only [Act.put, List.setIfInBounds_toArray, List.set_cons_succ, List.set_cons_zero]
        refine wpAnyH_take (i := 10) (oi := ?oi10) (v := ?vv10) ?hi10 ?hs10 ?hf10 ?ha10 ?hq10 ?hy10 hHeld ?hr10
        case hi10 => (simp only [List.getElem?_toArray, List.getElem?_cons_succ, List.getElem?_cons_zero]; exact rfl)
        case hs10 => kernel_rfl
        case hf10 => kernel_rfl
        case ha10 => kernel_rfl
        case hq10 => exact fun _ _ _ h => h
        case hy10 =>
          refine Or.inl ⟨by rfl, ?_⟩
          intro w' hSw
          try dsimp only at hSw
          go_simp
          first | done | with_reducible rfl
        simp only [Act.put, List.setIfInBounds_toArray, List.set_cons_succ, List.set_cons_zero]
        refine wpAnyH_take (i := 11) (oi := ?oi11) (v := ?vv11) ?hi11 ?hs11 ?hf11 ?ha11 ?hq11 ?hy11 hHeld ?hr11
        case hi11 => (simp only [List.getElem?_toArray, List.getElem?_cons_succ, List.getElem?_cons_zero]; exact rfl)
        case hs11 => kernel_rfl
        case hf11 => kernel_rfl
        case ha11 => kernel_rfl
        case hq11 => exact fun _ _ _ h => h
        case hy11 =>
          refine Or.inl ⟨by rfl, ?_⟩
          intro w' hSw
          try dsimp only at hSw
          go_simp
          first | done | with_reducible rfl
        simp only [Act.put, List.setIfInBounds_toArray, List.set_cons_succ, List.set_cons_zero]
        refine wpAnyH_take (i := 12) (oi := ?oi12) (v := ?vv12) ?hi12 ?hs12 ?hf12 ?ha12 ?hq12 ?hy12 hHeld ?hr12
        case hi12 => (simp only [List.getElem?_toArray, List.getElem?_cons_succ, List.getElem?_cons_zero]; exact rfl)
        case hs12 => kernel_rfl
        case hf12 => kernel_rfl
        case ha12 => kernel_rfl
        case hq12 => exact fun _ _ _ h => h
        case hy12 =>
          refine Or.inl ⟨by rfl, ?_⟩
          intro w' hSw
          try dsimp only at hSw
          go_simp
          first | done | with_reducible rfl
        simp only [Act.put, List.setIfInBounds_toArray, List.set_cons_succ, List.set_cons_zero]
        refine wpAnyH_take (i := 13) (oi := ?oi13) (v := ?vv13) ?hi13 ?hs13 ?hf13 ?ha13 ?hq13 ?hy13 hHeld ?hr13
        case hi13 => (simp only [List.getElem?_toArray, List.getElem?_cons_succ, List.getElem?_cons_zero]; exact rfl)
        case hs13 => kernel_rfl
        case hf13 => kernel_rfl
        case ha13 => kernel_rfl
        case hq13 => exact fun _ _ _ h => h
        case hy13 =>
          refine Or.inl ⟨by rfl, ?_⟩
          intro w' hSw
          try dsimp only at hSw
          go_simp
          first | done | with_reducible rfl
        simp only [Act.put, List.setIfInBounds_toArray, List.set_cons_succ, List.set_cons_zero]
        refine wpAnyH_ready (rs := [1]) (by kernel_rfl) (by simp) ?_
        refine AllReadyH.cons rfl (fun K hK => ?_) AllReadyH.nil
        obtain ⟨BB, zz, k126_, k127_, k128_, k129_, k130_, k131_, q132_, zw⟩ := hHeld
        go_simp
        have G98_ : Grow ((w86.alloc (.cells #[] 3)).drew) (w86.heap.size) 0 ([] : List Int) := grow_lit w86.drew ([] : List Int) (by simp)
        have hb9 : Below w86.drew.heap.size w86.drew ((w86.alloc (.cells #[] 3)).drew) := (Below.refl _ w86.drew).alloc (Nat.le_refl _) (.cells #[] 3)
        obtain ⟨g97_, hg97_⟩ : ∃ g, w86.heap.size = g := ⟨_, rfl⟩
        rw [hg97_] at G98_
        simp only [hg97_]
        have lg97_ : w.heap.size ≤ g97_ := by omega
        have lWg97_ : w86.heap.size ≤ g97_ := by omega
        have leg97_ : g97_ ≤ w86.heap.size := by omega
        have geg97_ : w86.heap.size ≤ g97_ := by omega
        obtain ⟨w143, hw143⟩ : ∃ x, x = ((w86.alloc (.cells #[] 3)).drew) := ⟨_, rfl⟩
        rw [← hw143] at G98_ hb9
        rw [← hw143]
        clear hw143 hg97_
        have l144_ := G98_.lt
        have o145_ := o142_.below hb9 (by first | omega | (simp; omega) | simp)
        refine hK.out _ _ ⟨BB.trans (hb9.mono (by omega)), Nat.le_trans zz hb9.size, k126_.below hb9 (by first | omega | (simp; omega) | simp), k127_.below hb9 (by first | omega | (simp; omega) | simp), k128_.below hb9 (by first | omega | (simp; omega) | simp), k129_.below hb9 (by first | omega | (simp; omega) | simp), k130_.below hb9 (by first | omega | (simp; omega) | simp), k131_.below hb9 (by first | omega | (simp; omega) | simp), (hb9.cell (by show b100_ < _; omega)).trans q132_, Nat.le_trans zw hb9.size⟩ (fun hHeld => ?_)
        clear hb9 zw q132_ k131_ k130_ k129_ k128_ k127_ k126_ zz BB
        clear hK K
        try simp only [Act.put, List.setIfInBounds_toArray, List.set_cons_zero, List.set_cons_succ]
        refine wpAnyH_ready (rs := [14]) (by kernel_rfl) (by simp) ?_
        refine AllReadyH.cons (o := ?ox14) ?hx14 (fun K hK => ?_) AllReadyH.nil
        case hx14 => (simp only [List.getElem?_toArray, List.getElem?_cons_succ, List.getElem?_cons_zero]; exact rfl)
        obtain ⟨BB, zz, k126_, k127_, k128_, k129_, k130_, k131_, q132_, zw⟩ := hHeld
        refine step_gr (by rfl) _ _ (by rfl) (xs := ([] : List Int)) (ys := (y106_.take x116_)) (by rfl) (by have e := HL99_.out; omega) G98_ (by rfl) (by have e := HL115_.out; omega) (take_read k131_.read hk114_) (by omega) ?_
        intro g111_ c112_ w146 G113_ hC147_ hg111_
        have lg111_ : w.heap.size ≤ g111_ := by omega
        have lSg111_ : g111_ = g97_ ∨ w86.heap.size ≤ g111_ := by omega
        have l148_ := G113_.lt
        have l149_ := hC147_.size
        have o150_ := o145_.chg hC147_ (by omega)
        refine hK.out _ _ ⟨BB.trans (hC147_.below (by omega) (by omega)), Nat.le_trans zz hC147_.size, k126_.chg hC147_ (by first | omega | (simp; omega) | simp) (by omega), k127_.chg hC147_ (by first | omega | (simp; omega) | simp) (by omega), k128_.chg hC147_ (by first | omega | (simp; omega) | simp) (by omega), k129_.chg hC147_ (by first | omega | (simp; omega) | simp) (by omega), k130_.chg hC147_ (by first | omega | (simp; omega) | simp) (by omega), k131_.chg hC147_ (by first | omega | (simp; omega) | simp) (by omega), (hC147_.cell (by show b100_ < _; omega) (by first | omega | (simp; omega) | simp)).trans q132_, Nat.le_trans zw hC147_.size⟩ (fun hHeld => ?_)
        clear hC147_ zw q132_ k131_ k130_ k129_ k128_ k127_ k126_ zz BB
        clear hK K
        try simp only [Act.put, List.setIfInBounds_toArray, List.set_cons_zero, List.set_cons_succ]
        refine wpAnyH_ready (rs := [15]) (by kernel_rfl) (by simp) ?_
        refine AllReadyH.cons rfl (fun K hK => ?_) AllReadyH.nil
        obtain ⟨BB, zz, k126_, k127_, k128_, k129_, k130_, k131_, q132_, zw⟩ := hHeld
        go_simp
        have R119_ := rows_lit1 (n := x116_) (d := c112_) w146 G113_.ints (by have e := HL117_.out; first | exact e | omega) (by first | omega | (simp; omega) | simp) (by first | omega | (simp; omega) | simp) (by have e := G113_.room; have e2 := HL117_.out; omega) true (fun _ => ⟨_, _, rfl⟩)
        have hb9 : Below w146.heap.size w146 (w146.alloc (.cells #[.slice (some ⟨g111_, 0, none⟩) x116_ c112_] 26)) := (Below.refl _ w146).alloc (Nat.le_refl _) (.cells #[.slice (some ⟨g111_, 0, none⟩) x116_ c112_] 26)
        have cB120_ : (w146.alloc (.cells #[.slice (some ⟨g111_, 0, none⟩) x116_ c112_] 26)).cell? ⟨w146.heap.size, 0, none⟩ = some (.slice (some ⟨g111_, 0, none⟩) x116_ c112_) := by simp [go_sem]
        obtain ⟨g118_, hg118_⟩ : ∃ g, w146.heap.size = g := ⟨_, rfl⟩
        rw [hg118_] at R119_ cB120_
        simp only [hg118_]
        have lg118_ : w.heap.size ≤ g118_ := by omega
        have lWg118_ : w86.heap.size ≤ g118_ := by omega
        have leg118_ : g118_ ≤ w146.heap.size := by omega
        have geg118_ : w146.heap.size ≤ g118_ := by omega
        obtain ⟨w151, hw151⟩ : ∃ x, x = (w146.alloc (.cells #[.slice (some ⟨g111_, 0, none⟩) x116_ c112_] 26)) := ⟨_, rfl⟩
        rw [← hw151] at R119_ cB120_ hb9
        rw [← hw151]
        clear hw151 hg118_
        have l152_ := R119_.lt
        have l153_ := R119_.size
        have l154_ := hb9.size
        have G113_ := G113_.below hb9 (by first | omega | (simp; omega) | simp)
        have o155_ := o150_.below hb9 (by first | omega | (simp; omega) | simp)
        refine hK.out _ _ ⟨BB.trans (hb9.mono (by omega)), Nat.le_trans zz hb9.size, k126_.below hb9 (by first | omega | (simp; omega) | simp), k127_.below hb9 (by first | omega | (simp; omega) | simp), k128_.below hb9 (by first | omega | (simp; omega) | simp), k129_.below hb9 (by first | omega | (simp; omega) | simp), k130_.below hb9 (by first | omega | (simp; omega) | simp), k131_.below hb9 (by first | omega | (simp; omega) | simp), (hb9.cell (by show b100_ < _; omega)).trans q132_, Nat.le_trans zw hb9.size⟩ (fun hHeld => ?_)
        clear hb9 zw q132_ k131_ k130_ k129_ k128_ k127_ k126_ zz BB
        clear hK K
        try simp only [Act.put, List.setIfInBounds_toArray, List.set_cons_zero, List.set_cons_succ]
        refine wpAnyH_ready (rs := [16]) (by kernel_rfl) (by simp) ?_
        refine AllReadyH.cons (o := ?ox15) ?hx15 (fun K hK => ?_) AllReadyH.nil
        case hx15 => (simp only [List.getElem?_toArray, List.getElem?_cons_succ, List.getElem?_cons_zero]; exact rfl)
        obtain ⟨BB, zz, k126_, k127_, k128_, k129_, k130_, k131_, q132_, zw⟩ := hHeld
        refine step_rows (by rfl) _ _ (by rfl) (xss := ((lessB B).take k)) (xs := (([] : List Int) ++ (y106_.take x116_))) (by rfl) (by have e := HL69_.out; omega) o155_ (by rfl) cB120_ (by have e := HL117_.out; first | exact e | omega) G113_.ints (by omega) (by omega) (by have e := G113_.room; have e2 := HL117_.out; omega) (fun _ => ⟨_, _, rfl⟩) (by omega) ?_
        intro g121_ c122_ w156 R123_ hC157_ hg158_
        have lg121_ : w.heap.size ≤ g121_ := by omega
        have lSg121_ : g121_ = gw ∨ w86.heap.size ≤ g121_ := by omega
        have l159_ := R123_.lt
        have l160_ := R123_.ge
        have l161_ := hC157_.size
        have G113_ := G113_.chg hC157_ (by omega)
        refine hK.out _ _ ⟨BB.trans (hC157_.below (by omega) (by omega)), Nat.le_trans zz hC157_.size, k126_.chg hC157_ (by first | omega | (simp; omega) | simp) (by omega), k127_.chg hC157_ (by first | omega | (simp; omega) | simp) (by omega), k128_.chg hC157_ (by first | omega | (simp; omega) | simp) (by omega), k129_.chg hC157_ (by first | omega | (simp; omega) | simp) (by omega), k130_.chg hC157_ (by first | omega | (simp; omega) | simp) (by omega), k131_.chg hC157_ (by first | omega | (simp; omega) | simp) (by omega), (hC157_.cell (by show b100_ < _; omega) (by first | omega | (simp; omega) | simp)).trans q132_, Nat.le_trans zw hC157_.size⟩ (fun hHeld => ?_)
        clear hC157_ zw q132_ k131_ k130_ k129_ k128_ k127_ k126_ zz BB
        clear hK K
        try simp only [Act.put, List.setIfInBounds_toArray, List.set_cons_zero, List.set_cons_succ]
        refine wpAnyH_take (i := 17) (oi := ?oi16) (v := ?vv16) ?hi16 ?hs16 ?hf16 ?ha16 ?hq16 ?hy16 hHeld ?hr16
        case hi16 => (simp only [List.getElem?_toArray, List.getElem?_cons_succ, List.getElem?_cons_zero]; exact rfl)
        case hs16 => kernel_rfl
        case hf16 => kernel_rfl
        case ha16 => kernel_rfl
        case hq16 => exact fun _ _ _ h => h
        case hy16 =>
          refine Or.inl ⟨by rfl, ?_⟩
          intro w' hSw
          try dsimp only at hSw
          go_simp
          first | done | with_reducible rfl
        simp only [Act.put, List.setIfInBounds_toArray, List.set_cons_succ, List.set_cons_zero]
        refine wpAnyH_done (by kernel_rfl) ?_ _
        obtain ⟨BB, zz, k126_, k127_, k128_, k129_, k130_, k131_, q132_, zw⟩ := hHeld
        clear hw125_
        have k162_ := BB
        clear BB
        have k163_ := zz
        clear zz
        have k164_ := zw
        clear zw
        go_wp2
        go_roundw
        case rel => exact ⟨k + 1, g121_, c122_, by go_num, (slice_n (by omega)), by omega, by omega, (by omega), (show Rows w156 true w.heap.size w156.heap.size g121_ c122_ ((lessB B).take (k + 1)) from (by rw [take_less (by omega) Hy106_.out, show y106_.length - 1 = x116_ from by omega]; exact R123_)).more (by omega) (by first | omega | (simp; omega) | simp) (Nat.le_refl _), k162_, (by first | omega | (simp; omega) | simp), k126_, k127_, k128_, k129_, k130_⟩
        case measure => simp [intOf] <;> omega
      · have hke : k = B.length := by omega
        obtain rfl : k = B.length := hke
        have R72_ : Rows w60 true w.heap.size w60.heap.size gw cw (lessB B) := by have e := G61_; rw [show (lessB B).take B.length = (lessB B) from by rw [← HLL.out, List.take_length]] at e; exact e
        go_wp2_with fail
        try rw [slice_n (A := (some ⟨gw, 0, none⟩)) (n := B.length) (m := (lessB B).length) (c := cw) (by have e := HLL.out; first | omega | exact e.symm)]
        refine (implSurplusOf_any (some ⟨gw, 0, none⟩) cw (lessB B) _ _ _ R72_.grid (by first | omega | (simp; omega) | simp) (by have e := HLL.out; omega)).mono ?_
        rintro e w73 ⟨he, hb73_⟩
        obtain ⟨v74_, hv74_⟩ : ∃ v, surplusV (lessB B) = v := ⟨_, rfl⟩
        rw [hv74_] at he
        subst he
        have v74_g := surplusV_rg (lessB B)
        rw [hv74_] at v74_g
        obtain ⟨v74_g1, v74_g2⟩ := v74_g
        have Hv74_ := Lib.hid hv74_
        clear hv74_
        have o75_ := k64_.below hb73_ (by first | omega | (simp; omega) | simp)
        have o76_ := k65_.below hb73_ (by first | omega | (simp; omega) | simp)
        have o77_ := k66_.below hb73_ (by first | omega | (simp; omega) | simp)
        have o78_ := k67_.below hb73_ (by first | omega | (simp; omega) | simp)
        have o79_ := k68_.below hb73_ (by first | omega | (simp; omega) | simp)
        have o80_ := R72_.below hb73_ (by first | omega | (simp; omega) | simp)
        have z81_ := hb73_.size
        have B82_ := k62_.trans (hb73_.mono (by first | omega | (simp; omega) | simp))
        clear hb73_
        have h83_ : v74_ ≤ v45_ := by rw [← Hv74_.out, ← Hv45_.out]; exact (surplusV_less2 HBO.out).1
        have h83_d : decide (v74_ ≤ v45_) = true := decide_eq_true h83_
        go_wp2_with fail
        try rw [slice_n (A := (some ⟨gw, 0, none⟩)) (n := B.length) (m := (lessB B).length) (c := cw) (by have e := HLL.out; first | omega | exact e.symm)]
        refine (implSurplusOf_any (some ⟨gw, 0, none⟩) cw (lessB B) _ _ _ o80_.grid (by first | omega | (simp; omega) | simp) (by have e := HLL.out; omega)).mono ?_
        rintro e w84 ⟨he, hb84_⟩
        rw [Hv74_.out] at he
        subst he
        have o85_ := o75_.below hb84_ (by first | omega | (simp; omega) | simp)
        have o86_ := o76_.below hb84_ (by first | omega | (simp; omega) | simp)
        have o87_ := o77_.below hb84_ (by first | omega | (simp; omega) | simp)
        have o88_ := o78_.below hb84_ (by first | omega | (simp; omega) | simp)
        have o89_ := o79_.below hb84_ (by first | omega | (simp; omega) | simp)
        have o90_ := o80_.below hb84_ (by first | omega | (simp; omega) | simp)
        have z91_ := hb84_.size
        have B92_ := B82_.trans (hb84_.mono (by first | omega | (simp; omega) | simp))
        clear hb84_
        have h93_ : v74_ ≥ 0 := by rw [← Hv74_.out]; exact (surplusV_less2 HBO.out).2
        have h93_d : decide (v74_ ≥ 0) = true := decide_eq_true h93_
        go_wp2
        go_ret
        exact ⟨ret_bool (by first | exact rfl | exact (decide_eq_true (by omega)).trans rfl), B92_⟩

set_option maxRecDepth 10000 in
set_option maxHeartbeats 400000 in
theorem fnEndRow_big (A0 : Option Addr) (c0 : Nat) (bs : List Int) (w : World) (hl : ¬ bs.length ≤ 1048576) (hm : bs.length ≤ 9223372036854775807) :
    Calls Try.prog 8 #[.slice A0 bs.length c0] w fun e w' => e = .returned (.bool true) ∧ Below w.heap.size w w' := by
  go_enter Try.func8, Try.ntmps8
  go_wp2
  go_ret
  exact ⟨rfl, Below.refl _ _⟩

theorem fnEndRow_all (A0 : Option Addr) (c0 : Nat) (bs : List Int) (w : World) (h0 : Bytes w w.heap.size A0 bs) (hm : bs.length ≤ 9223372036854775807) (hc0 : bs.length ≤ c0) :
    Calls Try.prog 8 #[.slice A0 bs.length c0] w fun e w' => e = .returned (.bool true) ∧ Below w.heap.size w w' := by
  by_cases hl : bs.length ≤ 1048576
  · exact fnEndRow_walk A0 c0 bs w h0 hl hc0
  · exact fnEndRow_big A0 c0 bs w hl hm

end Go.Proofs.Ytpdlppmkjkbboaa
