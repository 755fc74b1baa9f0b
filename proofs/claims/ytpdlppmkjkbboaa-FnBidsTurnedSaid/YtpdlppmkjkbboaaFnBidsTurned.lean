/-
  The law of bids turned returns true for every code, and writes nothing that was there. No condition.
-/
import Derived.Test.YtpdlppmkjkbboaaGA
import Derived.Test.YtpdlppmkjkbboaaDraw9
import Derived.Test.YtpdlppmkjkbboaaGridB
import Derived.Test.YtpdlppmkjkbboaaGridN
import Derived.Test.YtpdlppmkjkbboaaGame9I
import Derived.Test.YtpdlppmkjkbboaaGC
import Derived.Test.YtpdlppmkjkbboaaFx
import Derived.Deep.RegionHeld3
namespace Go.Proofs.Ytpdlppmkjkbboaa
open Go.RowKit

set_option maxRecDepth 10000 in
set_option maxHeartbeats 2000000 in
theorem fnBidsTurned_walk (A0 : Option Addr) (c0 : Nat) (bs : List Int) (w : World) (h0 : Bytes w w.heap.size A0 bs) (hl : bs.length ≤ 1048576) (hc0 : bs.length ≤ c0) :
    Calls Try.prog 9 #[.slice A0 bs.length c0] w fun e w' => e = .returned (.bool true) ∧ Below w.heap.size w w' := by
  have hlm : bs.length ≤ 9223372036854775807 := by omega
  go_enter Try.func9, Try.ntmps9
  have Htrue : Hid True := trivial
  have hc0u := hc0
  have h0u := h0
  have hlmu := hlm
  go_wp2_with fail
  refine (drawSurplusOf_any A0 c0 bs _ (h0.more (by first | omega | (simp; omega) | simp)) hlm hc0).mono ?_
  rintro e w1 ⟨A3_, c4_, B, hB4, hB6, rfl, Gd5_, hb2_⟩
  have o6_ := h0.below hb2_ (by first | omega | (simp; omega) | simp)
  have z7_ := hb2_.size
  have B8_ := (Below.refl w.heap.size w).trans (hb2_.mono (by first | omega | (simp; omega) | simp))
  clear hb2_
  have HB6 := Lib.hid hB6
  clear hB6
  go_wp2_with fail
  refine (implSurplusOf_any A3_ c4_ B _ _ _ Gd5_.grid (by first | omega | (simp; omega) | simp) (by omega)).mono ?_
  rintro e w9 ⟨he, hb9_⟩
  obtain ⟨v10_, hv10_⟩ : ∃ v, surplusV B = v := ⟨_, rfl⟩
  rw [hv10_] at he
  subst he
  have v10_g := surplusV_rg B
  rw [hv10_] at v10_g
  obtain ⟨v10_g1, v10_g2⟩ := v10_g
  have Hv10_ := Lib.hid hv10_
  clear hv10_
  have o11_ := o6_.below hb9_ (by first | omega | (simp; omega) | simp)
  have o12_ := Gd5_.below hb9_ (by first | omega | (simp; omega) | simp)
  have z13_ := hb9_.size
  have B14_ := B8_.trans (hb9_.mono (by first | omega | (simp; omega) | simp))
  clear hb9_
  by_cases h15_ : bidB B = true
  · have H15_ := Lib.hid h15_
    clear h15_
    have HBO := Lib.hid H15_.out
    have hbd := bidB_bd HBO.out
    obtain ⟨hB2, hB4', hT4⟩ := hbd
    have HTL := Lib.hid (takersRow_len HBO.out)
    have htl1 : (takersRow B).length ≤ things B := by have e := HTL.out; omega
    have htl2 : things B ≤ (takersRow B).length := by have e := HTL.out; omega
    have HFL : Hid ((fairRow B).length = B.length) := by show _ = _; rw [fairRow_yes HBO.out, fnRow_length]
    have hfl1 : (fairRow B).length ≤ B.length := by have e := HFL.out; omega
    have hfl2 : B.length ≤ (fairRow B).length := by have e := HFL.out; omega
    have HPL : Hid ((paidRow B).length = B.length) := by show _ = _; rw [paidRow, if_pos HBO.out, fnRow_length]
    have hpl1 : (paidRow B).length ≤ B.length := by have e := HPL.out; omega
    have hpl2 : B.length ≤ (paidRow B).length := by have e := HPL.out; omega
    have HEL : Hid ((endRow B).length = B.length) := by show _ = _; rw [endRow, if_pos HBO.out, fnRow_length]
    have hel1 : (endRow B).length ≤ B.length := by have e := HEL.out; omega
    have hel2 : B.length ≤ (endRow B).length := by have e := HEL.out; omega
    go_wp2_with fail
    refine (specBidsOk_any A3_ c4_ B _ _ _ o12_.grid (by first | omega | (simp; omega) | simp) (by omega)).mono ?_
    rintro e w16 ⟨he, hb16_⟩
    rw [H15_.out] at he
    subst he
    have o17_ := o11_.below hb16_ (by first | omega | (simp; omega) | simp)
    have o18_ := o12_.below hb16_ (by first | omega | (simp; omega) | simp)
    have z19_ := hb16_.size
    have B20_ := B14_.trans (hb16_.mono (by first | omega | (simp; omega) | simp))
    clear hb16_
    have o21_ := o17_.below ((Below.refl _ _).alloc (Nat.le_refl _) (.cells #[] 26)) (by first | omega | (simp; omega) | simp)
    have o22_ := o18_.alloc (by first | omega | (simp; omega) | simp) (.cells #[] 26)
    have B23_ := B20_.alloc (by first | omega | (simp; omega) | simp) (.cells #[] 26)
    have R24_ : Rows (w16.alloc (.cells #[] 26)) true w16.heap.size (w16.heap.size + 1) w16.heap.size 0 ([]) := by have e := rows_lit0 w16 true; (try simp only [hsz] at e); exact e
    have o25_ := o21_.below ((Below.refl _ _).alloc (Nat.le_refl _) (.cells #[] 26)) (by first | omega | (simp; omega) | simp)
    have o26_ := o22_.alloc (by first | omega | (simp; omega) | simp) (.cells #[] 26)
    have o27_ := R24_.alloc (.cells #[] 26)
    have B28_ := B23_.alloc (by first | omega | (simp; omega) | simp) (.cells #[] 26)
    have R29_ : Rows ((w16.alloc (.cells #[] 26)).alloc (.cells #[] 26)) true (w16.heap.size + 1) (w16.heap.size + 1 + 1) (w16.heap.size + 1) 0 ([]) := by have e := rows_lit0 (w16.alloc (.cells #[] 26)) true; (try simp only [hsz] at e); exact e
    have HWL : Hid ((wideB B 5).length = B.length) := by show _ = _; simp [wideB]
    have HBR : Hid (B.reverse.length = B.length) := by show _ = _; simp
    go_wp2
    go_loopw [7, 5, 6] (fun kk v u wr => ∃ k : Nat, ∃ g cg : Nat, ∃ gw cw : Nat, kk = .int .i64 k ∧ v = .slice (some ⟨g, 0, none⟩) k cg ∧ u = .slice (some ⟨gw, 0, none⟩) k cw ∧ (k ≤ B.length) ∧ (g = w16.heap.size ∨ (w16.heap.size + 2) ≤ g) ∧ (gw = (w16.heap.size + 1) ∨ (w16.heap.size + 2) ≤ gw) ∧ w.heap.size ≤ g ∧ w.heap.size ≤ gw ∧ RowsN wr w.heap.size wr.heap.size g cg ((B.take k).reverse) gw ∧ RowsN wr w.heap.size wr.heap.size gw cw ((wideB B 5).take k) g ∧ Below w.heap.size w wr ∧ w16.heap.size + 2 ≤ wr.heap.size ∧ Bytes wr (w.heap.size) A0 bs ∧ GridS wr (w.heap.size) (w1.heap.size) A3_ B) (fun kk v u _ => B.length - (intOf kk).toNat)
    case atStart => exact ⟨0, w16.heap.size, 0, (w16.heap.size + 1), 0, rfl, (slice_n (by omega)), (slice_n (by omega)), Nat.zero_le _, Or.inl rfl, Or.inl rfl, (by omega), (by omega), rowsN_nil ((o27_).more (by omega) (by first | omega | (simp; omega) | simp) (Nat.le_refl _)) (by first | omega | (simp; omega) | simp) (by omega), rowsN_nil ((R29_).more (by omega) (by first | omega | (simp; omega) | simp) (Nat.le_refl _)) (by first | omega | (simp; omega) | simp) (by omega), B28_, (by first | omega | (simp; omega) | simp), o25_, o26_⟩
    case round =>
      obtain ⟨k, g, cg, gw, cw, rfl, rfl, rfl, hk, hga, hgw, glb, gwlb, G31_, G32_, k33_, k34_, k35_, k36_⟩ := hrel
      obtain ⟨w30, rfl⟩ : ∃ x, x = wr := ⟨_, rfl⟩
      have HL37_ : Hid (((B.take k).reverse).length = k) := (by show _ = _; rw [List.length_reverse, List.length_take]; omega)
      have l38_ := G31_.lt
      have l39_ := G31_.ge
      have HL40_ : Hid (((wideB B 5).take k).length = k) := (by show _ = _; rw [List.length_take]; have e := HWL.out; omega)
      have l41_ := G32_.lt
      have l42_ := G32_.ge
      by_cases hlt0 : k < B.length
      · have o43_ := k35_.below ((Below.refl _ _).alloc (Nat.le_refl _) (.cells #[] 3)) (by first | omega | (simp; omega) | simp)
        have o44_ := k36_.alloc (by first | omega | (simp; omega) | simp) (.cells #[] 3)
        have o45_ := G31_.alloc (.cells #[] 3)
        have o46_ := G32_.alloc (.cells #[] 3)
        have B47_ := k33_.alloc (by first | omega | (simp; omega) | simp) (.cells #[] 3)
        have G48_ : Grow (w30.alloc (.cells #[] 3)) (w30.heap.size) 0 ([] : List Int) := by have e := grow_lit w30 ([] : List Int) (by simp); (try simp only [hsz] at e); exact e
        have l49_ := G48_.lt
        have HL50_ : Hid (([] : List Int).length = 0) := rfl
        obtain ⟨b51_, f52_, rfl, _, b51_h, -⟩ := o44_ (by omega)
        obtain ⟨b59_, f60_, d54_, c55_, F56_, rm58_⟩ := o44_.at_ k (by omega)
        obtain ⟨y57_, hy57_⟩ : ∃ y_, B.getD k [] = y_ := ⟨_, rfl⟩
        rw [hy57_] at c55_ F56_ rm58_
        have qy57_ := row_th HBO.out (k := k) (by omega) hy57_
        obtain ⟨qy57_a, qy57_b⟩ := qy57_
        have Hy57_ := Lib.hid hy57_
        clear hy57_
        have c55_ : (w30.alloc (.cells #[] 3)).cell? ⟨b51_, f52_ + k, none⟩ = some (.slice (some ⟨b59_, f60_, none⟩) y57_.length d54_) := c55_
        have c55_i : (k : Int) < (B.length : Int) := by omega
        have c55_j : (0 : Int) ≤ (k : Int) := by omega
        go_upto_region 13 with (first | ((at_builtin; (refine append_grL (by rfl) _ _ (by rfl) (xs := ([] : List Int)) (ys := y57_) (by rfl) (by have e := HL50_.out; omega) G48_ (by rfl) (by rfl) (F56_.read) (by omega) ?_; intro g61_ c62_ L67_ w63 HL67_ L67_l L67_u G63_ hC64_ hg65_)); (have o68_ := o43_.chg hC64_ (by first | omega | (simp; omega) | simp) (by omega)); (have o69_ := o44_.chg hC64_ (by first | omega | (simp; omega) | simp) (by omega)); (have o70_ := o45_.chg hC64_ (by omega)); (have o71_ := o46_.chg hC64_ (by omega)); (have o72_ := F56_.chg hC64_ (by first | omega | (simp; omega) | simp) (by omega)); (have z73_ := hC64_.size); (try simp at z73_); (have B74_ := B47_.trans (hC64_.below (by omega) (by first | omega | (simp; omega) | simp))); (clear hC64_); (have l75_ := G63_.lt); (have lit76_ := rows_lit1 (n := L67_) (d := c62_) w63 G63_.ints (by have e := HL67_.out; omega) (by first | omega | (simp; omega) | simp) (by first | omega | (simp; omega) | simp) (by have e := G63_.room; have e2 := HL67_.out; omega) true (fun _ => ⟨_, _, rfl⟩)); (have o77_ := o68_.below ((Below.refl _ _).alloc (Nat.le_refl _) (.cells #[.slice (some ⟨g61_, 0, none⟩) L67_ c62_] 26)) (by first | omega | (simp; omega) | simp)); (have o78_ := o69_.alloc (by first | omega | (simp; omega) | simp) (.cells #[.slice (some ⟨g61_, 0, none⟩) L67_ c62_] 26)); (have o79_ := o70_.alloc (.cells #[.slice (some ⟨g61_, 0, none⟩) L67_ c62_] 26)); (have o80_ := o71_.alloc (.cells #[.slice (some ⟨g61_, 0, none⟩) L67_ c62_] 26)); (have o81_ := o72_.alloc (by first | omega | (simp; omega) | simp) (.cells #[.slice (some ⟨g61_, 0, none⟩) L67_ c62_] 26)); (have o82_ := G63_.alloc (.cells #[.slice (some ⟨g61_, 0, none⟩) L67_ c62_] 26)); (have B83_ := B74_.alloc (by first | omega | (simp; omega) | simp) (.cells #[.slice (some ⟨g61_, 0, none⟩) L67_ c62_] 26)); (have R84_ : Rows (w63.alloc (.cells #[.slice (some ⟨g61_, 0, none⟩) L67_ c62_] 26)) true g61_ (w63.heap.size + 1) w63.heap.size 1 ([(([] : List Int) ++ y57_)]) := by have e := lit76_; (try simp only [hsz] at e); exact e); (have a85_ : (w63.alloc (.cells #[.slice (some ⟨g61_, 0, none⟩) L67_ c62_] 26)).cell? ⟨w63.heap.size, 0, none⟩ = some (.slice (some ⟨g61_, 0, none⟩) L67_ c62_) := by simp [go_sem]); (have HL86_ : Hid (([(([] : List Int) ++ y57_)]).length = 1) := rfl)) | (at_builtin; (refine append_rows_allN (by rfl) _ _ (by rfl) (l := w.heap.size) (yss := ((B.take k).reverse)) (by rfl) R84_ a85_ (by rfl) (by have e := HL37_.out; omega) o79_ (by omega) (by omega) (by omega) (by omega) (by omega) (by omega) ?_; intro g87_ c88_ L92_ w89 HL92_ L92_l L92_u R89_ hC90_ hg91_)))
        simp only [hsz] at hg91_
        have l94_ := R89_.lt
        have l95_ := R89_.ge
        have o96_ := o77_.chg hC90_ (by first | omega | (simp; omega) | simp) (by omega)
        have o97_ := o78_.chg hC90_ (by first | omega | (simp; omega) | simp) (by omega)
        have o98_ := o80_.chg hC90_ (by omega)
        have o99_ := o81_.chg hC90_ (by first | omega | (simp; omega) | simp) (by omega)
        have o100_ := o82_.chg hC90_ (by omega)
        have z101_ := hC90_.size
        try simp at z101_
        have B102_ := B83_.trans (hC90_.below (by omega) (by first | omega | (simp; omega) | simp))
        clear hC90_
        have o103_ := o98_.other (x' := g87_) (by omega) (by omega)
        have HL104_ : Hid (([(([] : List Int) ++ y57_)] ++ ((B.take k).reverse)).length = L92_) := by show _ = _; rw [List.length_append, show ((B.take k).reverse).length = k from by have e := HL37_.out; omega, HL92_.out]; rfl
        have o105_ := o96_.below ((Below.refl _ _).alloc (Nat.le_refl _) (.cells #[] 3)) (by first | omega | (simp; omega) | simp)
        have o106_ := o97_.alloc (by first | omega | (simp; omega) | simp) (.cells #[] 3)
        have o107_ := o103_.alloc (.cells #[] 3)
        have o108_ := o99_.alloc (by first | omega | (simp; omega) | simp) (.cells #[] 3)
        have o109_ := o100_.alloc (.cells #[] 3)
        have o110_ := R89_.alloc (.cells #[] 3)
        have B111_ := B102_.alloc (by first | omega | (simp; omega) | simp) (.cells #[] 3)
        have G112_ : Grow (w89.alloc (.cells #[] 3)) (w89.heap.size) 0 ([] : List Int) := by have e := grow_lit w89 ([] : List Int) (by simp); (try simp only [hsz] at e); exact e
        have l113_ := G112_.lt
        have HL114_ : Hid (([] : List Int).length = 0) := rfl
        obtain ⟨b121_, f122_, d116_, c117_, F118_, rm120_⟩ := o106_.at_ k (by omega)
        rw [Hy57_.out] at c117_ F118_ rm120_
        have c117_ : (w89.alloc (.cells #[] 3)).cell? ⟨b51_, f52_ + k, none⟩ = some (.slice (some ⟨b121_, f122_, none⟩) y57_.length d116_) := c117_
        have c117_i : (k : Int) < (B.length : Int) := by omega
        have c117_j : (0 : Int) ≤ (k : Int) := by omega
        go_upto_region 11 with (first | ((at_builtin; (refine append_grL (by rfl) _ _ (by rfl) (xs := ([] : List Int)) (ys := y57_) (by rfl) (by have e := HL114_.out; omega) G112_ (by rfl) (by rfl) (F118_.read) (by omega) ?_; intro g123_ c124_ L129_ w125 HL129_ L129_l L129_u G125_ hC126_ hg127_)); (have o130_ := o105_.chg hC126_ (by first | omega | (simp; omega) | simp) (by omega)); (have o131_ := o106_.chg hC126_ (by first | omega | (simp; omega) | simp) (by omega)); (have o132_ := o107_.chg hC126_ (by omega)); (have o133_ := o108_.chg hC126_ (by first | omega | (simp; omega) | simp) (by omega)); (have o134_ := o109_.chg hC126_ (by omega)); (have o135_ := o110_.chg hC126_ (by omega)); (have o136_ := F118_.chg hC126_ (by first | omega | (simp; omega) | simp) (by omega)); (have z137_ := hC126_.size); (try simp at z137_); (have B138_ := B111_.trans (hC126_.below (by omega) (by first | omega | (simp; omega) | simp))); (clear hC126_); (have l139_ := G125_.lt); (have o140_ := o130_.below ((Below.refl _ _).alloc (Nat.le_refl _) (.cells #[.int .i64 5] 3)) (by first | omega | (simp; omega) | simp)); (have o141_ := o131_.alloc (by first | omega | (simp; omega) | simp) (.cells #[.int .i64 5] 3)); (have o142_ := o132_.alloc (.cells #[.int .i64 5] 3)); (have o143_ := o133_.alloc (by first | omega | (simp; omega) | simp) (.cells #[.int .i64 5] 3)); (have o144_ := o134_.alloc (.cells #[.int .i64 5] 3)); (have o145_ := o135_.alloc (.cells #[.int .i64 5] 3)); (have o146_ := o136_.alloc (by first | omega | (simp; omega) | simp) (.cells #[.int .i64 5] 3)); (have o147_ := G125_.alloc (.cells #[.int .i64 5] 3)); (have B148_ := B138_.alloc (by first | omega | (simp; omega) | simp) (.cells #[.int .i64 5] 3)); (have G149_ : Grow (w125.alloc (.cells #[.int .i64 5] 3)) (w125.heap.size) 1 ([5] : List Int) := by have e := grow_lit w125 ([5] : List Int) (by simp); (try simp only [hsz] at e); exact e); (have l150_ := G149_.lt); (have HL151_ : Hid (([5] : List Int).length = 1) := rfl)) | ((at_builtin; (refine append_grL (by rfl) _ _ (by rfl) (xs := (([] : List Int) ++ y57_)) (ys := ([5] : List Int)) (by rfl) (by have e := HL129_.out; omega) o147_ (by rfl) (by have e := HL151_.out; omega) (G149_.ints.read) (by omega) ?_; intro g152_ c153_ L158_ w154 HL158_ L158_l L158_u G154_ hC155_ hg156_)); (have o159_ := o140_.chg hC155_ (by first | omega | (simp; omega) | simp) (by omega)); (have o160_ := o141_.chg hC155_ (by first | omega | (simp; omega) | simp) (by omega)); (have o161_ := o142_.chg hC155_ (by omega)); (have o162_ := o143_.chg hC155_ (by first | omega | (simp; omega) | simp) (by omega)); (have o163_ := o144_.chg hC155_ (by omega)); (have o164_ := o145_.chg hC155_ (by omega)); (have o165_ := o146_.chg hC155_ (by first | omega | (simp; omega) | simp) (by omega)); (have o166_ := G149_.chg hC155_ (by omega)); (have z167_ := hC155_.size); (try simp at z167_); (have B168_ := B148_.trans (hC155_.below (by omega) (by first | omega | (simp; omega) | simp))); (clear hC155_); (have l169_ := G154_.lt); (have lit170_ := rows_lit1 (n := L158_) (d := c153_) w154 G154_.ints (by have e := HL158_.out; omega) (by first | omega | (simp; omega) | simp) (by first | omega | (simp; omega) | simp) (by have e := G154_.room; have e2 := HL158_.out; omega) true (fun _ => ⟨_, _, rfl⟩)); (have o171_ := o159_.below ((Below.refl _ _).alloc (Nat.le_refl _) (.cells #[.slice (some ⟨g152_, 0, none⟩) L158_ c153_] 26)) (by first | omega | (simp; omega) | simp)); (have o172_ := o160_.alloc (by first | omega | (simp; omega) | simp) (.cells #[.slice (some ⟨g152_, 0, none⟩) L158_ c153_] 26)); (have o173_ := o161_.alloc (.cells #[.slice (some ⟨g152_, 0, none⟩) L158_ c153_] 26)); (have o174_ := o162_.alloc (by first | omega | (simp; omega) | simp) (.cells #[.slice (some ⟨g152_, 0, none⟩) L158_ c153_] 26)); (have o175_ := o163_.alloc (.cells #[.slice (some ⟨g152_, 0, none⟩) L158_ c153_] 26)); (have o176_ := o164_.alloc (.cells #[.slice (some ⟨g152_, 0, none⟩) L158_ c153_] 26)); (have o177_ := o165_.alloc (by first | omega | (simp; omega) | simp) (.cells #[.slice (some ⟨g152_, 0, none⟩) L158_ c153_] 26)); (have o178_ := o166_.alloc (.cells #[.slice (some ⟨g152_, 0, none⟩) L158_ c153_] 26)); (have o179_ := G154_.alloc (.cells #[.slice (some ⟨g152_, 0, none⟩) L158_ c153_] 26)); (have B180_ := B168_.alloc (by first | omega | (simp; omega) | simp) (.cells #[.slice (some ⟨g152_, 0, none⟩) L158_ c153_] 26)); (have R181_ : Rows (w154.alloc (.cells #[.slice (some ⟨g152_, 0, none⟩) L158_ c153_] 26)) true g152_ (w154.heap.size + 1) w154.heap.size 1 ([((([] : List Int) ++ y57_) ++ ([5] : List Int))]) := by have e := lit170_; (try simp only [hsz] at e); exact e); (have a182_ : (w154.alloc (.cells #[.slice (some ⟨g152_, 0, none⟩) L158_ c153_] 26)).cell? ⟨w154.heap.size, 0, none⟩ = some (.slice (some ⟨g152_, 0, none⟩) L158_ c153_) := by simp [go_sem]); (have HL183_ : Hid (([((([] : List Int) ++ y57_) ++ ([5] : List Int))]).length = 1) := rfl)) | (at_builtin; (refine append_rowsN (by rfl) _ _ (by rfl) (xss := ((wideB B 5).take k)) (xs := ((([] : List Int) ++ y57_) ++ ([5] : List Int))) (by rfl) (by have e := HL40_.out; omega) o173_ (by rfl) a182_ (by have e := HL158_.out; omega) o179_ (by omega) (by omega) (by omega) ?_; intro g184_ c185_ L190_ w186 HL190_ L190_l L190_u R186_ hC187_ hg188_)))
        have l191_ := R186_.lt
        have l192_ := R186_.ge
        simp only [hsz] at hg188_
        have o193_ := o176_.chgx hC187_ (x' := g184_) (by first | omega | (simp; omega)) (by omega)
        have o194_ := o171_.chg hC187_ (by first | omega | (simp; omega) | simp) (by omega)
        have o195_ := o172_.chg hC187_ (by first | omega | (simp; omega) | simp) (by omega)
        have o196_ := o174_.chg hC187_ (by first | omega | (simp; omega) | simp) (by omega)
        have o197_ := o175_.chg hC187_ (by omega)
        have o198_ := o177_.chg hC187_ (by first | omega | (simp; omega) | simp) (by omega)
        have o199_ := o178_.chg hC187_ (by omega)
        have o200_ := o179_.chg hC187_ (by omega)
        have o201_ := R181_.chg hC187_ (by omega)
        have o202_ := (hC187_.cell (p := ⟨w154.heap.size, 0, none⟩) (by first | omega | (simp; omega) | simp) (by first | omega | (simp; omega) | simp)).trans a182_
        have z203_ := hC187_.size
        try simp at z203_
        have B204_ := B180_.trans (hC187_.below (by omega) (by first | omega | (simp; omega) | simp))
        clear hC187_
        have HL205_ : Hid ((((wideB B 5).take k) ++ [((([] : List Int) ++ y57_) ++ ([5] : List Int))]).length = L190_) := by show _ = _; rw [List.length_append, HL40_.out, HL190_.out]; rfl
        go_wp2
        go_roundw
        case rel => exact ⟨k + 1, g87_, c88_, g184_, c185_, by go_num, (slice_n (by omega)), (slice_n (by omega)), by omega, by omega, by omega, (by omega), (by omega), (show RowsN w186 w.heap.size w89.heap.size g87_ c88_ ((B.take (k + 1)).reverse) g184_ from (by rw [take_back (by omega) Hy57_.out]; exact o193_)).more (by omega) (by first | omega | (simp; omega) | simp) (Nat.le_refl _), (show RowsN w186 w.heap.size w186.heap.size g184_ c185_ ((wideB B 5).take (k + 1)) g87_ from (by rw [take_wide (by omega) Hy57_.out]; exact R186_)).more (by omega) (by first | omega | (simp; omega) | simp) (Nat.le_refl _), B204_, (by first | omega | (simp; omega) | simp), o194_, o195_⟩
        case measure => simp [intOf] <;> omega
      · obtain rfl : k = B.length := by omega
        have R43_ : RowsN w30 w.heap.size w30.heap.size g cg B.reverse gw := by have e := G31_; rw [List.take_length] at e; exact e
        have R44_ : RowsN w30 w.heap.size w30.heap.size gw cw (wideB B 5) g := by have e := G32_; rw [show (wideB B 5).take B.length = (wideB B 5) from by rw [← HWL.out, List.take_length]] at e; exact e
        go_wp2_with fail
        refine (implFairRow_any A3_ c4_ B _ _ _ k36_.grid (by first | omega | (simp; omega) | simp) (by omega)).mono ?_
        rintro e w45 ⟨A46_, c47_, rfl, ho48_, hb45_⟩
        have o49_ := k35_.below hb45_ (by first | omega | (simp; omega) | simp)
        have o50_ := k36_.below hb45_ (by first | omega | (simp; omega) | simp)
        have o51_ := R43_.below hb45_ (by first | omega | (simp; omega) | simp)
        have o52_ := R44_.below hb45_ (by first | omega | (simp; omega) | simp)
        have z53_ := hb45_.size
        have B54_ := k33_.trans (hb45_.mono (by first | omega | (simp; omega) | simp))
        clear hb45_
        go_wp2_with fail
        try rw [slice_n (A := (some ⟨g, 0, none⟩)) (n := B.length) (m := B.reverse.length) (c := cg) (by have e := HBR.out; first | omega | exact e.symm)]
        refine (implFairRow_any (some ⟨g, 0, none⟩) cg B.reverse _ _ _ o51_.grid (by first | omega | (simp; omega) | simp) (by have e := HBR.out; omega)).mono ?_
        rintro e w55 ⟨A56_, c57_, rfl, ho58_, hb55_⟩
        have o59_ := o49_.below hb55_ (by first | omega | (simp; omega) | simp)
        have o60_ := o50_.below hb55_ (by first | omega | (simp; omega) | simp)
        have o61_ := o51_.below hb55_ (by first | omega | (simp; omega) | simp)
        have o62_ := o52_.below hb55_ (by first | omega | (simp; omega) | simp)
        have o63_ := ho48_.below hb55_ (by first | omega | (simp; omega) | simp)
        have z64_ := hb55_.size
        have B65_ := B54_.trans (hb55_.mono (by first | omega | (simp; omega) | simp))
        clear hb55_
        have HBL : Hid ((fairRow B.reverse).length = B.length) := fairRow_blen2 HBO.out
        have hbl1 : (fairRow B.reverse).length ≤ B.length := by have e := HBL.out; omega
        have hbl2 : B.length ≤ (fairRow B.reverse).length := by have e := HBL.out; omega
        go_wp2
        go_loopw [10] (fun kk wr => ∃ k : Nat, kk = .int .i64 k ∧ (k ≤ (fairRow B).length) ∧ Below w.heap.size w wr ∧ w55.heap.size ≤ wr.heap.size ∧ Bytes wr (w.heap.size) A0 bs ∧ GridS wr (w.heap.size) (w1.heap.size) A3_ B ∧ RowsN wr w.heap.size w30.heap.size g cg B.reverse gw ∧ RowsN wr w.heap.size w30.heap.size gw cw (wideB B 5) g ∧ Own wr (w30.heap.size) (w45.heap.size) A46_ (fairRow B) ∧ Own wr (w45.heap.size) (w55.heap.size) A56_ (fairRow B.reverse)) (fun kk _ => (fairRow B).length - (intOf kk).toNat)
        case atStart => exact ⟨0, rfl, Nat.zero_le _, B65_, (by first | omega | (simp; omega) | simp), o59_, o60_, o61_, o62_, o63_, ho58_⟩
        case round =>
          obtain ⟨k, rfl, hk, k67_, k68_, k69_, k70_, k71_, k72_, k73_, k74_⟩ := hrel
          obtain ⟨w66, rfl⟩ : ∃ x, x = wr := ⟨_, rfl⟩
          by_cases hlt2 : k < (fairRow B).length
          · have h75_ : ((fairRow B.reverse).length : Int) = ((fairRow B).length : Int) := by omega
            have h75_b : (((fairRow B.reverse).length : Int) == ((fairRow B).length : Int)) = true := by simpa using h75_
            have h75_n : (((fairRow B.reverse).length : Int) != ((fairRow B).length : Int)) = false := by simpa using h75_
            have h75_le : ((fairRow B.reverse).length : Int) ≤ ((fairRow B).length : Int) := by omega
            have h75_ge : ((fairRow B).length : Int) ≤ ((fairRow B.reverse).length : Int) := by omega
            have Hh75_ := Lib.hid h75_
            clear h75_
            obtain ⟨x76_, hx76_⟩ : ∃ x : Nat, ((((fairRow B).length : Int) - 1) - (k : Int)) = (x : Int) := ⟨(((((fairRow B).length : Int) - 1) - (k : Int))).toNat, by omega⟩
            have Hx76_ := Lib.hid hx76_
            have x76_b : x76_ < (fairRow B.reverse).length := by omega
            obtain ⟨b77_, f78_, rfl, b77_l, b77_h, -⟩ := k74_.ints (by omega)
            have c79_ : w66.cell? ⟨b77_, f78_ + x76_, none⟩ = some (.int .i64 ((fairRow B.reverse).getD x76_ 0)) := k74_.ints.at2 x76_ (by first | omega | (simp; omega) | simp)
            have c79_i : (x76_ : Int) < ((fairRow B.reverse).length : Int) := by omega
            have c79_j : (0 : Int) ≤ (x76_ : Int) := by omega
            obtain ⟨v80_, hv80_⟩ : ∃ v, v = (fairRow B.reverse).getD x76_ 0 := ⟨_, rfl⟩
            rw [← hv80_] at c79_
            have Hv80_ := Lib.hid hv80_
            clear hv80_
            obtain ⟨b81_, f82_, rfl, b81_l, b81_h, -⟩ := k73_.ints (by omega)
            have c83_ : w66.cell? ⟨b81_, f82_ + k, none⟩ = some (.int .i64 ((fairRow B).getD k 0)) := k73_.ints.at2 k (by first | omega | (simp; omega) | simp)
            have c83_i : (k : Int) < ((fairRow B).length : Int) := by omega
            have c83_j : (0 : Int) ≤ (k : Int) := by omega
            have v84_g := fairRow_rg HBO.out k
            obtain ⟨v84_, hv84_⟩ : ∃ v, v = (fairRow B).getD k 0 := ⟨_, rfl⟩
            rw [← hv84_] at c83_ v84_g
            have Hv84_ := Lib.hid hv84_
            clear hv84_
            obtain ⟨v84_g1, v84_g2⟩ := v84_g
            have h85_ : v80_ = v84_ := by rw [Hv80_.out, Hv84_.out]; exact fairRow_back2 HBO.out (by omega) (by omega)
            have h85_b : (v80_ == v84_) = true := by simpa using h85_
            have h85_n : (v80_ != v84_) = false := by simpa using h85_
            have h85_le : v80_ ≤ v84_ := by omega
            have h85_ge : v84_ ≤ v80_ := by omega
            have Hh85_ := Lib.hid h85_
            clear h85_
            have hw86_ : IntKind.i64.wrap (((fairRow B).length : Int) - 1) = (((fairRow B).length : Int) - 1) := IntWalk.i64_in _ (by omega)
            have hw87_ : IntKind.i64.wrap ((((fairRow B).length : Int) - 1) - (k : Int)) = ((((fairRow B).length : Int) - 1) - (k : Int)) := IntWalk.i64_in _ (by omega)
            go_wp2
            go_quiet (fail)
            obtain ⟨w88, hw88⟩ : ∃ x, x = w66.drewN nq := ⟨_, rfl⟩
            have hb89_ : Below w66.heap.size w66 w88 := by rw [hw88]; exact below_drewN (Below.refl _ _) _
            rw [← hw88]
            clear hw88
            clear hw86_ hw87_
            have o91_ := k69_.below hb89_ (by first | omega | (simp; omega) | simp)
            have o92_ := k70_.below hb89_ (by first | omega | (simp; omega) | simp)
            have o93_ := k71_.below hb89_ (by first | omega | (simp; omega) | simp)
            have o94_ := k72_.below hb89_ (by first | omega | (simp; omega) | simp)
            have o95_ := k73_.below hb89_ (by first | omega | (simp; omega) | simp)
            have o96_ := k74_.below hb89_ (by first | omega | (simp; omega) | simp)
            have z97_ := hb89_.size
            have B98_ := k67_.trans (hb89_.mono (by first | omega | (simp; omega) | simp))
            clear hb89_
            go_wp2
            go_roundw
            case rel => exact ⟨k + 1, by go_num, by omega, B98_, (by first | omega | (simp; omega) | simp), o91_, o92_, o93_, o94_, o95_, o96_⟩
            case measure => simp [intOf] <;> omega
          · go_wp2_with fail
            refine (alive_any _).mono ?_
            rintro e w75 ⟨rfl, hb75_⟩
            have o76_ := k69_.below hb75_ (by first | omega | (simp; omega) | simp)
            have o77_ := k70_.below hb75_ (by first | omega | (simp; omega) | simp)
            have o78_ := k71_.below hb75_ (by first | omega | (simp; omega) | simp)
            have o79_ := k72_.below hb75_ (by first | omega | (simp; omega) | simp)
            have o80_ := k73_.below hb75_ (by first | omega | (simp; omega) | simp)
            have o81_ := k74_.below hb75_ (by first | omega | (simp; omega) | simp)
            have z82_ := hb75_.size
            have B83_ := k67_.trans (hb75_.mono (by first | omega | (simp; omega) | simp))
            clear hb75_
            go_wp2_with fail
            try rw [slice_n (A := (some ⟨g, 0, none⟩)) (n := B.length) (m := B.reverse.length) (c := cg) (by have e := HBR.out; first | omega | exact e.symm)]
            refine (implSurplusOf_any (some ⟨g, 0, none⟩) cg B.reverse _ _ _ o78_.grid (by first | omega | (simp; omega) | simp) (by have e := HBR.out; omega)).mono ?_
            rintro e w84 ⟨he, hb84_⟩
            obtain ⟨v85_, hv85_⟩ : ∃ v, surplusV B.reverse = v := ⟨_, rfl⟩
            rw [hv85_] at he
            subst he
            have v85_g := surplusV_rg B.reverse
            rw [hv85_] at v85_g
            obtain ⟨v85_g1, v85_g2⟩ := v85_g
            have Hv85_ := Lib.hid hv85_
            clear hv85_
            have o86_ := o76_.below hb84_ (by first | omega | (simp; omega) | simp)
            have o87_ := o77_.below hb84_ (by first | omega | (simp; omega) | simp)
            have o88_ := o78_.below hb84_ (by first | omega | (simp; omega) | simp)
            have o89_ := o79_.below hb84_ (by first | omega | (simp; omega) | simp)
            have o90_ := o80_.below hb84_ (by first | omega | (simp; omega) | simp)
            have o91_ := o81_.below hb84_ (by first | omega | (simp; omega) | simp)
            have z92_ := hb84_.size
            have B93_ := B83_.trans (hb84_.mono (by first | omega | (simp; omega) | simp))
            clear hb84_
            have h94_ : v85_ = v10_ := by rw [← Hv85_.out, ← Hv10_.out]; exact surplusV_back2 B
            have h94_b : (v85_ == v10_) = true := by simpa using h94_
            have h94_n : (v85_ != v10_) = false := by simpa using h94_
            have h94_le : v85_ ≤ v10_ := by omega
            have h94_ge : v10_ ≤ v85_ := by omega
            have Hh94_ := Lib.hid h94_
            clear h94_
            have h95_ : ((fairRow B).length : Int) = (B.length : Int) := by omega
            have h95_b : (((fairRow B).length : Int) == (B.length : Int)) = true := by simpa using h95_
            have h95_n : (((fairRow B).length : Int) != (B.length : Int)) = false := by simpa using h95_
            have h95_le : ((fairRow B).length : Int) ≤ (B.length : Int) := by omega
            have h95_ge : (B.length : Int) ≤ ((fairRow B).length : Int) := by omega
            have Hh95_ := Lib.hid h95_
            clear h95_
            have h96_ : ((fairRow B.reverse).length : Int) = ((fairRow B).length : Int) := by omega
            have h96_b : (((fairRow B.reverse).length : Int) == ((fairRow B).length : Int)) = true := by simpa using h96_
            have h96_n : (((fairRow B.reverse).length : Int) != ((fairRow B).length : Int)) = false := by simpa using h96_
            have h96_le : ((fairRow B.reverse).length : Int) ≤ ((fairRow B).length : Int) := by omega
            have h96_ge : ((fairRow B).length : Int) ≤ ((fairRow B.reverse).length : Int) := by omega
            have Hh96_ := Lib.hid h96_
            clear h96_
            obtain ⟨b97_, f98_, rfl, _, b97_h, -⟩ := o87_ (by omega)
            obtain ⟨b105_, f106_, d100_, c101_, F102_, rm104_⟩ := o87_.at_ 0 (by omega)
            obtain ⟨y103_, hy103_⟩ : ∃ y_, B.getD 0 [] = y_ := ⟨_, rfl⟩
            rw [hy103_] at c101_ F102_ rm104_
            have qy103_ := row_th HBO.out (k := 0) (by omega) hy103_
            obtain ⟨qy103_a, qy103_b⟩ := qy103_
            have Hy103_ := Lib.hid hy103_
            clear hy103_
            have c101_ : w84.cell? ⟨b97_, f98_, none⟩ = some (.slice (some ⟨b105_, f106_, none⟩) y103_.length d100_) := c101_
            have c101_i : 0 < (B.length : Int) := by omega
            have c101_j : (0 : Int) ≤ 0 := by omega
            have c101_n : 0 < B.length := by omega
            by_cases h107_ : (y103_.length : Int) = 4
            · have h107_b : ((y103_.length : Int) == 4) = true := by simpa using h107_
              have h107_n : ((y103_.length : Int) != 4) = false := by simpa using h107_
              have h107_le : (y103_.length : Int) ≤ 4 := by omega
              have h107_ge : 4 ≤ (y103_.length : Int) := by omega
              have Hh107_ := Lib.hid h107_
              clear h107_
              go_wp2
              go_ret
              exact ⟨ret_bool (by first | exact rfl | exact h107_b.trans rfl), B93_⟩
            · have h107_b : ((y103_.length : Int) == 4) = false := by simpa using h107_
              have h107_n : ((y103_.length : Int) != 4) = true := by simpa using h107_
              go_wp2_with fail
              try rw [slice_n (A := (some ⟨gw, 0, none⟩)) (n := B.length) (m := (wideB B 5).length) (c := cw) (by have e := HWL.out; first | omega | exact e.symm)]
              refine (implSurplusOf_any (some ⟨gw, 0, none⟩) cw (wideB B 5) _ _ _ o89_.grid (by first | omega | (simp; omega) | simp) (by have e := HWL.out; omega)).mono ?_
              rintro e w108 ⟨he, hb108_⟩
              obtain ⟨v109_, hv109_⟩ : ∃ v, surplusV (wideB B 5) = v := ⟨_, rfl⟩
              rw [hv109_] at he
              subst he
              have v109_g := surplusV_rg (wideB B 5)
              rw [hv109_] at v109_g
              obtain ⟨v109_g1, v109_g2⟩ := v109_g
              have Hv109_ := Lib.hid hv109_
              clear hv109_
              have o110_ := o86_.below hb108_ (by first | omega | (simp; omega) | simp)
              have o111_ := o87_.below hb108_ (by first | omega | (simp; omega) | simp)
              have o112_ := o88_.below hb108_ (by first | omega | (simp; omega) | simp)
              have o113_ := o89_.below hb108_ (by first | omega | (simp; omega) | simp)
              have o114_ := o90_.below hb108_ (by first | omega | (simp; omega) | simp)
              have o115_ := o91_.below hb108_ (by first | omega | (simp; omega) | simp)
              have o116_ := F102_.below hb108_ (by first | omega | (simp; omega) | simp)
              have z117_ := hb108_.size
              have B118_ := B93_.trans (hb108_.mono (by first | omega | (simp; omega) | simp))
              clear hb108_
              have h119_ : v109_ = v10_ := by rw [← Hv109_.out, ← Hv10_.out]; exact surplusV_wide2 HBO.out (by omega)
              have h119_b : (v109_ == v10_) = true := by simpa using h119_
              have h119_n : (v109_ != v10_) = false := by simpa using h119_
              have h119_le : v109_ ≤ v10_ := by omega
              have h119_ge : v10_ ≤ v109_ := by omega
              have Hh119_ := Lib.hid h119_
              clear h119_
              go_wp2
              go_ret
              exact ⟨ret_bool (by first | exact rfl | exact h119_b.trans rfl), B118_⟩
  · have H15_ : Hid (bidB B = false) := by show _ = _; simpa using h15_
    clear h15_
    go_wp2_with fail
    refine (specBidsOk_any A3_ c4_ B _ _ _ o12_.grid (by first | omega | (simp; omega) | simp) (by omega)).mono ?_
    rintro e w16 ⟨he, hb16_⟩
    rw [H15_.out] at he
    subst he
    have o17_ := o11_.below hb16_ (by first | omega | (simp; omega) | simp)
    have o18_ := o12_.below hb16_ (by first | omega | (simp; omega) | simp)
    have z19_ := hb16_.size
    have B20_ := B14_.trans (hb16_.mono (by first | omega | (simp; omega) | simp))
    clear hb16_
    have h21_ : v10_ = -1 := by rw [← Hv10_.out, surplusV, if_neg (by rw [H15_.out]; simp)]
    have h21_b : (v10_ == -1) = true := by simpa using h21_
    have h21_n : (v10_ != -1) = false := by simpa using h21_
    have h21_le : v10_ ≤ -1 := by omega
    have h21_ge : -1 ≤ v10_ := by omega
    have Hh21_ := Lib.hid h21_
    clear h21_
    go_wp2_with fail
    refine (alive_any _).mono ?_
    rintro e w22 ⟨rfl, hb22_⟩
    have o23_ := o17_.below hb22_ (by first | omega | (simp; omega) | simp)
    have o24_ := o18_.below hb22_ (by first | omega | (simp; omega) | simp)
    have z25_ := hb22_.size
    have B26_ := B20_.trans (hb22_.mono (by first | omega | (simp; omega) | simp))
    clear hb22_
    go_wp2
    go_ret
    exact ⟨ret_bool (by first | exact rfl | exact h21_b.trans rfl), B26_⟩

set_option maxRecDepth 10000 in
set_option maxHeartbeats 400000 in
theorem fnBidsTurned_big (A0 : Option Addr) (c0 : Nat) (bs : List Int) (w : World) (hl : ¬ bs.length ≤ 1048576) (hm : bs.length ≤ 9223372036854775807) :
    Calls Try.prog 9 #[.slice A0 bs.length c0] w fun e w' => e = .returned (.bool true) ∧ Below w.heap.size w w' := by
  go_enter Try.func9, Try.ntmps9
  go_wp2
  go_ret
  exact ⟨rfl, Below.refl _ _⟩

theorem fnBidsTurned_all (A0 : Option Addr) (c0 : Nat) (bs : List Int) (w : World) (h0 : Bytes w w.heap.size A0 bs) (hm : bs.length ≤ 9223372036854775807) (hc0 : bs.length ≤ c0) :
    Calls Try.prog 9 #[.slice A0 bs.length c0] w fun e w' => e = .returned (.bool true) ∧ Below w.heap.size w w' := by
  by_cases hl : bs.length ≤ 1048576
  · exact fnBidsTurned_walk A0 c0 bs w h0 hl hc0
  · exact fnBidsTurned_big A0 c0 bs w hl hm

end Go.Proofs.Ytpdlppmkjkbboaa
