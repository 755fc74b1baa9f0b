/-
  Both functions RestCase return what is left behind the rights, and make new memory only.
-/
import Derived.Test.YtpoafafoncgenaaRightsOf
import Derived.Test.YtpoafafoncgenaaBox
import Derived.Deep.RegionLaw
namespace Go.Proofs.Ytpoafafoncgenaa
open Go.RowKit

set_option maxRecDepth 10000 in
set_option maxHeartbeats 1000000 in
theorem implRestCase_yes (E : Int) (A : Option Addr) (c : Nat) (xs : List Int) (w : World) (lo hi : Nat) (h : Ints w lo hi A xs) (hh : hi ≤ w.heap.size) (hok : caseOkB E xs = true) :
    Calls Try.prog 54 #[.agg #[.int .i64 E, .slice A xs.length c]] w (RetCaseB w (E - (rightsRow E xs).sum) (restRow E xs) true) := by
  obtain ⟨i0, hi0, hq0, hq1, hq2⟩ := info_parts info_int
  have hsr := rights_small hok
  have hsb := rights_sum hok
  have hlr : (rightsRow E xs).length = xs.length := rightsRow_length E xs
  have HLR := Lib.hid hlr
  clear hlr
  have hs := caseOk_small hok
  have hbd := caseOk_bd hok
  have HO := Lib.hid hok
  clear hok
  have k0 := (h.alloc hh (.cells #[.int .i64 E, .slice A xs.length c] 25)).alloc (by simp; omega) (.cells #[.int .i64 0, .slice none 0 0] 25)
  obtain ⟨a0, r0, f0, B0, hz0⟩ := boxes2 w (.int .i64 E) (.slice A xs.length c) (.int .i64 0) (.slice none 0 0) 25 25
  have HZ := Lib.hid hz0
  clear hz0
  go_enter Try.func54, Try.ntmps54
  go_wp2_with fail
  refine (implCaseOk_yes E A c xs _ _ _ k0 (by simp; omega) (by omega) HO.out).mono ?_
  rintro e w1 ⟨rfl, hb1⟩
  rw [HZ.out] at hb1
  obtain ⟨a1, a1'⟩ := keep2 hb1 a0 (by omega)
  have r1 := keep2 hb1 r0 (by omega)
  have f1 := keep2f hb1 f0 (by omega)
  have k1 := k0.below hb1 (by omega)
  have hz1 : w.heap.size + 2 ≤ w1.heap.size := by rw [← HZ.out]; exact hb1.size
  have B1 := B0.trans (hb1.mono (by omega))
  clear hb1 a0 r0 f0 k0 h
  have hz1' : hi ≤ w1.heap.size := by omega
  go_wp2_with fail
  refine (implRightsOf_yes E A c xs _ lo hi k1 hz1' HO.out).mono ?_
  rintro e w2 ⟨A2, c2, rfl, ho2, hb2⟩
  obtain ⟨a2, a2'⟩ := keep2 hb2 ⟨a1, a1'⟩ (by omega)
  have r2 := keep2 hb2 r1 (by omega)
  have f2 := keep2f hb2 f1 (by omega)
  have k2 := k1.below hb2 (by omega)
  have hz2 := hb2.size
  have B2 := B1.trans (hb2.mono (by omega))
  clear hb2 r1 f1
  have hRl : (restRow E xs).length = xs.length := restRow_length E xs
  have HRl := Lib.hid hRl
  clear hRl
  go_wp2_with (at_make; refine wpList_make_full _ rfl _ _ _ rfl w2.heap.size 3 i0 _ 1 Try.underlying23 hi0 hq0 hq1 .i64 .i64 xs.length xs.length xs.length rfl rfl rfl rfl (by rw [hq2]; omega) (by unfold maxLen; omega) (Nat.le_refl _) ?_; intro wm hownm hgrowm; have bm : Below w2.heap.size w2 wm := (Below.refl _ _).grown hgrowm (Nat.le_refl _) (by intro k hk; cases hk); have hownm' := fill_start (R := restRow E xs) HRl.out hownm; clear hownm hgrowm; obtain ⟨am, am'⟩ := keep2 bm ⟨a2, a2'⟩ (by omega); have zm := bm.size)
  go_loopw [21] (fun i wr => ∃ k : Nat, k ≤ xs.length ∧ i = .int .i64 k ∧ wr.ownsRow w2.heap.size 3 1 (.slice (some ⟨w2.heap.size, 0, none⟩) xs.length xs.length) xs.length (ints (fillTo (restRow E xs) k)) ∧ Below w2.heap.size w2 wr) (fun i _ => xs.length - (intOf i).toNat)
  case atStart => exact ⟨0, Nat.zero_le _, rfl, hownm', bm⟩
  case round =>
    obtain ⟨k, hk, rfl, hown, hbel⟩ := hrel
    clear hownm' bm
    obtain ⟨ar, ar'⟩ := keep2 hbel ⟨a2, a2'⟩ (by omega)
    have zr := hbel.size
    by_cases hlt : k < xs.length
    · obtain ⟨b, o, rfl, _, hbh, hc⟩ := (k2.below hbel (by omega)).at_ hlt
      obtain ⟨b2, o2, rfl, _, hb2h, hcr⟩ := (ho2.ints.below hbel (Nat.le_refl _)).at_ (k := k) (by rw [HLR.out]; exact hlt)
      have hv := small_at xs hs k hlt
      have hvb := rights_at_bd HO.out k hlt
      generalize hvr : (rightsRow E xs)[k]'(by rw [HLR.out]; exact hlt) = vr at hcr hvb
      have HVR := Lib.hid hvr
      have hli : (k : Int) < ((rightsRow E xs).length : Int) := by rw [HLR.out]; omega
      clear hvr
      obtain ⟨hd, hf⟩ := fill_cell hown HRl.out hlt
      have hst := fill_more hown (by rw [HRl.out]; exact hlt) (xs[k] - vr) (by rw [restRow_at E xs k hlt, HVR.out])
      have hbel' := hbel.setCell (p := ⟨w2.heap.size, k, none⟩) (Nat.le_refl _) (.int .i64 (xs[k] - vr))
      have H := Lib.hid (And.intro hst hbel')
      clear hst hbel' hown hbel
      go_wp2
      go_roundw
      case rel => exact ⟨k + 1, by omega, by go_num, H.out.1, H.out.2⟩
      case measure => simp [intOf]; omega
    · obtain rfl : k = xs.length := by omega
      have how := fill_end hown HRl.out
      obtain ⟨rr, rr'⟩ := keep2 hbel r2 (by omega)
      obtain ⟨fr, fr'⟩ := keep2f hbel f2 (by omega)
      have Br := B2.trans (hbel.mono (by omega))
      have qr := ho2.ints.below hbel (Nat.le_refl _)
      have H := Lib.hid (And.intro how Br)
      clear how Br hown hbel
      have hwr : IntKind.i64.wrap (E - (rightsRow E xs).sum) = E - (rightsRow E xs).sum := IntWalk.i64_in _ (by omega)
      go_wp2_with fail
      go_region_held3 (fun w' => w'.cell? ⟨w.heap.size, 0, none⟩ = some (.int .i64 E) ∧ w'.cell? ⟨w.heap.size, 1, none⟩ = some (.slice A xs.length c)) (first | exact ⟨ar, ar'⟩ | go_keep)
        (first
          | (go_at_call 60
             refine (sumOf_any A2 c2 (rightsRow E xs) _ _ _ qr.drew hsr).mono ?_
             rintro e w' ⟨rfl, rfl⟩))
      go_wp2
      refine bodyPost_ret (v := .tuple #[.agg #[.int .i64 (E - (rightsRow E xs).sum), .slice (some ⟨w2.heap.size, 0, none⟩) xs.length xs.length], .bool true]) (by simp [results, Try.results54, go_sem, rr, rr']) rfl ?_
      refine ⟨some ⟨w2.heap.size, 0, none⟩, xs.length, by rw [HRl.out], ?_, ((H.out.2.drew.setCell (by simp) _).setCell (by simp) _)⟩
      exact (((H.out.1.drewN' 1).set_out (.inl (by show w.heap.size + 1 < _; omega)) _).set_out (.inl (by show w.heap.size + 1 < _; omega)) _).more (by omega) (by simp)

set_option maxRecDepth 10000 in
set_option maxHeartbeats 400000 in
theorem implRestCase_no (E : Int) (A : Option Addr) (c : Nat) (xs : List Int) (w : World) (lo hi : Nat) (h : Ints w lo hi A xs) (hh : hi ≤ w.heap.size) (hl : xs.length ≤ 1152921504606846976) (hok : caseOkB E xs = false) :
    Calls Try.prog 54 #[.agg #[.int .i64 E, .slice A xs.length c]] w (RetCaseB w 0 [] false) := by
  have HO := Lib.hid hok
  clear hok
  have k0 := (h.alloc hh (.cells #[.int .i64 E, .slice A xs.length c] 25)).alloc (by simp; omega) (.cells #[.int .i64 0, .slice none 0 0] 25)
  obtain ⟨a0, r0, f0, B0, hz0⟩ := boxes2 w (.int .i64 E) (.slice A xs.length c) (.int .i64 0) (.slice none 0 0) 25 25
  have HZ := Lib.hid hz0
  clear hz0
  go_enter Try.func54, Try.ntmps54
  go_wp2_with fail
  refine (implCaseOk_no E A c xs _ _ _ k0 (by simp; omega) hl HO.out).mono ?_
  rintro e w1 ⟨rfl, hb1⟩
  rw [HZ.out] at hb1
  obtain ⟨r1, r1'⟩ := keep2 hb1 r0 (by omega)
  obtain ⟨f1, f1'⟩ := keep2f hb1 f0 (by omega)
  have B1 := B0.trans (hb1.mono (by omega))
  clear hb1 a0 r0 f0
  go_wp2
  refine bodyPost_ret (v := .tuple #[.agg #[.int .i64 0, .slice none 0 0], .bool false]) (by simp [results, Try.results54, go_sem, r1, r1']) rfl ?_
  exact ⟨none, 0, rfl, Own.nil, (B1.setCell (by simp) _).setCell (by simp) _⟩

theorem implRestCase_any (E : Int) (A : Option Addr) (c : Nat) (xs : List Int) (w : World) (lo hi : Nat) (h : Ints w lo hi A xs) (hh : hi ≤ w.heap.size) (hl : xs.length ≤ 1152921504606846976) :
    Calls Try.prog 54 #[.agg #[.int .i64 E, .slice A xs.length c]] w (RetCaseB w (restE E xs) (restXs E xs) (caseOkB E xs)) := by
  by_cases hok : caseOkB E xs = true
  · have e := implRestCase_yes E A c xs w lo hi h hh hok
    simpa [restE, restXs, hok] using e
  · have hok' : caseOkB E xs = false := by simpa using hok
    have e := implRestCase_no E A c xs w lo hi h hh hl hok'
    simpa [restE, restXs, hok'] using e

theorem rest_step {w2 w4 wr : World} {O g cp k : Nat} {v : Value} {R : List Int} {rE V : Int} (hO : O = w2.heap.size) (hk : k < R.length) (hV : R[k] = V) (bx4 : Box w4 O (.int .i64 rE) v) (hbel : Below O w2 wr)
    (ownA : (wr.alloc (.cells #[.int .i64 V] 3)).drew.ownsRow (O + 1) 3 1 v k (ints (R.take k))) (hO2 : O < wr.heap.size)
    (hown4 : w4.ownsRow (O + 1) 3 1 (.slice (some ⟨g, 0, none⟩) (k + 1) cp) (k + 1) (ints (R.take k) ++ [.int .i64 V])) (hgrow4 : (wr.alloc (.cells #[.int .i64 V] 3)).drew.grownBy w4 v.ownBlock) :
    Box (w4.setCell ⟨O, 1, none⟩ (.slice (some ⟨g, 0, none⟩) (k + 1) cp)) O (.int .i64 rE) (.slice (some ⟨g, 0, none⟩) (k + 1) cp) ∧
    (w4.setCell ⟨O, 1, none⟩ (.slice (some ⟨g, 0, none⟩) (k + 1) cp)).ownsRow (O + 1) 3 1 (.slice (some ⟨g, 0, none⟩) (k + 1) cp) (R.take (k + 1)).length (ints (R.take (k + 1))) ∧
    Below O w2 (w4.setCell ⟨O, 1, none⟩ (.slice (some ⟨g, 0, none⟩) (k + 1) cp)) := by
  refine ⟨bx4.set1 _, ?_, ?_⟩
  · exact append_one hk V hV rfl (ownsRow_setCell_below hown4 (by show O < _; omega) _)
  · have h1 := ((hbel.alloc (by omega) (.cells #[.int .i64 V] 3)).drew).grown hgrow4 (by show O ≤ (wr.alloc _).heap.size; rw [hsz]; omega) (fun i hi => by have := (ownA.lt i hi).1; omega)
    exact h1.setCell (by show O ≤ O; omega) _

def RestMid (w2 : World) (rE : Int) (R : List Int) (k : Nat) (wr : World) : Prop :=
  ∃ v, Box wr w2.heap.size (.int .i64 rE) v ∧ wr.ownsRow (w2.heap.size + 1) 3 1 v (R.take k).length (ints (R.take k)) ∧ Below w2.heap.size w2 wr
theorem rest_start (w2 : World) (rE : Int) (R : List Int) : RestMid w2 rE R 0 (w2.alloc (.cells #[.int .i64 rE, .slice none 0 0] 25)).drew := by
  have b := Box.new w2 (.int .i64 rE) (.slice none 0 0) 25
  exact ⟨.slice none 0 0, ⟨b.c0, b.c1, b.f0, b.f1, b.lt⟩, World.ownsRow_nil _ _ _ _, ((Below.refl _ _).alloc (Nat.le_refl _) _).drew⟩

end Go.Proofs.Ytpoafafoncgenaa
