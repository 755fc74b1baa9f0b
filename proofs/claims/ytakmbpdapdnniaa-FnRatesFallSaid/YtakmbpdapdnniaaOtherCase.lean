/-
  Both functions OtherCase return the other case, and make new memory only.
-/
import Derived.Test.YtakmbpdapdnniaaCaseOk
import Derived.Test.YtakmbpdapdnniaaClone
import Derived.Deep.RegionHeld3
import Derived.Deep.AppendLies
namespace Go.Proofs.Ytakmbpdapdnniaa
open Go.RowKit

set_option maxRecDepth 10000 in
set_option maxHeartbeats 1000000 in
theorem implOtherCase_yes (E : Int) (A : Option Addr) (c : Nat) (xs : List Int) (w : World) (lo hi : Nat) (h : Ints w lo hi A xs) (hh : hi ≤ w.heap.size) (hok : caseOkB E xs = true) :
    Calls Try.prog 12 #[.agg #[.int .i64 E, .slice A xs.length c]] w (RetCaseB w (xs.sum - E) (xs) true) := by
  have hs := caseOk_small hok
  have hbd := caseOk_bd hok
  have HO := Lib.hid hok
  clear hok
  have k0 := (h.alloc hh (.cells #[.int .i64 E, .slice A xs.length c] 25)).alloc (by simp; omega) (.cells #[.int .i64 0, .slice none 0 0] 25)
  obtain ⟨a0, r0, f0, B0, hz0⟩ := boxes2 w (.int .i64 E) (.slice A xs.length c) (.int .i64 0) (.slice none 0 0) 25 25
  have HZ := Lib.hid hz0
  clear hz0
  go_enter Try.func12, Try.ntmps12
  go_wp2_with fail
  refine (implCaseOk_yes E A c xs _ _ _ k0 (by simp; omega) (by omega) HO.out).mono ?_
  rintro e w1 ⟨rfl, hb1⟩
  rw [HZ.out] at hb1
  obtain ⟨a1, a1'⟩ := keep2 hb1 a0 (by omega)
  have r1 := keep2 hb1 r0 (by omega)
  have f1 := keep2f hb1 f0 (by omega)
  have k1 := k0.below hb1 (by omega)
  have hz1 : w.heap.size + 2 ≤ w1.heap.size := by rw [← HZ.out]; exact hb1.size
  have B1 := B0.trans (hb1.mono (by omega))
  clear hb1 a0 r0 f0 k0 h
  have hz1' : hi ≤ w1.heap.size := by omega
  have hwr : IntKind.i64.wrap (xs.sum - E) = xs.sum - E := IntWalk.i64_in _ (by omega)
  go_wp2_with fail
  go_region_held3 (fun w' => w'.cell? ⟨w.heap.size, 0, none⟩ = some (.int .i64 E) ∧ w'.cell? ⟨w.heap.size, 1, none⟩ = some (.slice A xs.length c)) (first | exact ⟨a2, a2'⟩ | go_keep)
    (first
      | (go_at_call 34
         refine (sumOf_any A c xs _ lo hi k1.drew hs).mono ?_
         rintro e w' ⟨rfl, rfl⟩)
      | (go_at_call 35
         refine (clone_any A c xs _ lo hi k1.drew (by exact hz1') (by omega) (by omega)).mono ?_
         rintro e w2 ⟨A2, c2, rfl, ho2, hbq2⟩
         have hb2 : Below w1.heap.size w1 w2 := (Below.refl _ w1).drew.trans (hbq2.mono (by exact Nat.le_refl _))
         obtain ⟨a2, a2'⟩ := keep2 hb2 ⟨a1, a1'⟩ (by omega)
         obtain ⟨r2, r2'⟩ := keep2 hb2 r1 (by omega)
         obtain ⟨f2, f2'⟩ := keep2f hb2 f1 (by omega)
         have B2 := B1.trans (hb2.mono (by omega))
         have hz2 := hb2.size))
  go_wp2
  refine bodyPost_ret (v := .tuple #[.agg #[.int .i64 (xs.sum - E), .slice (A2) (xs).length c2], .bool true]) (by simp [results, Try.results12, go_sem, r2, r2']) rfl ?_
  have ho2x : Own w2 (w.heap.size + 2) w2.heap.size (A2) (xs) := ho2.more (by exact hz1) (Nat.le_refl _)
  exact ⟨_, c2, rfl, ((ho2x.set_out (.inl (by simp)) _).set_out (.inl (by simp)) _).more (by omega) (by simp), (B2.setCell (by simp) _).setCell (by simp) _⟩

set_option maxRecDepth 10000 in
set_option maxHeartbeats 400000 in
theorem implOtherCase_no (E : Int) (A : Option Addr) (c : Nat) (xs : List Int) (w : World) (lo hi : Nat) (h : Ints w lo hi A xs) (hh : hi ≤ w.heap.size) (hl : xs.length ≤ 1152921504606846976) (hok : caseOkB E xs = false) :
    Calls Try.prog 12 #[.agg #[.int .i64 E, .slice A xs.length c]] w (RetCaseB w 0 [] false) := by
  have HO := Lib.hid hok
  clear hok
  have k0 := (h.alloc hh (.cells #[.int .i64 E, .slice A xs.length c] 25)).alloc (by simp; omega) (.cells #[.int .i64 0, .slice none 0 0] 25)
  obtain ⟨a0, r0, f0, B0, hz0⟩ := boxes2 w (.int .i64 E) (.slice A xs.length c) (.int .i64 0) (.slice none 0 0) 25 25
  have HZ := Lib.hid hz0
  clear hz0
  go_enter Try.func12, Try.ntmps12
  go_wp2_with fail
  refine (implCaseOk_no E A c xs _ _ _ k0 (by simp; omega) hl HO.out).mono ?_
  rintro e w1 ⟨rfl, hb1⟩
  rw [HZ.out] at hb1
  obtain ⟨r1, r1'⟩ := keep2 hb1 r0 (by omega)
  obtain ⟨f1, f1'⟩ := keep2f hb1 f0 (by omega)
  have B1 := B0.trans (hb1.mono (by omega))
  clear hb1 a0 r0 f0
  go_wp2
  refine bodyPost_ret (v := .tuple #[.agg #[.int .i64 0, .slice none 0 0], .bool false]) (by simp [results, Try.results12, go_sem, r1, r1']) rfl ?_
  exact ⟨none, 0, rfl, Own.nil, (B1.setCell (by simp) _).setCell (by simp) _⟩

theorem implOtherCase_any (E : Int) (A : Option Addr) (c : Nat) (xs : List Int) (w : World) (lo hi : Nat) (h : Ints w lo hi A xs) (hh : hi ≤ w.heap.size) (hl : xs.length ≤ 1152921504606846976) :
    Calls Try.prog 12 #[.agg #[.int .i64 E, .slice A xs.length c]] w (RetCaseB w (otherE E xs) (sameXs E xs) (caseOkB E xs)) := by
  by_cases hok : caseOkB E xs = true
  · have e := implOtherCase_yes E A c xs w lo hi h hh hok
    simpa [otherE, sameXs, hok] using e
  · have hok' : caseOkB E xs = false := by simpa using hok
    have e := implOtherCase_no E A c xs w lo hi h hh hl hok'
    simpa [otherE, sameXs, hok'] using e

set_option maxRecDepth 10000 in
set_option maxHeartbeats 1000000 in
theorem specOtherCase_yes (E : Int) (A : Option Addr) (c : Nat) (xs : List Int) (w : World) (lo hi : Nat) (h : Ints w lo hi A xs) (hh : hi ≤ w.heap.size) (hok : caseOkB E xs = true) :
    Calls Try.prog 51 #[.agg #[.int .i64 E, .slice A xs.length c]] w (RetCaseB w (xs.sum - E) (xs) true) := by
  obtain ⟨i0, hi0, hz0', hz1'', hz2'⟩ := info_parts info_int
  have hs := caseOk_small hok
  have hbd := caseOk_bd hok
  have HO := Lib.hid hok
  clear hok
  have k0 := (h.alloc hh (.cells #[.int .i64 E, .slice A xs.length c] 25)).alloc (by simp; omega) (.cells #[.int .i64 0, .slice none 0 0] 25)
  obtain ⟨a0, r0, f0, B0, hz0⟩ := boxes2 w (.int .i64 E) (.slice A xs.length c) (.int .i64 0) (.slice none 0 0) 25 25
  have HZ := Lib.hid hz0
  clear hz0
  go_enter Try.func51, Try.ntmps51
  go_wp2_with fail
  refine (specCaseOk_yes E A c xs _ _ _ k0 (by simp; omega) (by omega) HO.out).mono ?_
  rintro e w1 ⟨rfl, hb1⟩
  rw [HZ.out] at hb1
  obtain ⟨a1, a1'⟩ := keep2 hb1 a0 (by omega)
  have r1 := keep2 hb1 r0 (by omega)
  have f1 := keep2f hb1 f0 (by omega)
  have k1 := k0.below hb1 (by omega)
  have hz1 : w.heap.size + 2 ≤ w1.heap.size := by rw [← HZ.out]; exact hb1.size
  have B1 := B0.trans (hb1.mono (by omega))
  clear hb1 a0 r0 f0 k0 h
  have hz1' : hi ≤ w1.heap.size := by omega
  obtain ⟨b, o, rfl, hbl, hbh, hnews⟩ := k1.news (by omega)
  have hone := ints_one xs
  have hlen : Hid ((ints xs).length = xs.length * 1) := by show _ = _; rw [ints_length]; omega
  have hown : (w1.alloc (.cells #[] 3)).drew.ownsRow w1.heap.size 3 1 (.slice (some ⟨w1.heap.size, 0, none⟩) 0 0) 0 [] := (World.ownsRow_made w1 #[] 0 (Nat.le_refl _) (by unfold maxLen; omega) rfl).drew
  have hnews' : ∀ j u, (ints xs)[j]? = some u → (w1.alloc (.cells #[] 3)).drew.cell? ((⟨b, o, none⟩ : Addr).add j) = some u := fun j u hu => by
    have e : (w1.alloc (.cells #[] 3)).cell? ((⟨b, o, none⟩ : Addr).add j) = some u := by
      rw [World.cell?_alloc_lt w1 _ _ (by rw [addr_add]; show b < _; omega)]; exact hnews j u hu
    exact e
  have hba : w1.heap.size ≤ (w1.alloc (.cells #[] 3)).drew.heap.size := by simp
  have hbe : (w1.alloc (.cells #[] 3)).drew.heap.size = w1.heap.size + 1 := by simp
  have Ba : Below w1.heap.size w1 (w1.alloc (.cells #[] 3)).drew := ((Below.refl w1.heap.size w1).alloc (Nat.le_refl _) _).drew
  have k1a := k1.below Ba (by omega)
  have hwr : IntKind.i64.wrap (xs.sum - E) = xs.sum - E := IntWalk.i64_in _ (by omega)
  go_wp2_with fail
  go_region_held3 (fun w' => w'.cell? ⟨w.heap.size, 0, none⟩ = some (.int .i64 E) ∧ w'.cell? ⟨w.heap.size, 1, none⟩ = some (.slice (some ⟨b, o, none⟩) xs.length c)) (first | exact ⟨a2, a2'⟩ | go_keep)
    (first
      | (go_at_call 32
         refine (l1Sum_any (some ⟨b, o, none⟩) c xs _ lo hi (by first | exact k1.drew | exact k1a | exact k1.below hb2 (by omega)) hs).mono ?_
         rintro e w' ⟨rfl, rfl⟩)
      | (refine step_append_lies _ rfl _ _ 23 rfl w1.heap.size 3 i0 (.int .i64 0) 1 8 Try.underlying23 hi0 hz0' hz1'' hz2' rfl (by decide) (.slice (some ⟨w1.heap.size, 0, none⟩) 0 0) 0 [] rfl (by exact hown) ⟨b, o, none⟩ xs.length c (ints xs) rfl hlen.out (by exact hnews') hone (by omega) (by unfold maxLen; omega) (by omega) (by exact hba) (w1.heap.size + 1) (by exact hbe) ?_
         intro g c2 w2 hown2 hgrow2 hat2 hlt2
         have hb2 := Ba.grown hgrow2 hba (fun k hk => Nat.le_of_eq (Option.some.inj hk))
         obtain ⟨a2, a2'⟩ := keep2 hb2 ⟨a1, a1'⟩ (by omega)
         obtain ⟨r2, r2'⟩ := keep2 hb2 r1 (by omega)
         obtain ⟨f2, f2'⟩ := keep2f hb2 f1 (by omega)
         have B2 := B1.trans (hb2.mono (by omega))
         have hz2 := hb2.size))
  all_goals
    rw [Nat.zero_add, List.nil_append] at hown2
    obtain ⟨A2', c2', e1, _, ho2⟩ := own_of_row hown2
    injection e1 with e1 _ e2
    subst e1
    subst e2
    go_wp2
    refine bodyPost_ret (v := .tuple #[.agg #[.int .i64 (xs.sum - E), .slice (some ⟨g, 0, none⟩) (xs).length c2], .bool true]) (by simp [results, Try.results51, go_sem, r2, r2']) rfl ?_
    have ho2x : Own w2 (w.heap.size + 2) w2.heap.size (some ⟨g, 0, none⟩) (xs) := ho2.more (by exact hz1) (Nat.le_refl _)
    exact ⟨_, c2, rfl, ((ho2x.set_out (.inl (by simp)) _).set_out (.inl (by simp)) _).more (by omega) (by simp), (B2.setCell (by simp) _).setCell (by simp) _⟩

set_option maxRecDepth 10000 in
set_option maxHeartbeats 400000 in
theorem specOtherCase_no (E : Int) (A : Option Addr) (c : Nat) (xs : List Int) (w : World) (lo hi : Nat) (h : Ints w lo hi A xs) (hh : hi ≤ w.heap.size) (hl : xs.length ≤ 1152921504606846976) (hok : caseOkB E xs = false) :
    Calls Try.prog 51 #[.agg #[.int .i64 E, .slice A xs.length c]] w (RetCaseB w 0 [] false) := by
  have HO := Lib.hid hok
  clear hok
  have k0 := (h.alloc hh (.cells #[.int .i64 E, .slice A xs.length c] 25)).alloc (by simp; omega) (.cells #[.int .i64 0, .slice none 0 0] 25)
  obtain ⟨a0, r0, f0, B0, hz0⟩ := boxes2 w (.int .i64 E) (.slice A xs.length c) (.int .i64 0) (.slice none 0 0) 25 25
  have HZ := Lib.hid hz0
  clear hz0
  go_enter Try.func51, Try.ntmps51
  go_wp2_with fail
  refine (specCaseOk_no E A c xs _ _ _ k0 (by simp; omega) hl HO.out).mono ?_
  rintro e w1 ⟨rfl, hb1⟩
  rw [HZ.out] at hb1
  obtain ⟨r1, r1'⟩ := keep2 hb1 r0 (by omega)
  obtain ⟨f1, f1'⟩ := keep2f hb1 f0 (by omega)
  have B1 := B0.trans (hb1.mono (by omega))
  clear hb1 a0 r0 f0
  go_wp2
  refine bodyPost_ret (v := .tuple #[.agg #[.int .i64 0, .slice none 0 0], .bool false]) (by simp [results, Try.results51, go_sem, r1, r1']) rfl ?_
  exact ⟨none, 0, rfl, Own.nil, (B1.setCell (by simp) _).setCell (by simp) _⟩

theorem specOtherCase_any (E : Int) (A : Option Addr) (c : Nat) (xs : List Int) (w : World) (lo hi : Nat) (h : Ints w lo hi A xs) (hh : hi ≤ w.heap.size) (hl : xs.length ≤ 1152921504606846976) :
    Calls Try.prog 51 #[.agg #[.int .i64 E, .slice A xs.length c]] w (RetCaseB w (otherE E xs) (sameXs E xs) (caseOkB E xs)) := by
  by_cases hok : caseOkB E xs = true
  · have e := specOtherCase_yes E A c xs w lo hi h hh hok
    simpa [otherE, sameXs, hok] using e
  · have hok' : caseOkB E xs = false := by simpa using hok
    have e := specOtherCase_no E A c xs w lo hi h hh hl hok'
    simpa [otherE, sameXs, hok'] using e

end Go.Proofs.Ytakmbpdapdnniaa
