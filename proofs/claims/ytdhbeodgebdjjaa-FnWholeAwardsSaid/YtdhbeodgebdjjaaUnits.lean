/-
  The function wholeUnits returns the whole units of a row, and makes new memory only. Conditions: at most four numbers, none less than 0, together the divisor times the units to be given.
-/
import Derived.Test.YtdhbeodgebdjjaaPairs
import Derived.Test.YtdhbeodgebdjjaaWhole
import Derived.Test.YtdhbeodgebdjjaaSum
namespace Go.Proofs.Ytdhbeodgebdjjaa
open Go.RowKit

theorem info_rest : (Try.prog.info? 70).map (fun i => (i.zero, i.size, i.bytes)) = some (some (.agg #[.int .i64 0, .int .i64 0]), 2, 16) := by kernel_rfl

def restsOf (b : Int) (ys : List Int) : List (Int × Int) := (List.range ys.length).map fun i => (ys.getD i 0 % b, (i : Int))
theorem restsOf_length (b : Int) (ys : List Int) : (restsOf b ys).length = ys.length := by simp [restsOf]
theorem restsOf_at (b : Int) (ys : List Int) (k : Nat) (h : k < ys.length) : (restsOf b ys).getD k (0, 0) = (ys.getD k 0 % b, (k : Int)) := by simp [restsOf, List.getD, h]
theorem sortTo_of {b : Int} {ys : List Int} {rs : List (Int × Int)} (hp : rs.Perm (restsOf b ys)) (hs : rs.Pairwise fun x y => ¬ (x.1 < y.1 ∨ (y.1 = x.1 ∧ y.2 < x.2))) :
    SortTo (negs b ys) (rs.map fun x => x.2.toNat) ys.length ∧ ∀ j, j < ys.length → (rs.getD j (0, 0)).2 = (((rs.map fun x => x.2.toNat).getD j 0 : Nat) : Int) := by
  have hl : rs.length = ys.length := by rw [hp.length_eq, restsOf_length]
  have hm : ∀ x ∈ rs, ∃ i, i < ys.length ∧ x = (ys.getD i 0 % b, (i : Int)) := fun x hx => by
    have h1 := hp.mem_iff.1 hx
    simp only [restsOf, List.mem_map, List.mem_range] at h1
    obtain ⟨i, h2, h3⟩ := h1
    exact ⟨i, h2, h3.symm⟩
  have hpm : (rs.map fun x => x.2.toNat).Perm (List.range ys.length) := by
    have h1 := hp.map fun x : Int × Int => x.2.toNat
    have e : (restsOf b ys).map (fun x : Int × Int => x.2.toNat) = List.range ys.length := by
      simp only [restsOf, List.map_map]
      apply List.ext_getElem
      · simp
      · intro i h2 h3; simp
    rw [e] at h1
    exact h1
  have hnd : (rs.map fun x => x.2.toNat).Nodup := hpm.nodup_iff.2 List.nodup_range
  have hst : (rs.map fun x => x.2.toNat).Pairwise fun p q => (negs b ys).getD p 0 < (negs b ys).getD q 0 ∨ ((negs b ys).getD p 0 = (negs b ys).getD q 0 ∧ p < q) := by
    refine List.pairwise_iff_getElem.2 fun i j hi hj hij => ?_
    have hi' : i < rs.length := by simpa using hi
    have hj' : j < rs.length := by simpa using hj
    have h1 := (List.pairwise_iff_getElem.1 hs) i j hi' hj' hij
    have hne := (List.pairwise_iff_getElem.1 hnd) i j hi hj hij
    simp only [List.getElem_map] at hne ⊢
    obtain ⟨p, hp1, hp2⟩ := hm rs[i] (List.getElem_mem hi')
    obtain ⟨q, hq1, hq2⟩ := hm rs[j] (List.getElem_mem hj')
    rw [hp2, hq2] at h1 hne ⊢
    simp only [Int.toNat_natCast] at hne ⊢
    rw [negs_getD b ys p hp1, negs_getD b ys q hq1]
    simp only at h1
    omega
  refine ⟨⟨hpm, ?_, hst⟩, fun j hj => ?_⟩
  · rw [valsAt, List.pairwise_map]
    exact hst.imp fun h => by omega
  · have hj' : j < rs.length := by omega
    obtain ⟨p, hp1, hp2⟩ := hm rs[j] (List.getElem_mem hj')
    simp [List.getD, hj', hp2]

theorem set_size (w : World) (p : Addr) (v : Value) : (w.setCell p v).heap.size = w.heap.size := by simp
theorem Own.just {w : World} {lo hi g o : Nat} {xs : List Int} (h : Own w lo hi (some ⟨g, o, none⟩) xs) : Own w g (g + 1) (some ⟨g, o, none⟩) xs := fun hn => by
  obtain ⟨b, o', e, _, _, hc, hf⟩ := h hn
  cases e
  exact ⟨g, o, rfl, Nat.le_refl _, Nat.lt_succ_self _, hc, hf⟩
theorem quos_bd {d : Int} {ys : List Int} (hd : 1 ≤ d) (hy : ∀ y ∈ ys, 0 ≤ y ∧ y ≤ 100000) (i : Nat) (hi : i < ys.length) : 0 ≤ (quos d ys).getD i 0 ∧ (quos d ys).getD i 0 ≤ 100000 := by
  have hv := hy _ (List.getElem_mem hi)
  rw [quos_getD d ys i hi, getD_of_lt ys i hi]
  have h1 := Int.ediv_nonneg hv.1 (show (0 : Int) ≤ d by omega)
  have h2 := Int.ediv_le_self d hv.1
  omega
theorem quos_small {d : Int} {ys : List Int} (hd : 1 ≤ d) (hl : ys.length ≤ 4) (hy : ∀ y ∈ ys, 0 ≤ y ∧ y ≤ 100000) : Small (quos d ys) :=
  ⟨by rw [quos_length]; omega, fun x hx => by
    obtain ⟨i, hi, rfl⟩ := List.mem_iff_getElem.1 hx
    have h := quos_bd hd hy i (by rw [← quos_length d ys]; exact hi)
    rw [getD_of_lt _ i hi] at h
    omega⟩
theorem quos_sum_le {b E : Int} {ys : List Int} (hb : 1 ≤ b) (hs : ys.sum = b * E) : (quos b ys).sum ≤ E := by have := left_bd hb hs; omega

set_option maxRecDepth 10000 in
set_option maxHeartbeats 2000000 in
theorem wholeUnits_any (A : Option Addr) (c : Nat) (ys : List Int) (d E : Int) (w : World) (lo hi : Nat) (h : Ints w lo hi A ys) (hh : hi ≤ w.heap.size) (h1 : 1 ≤ ys.length) (h4 : ys.length ≤ 4) (hd1 : 1 ≤ d) (hd2 : d ≤ 1000) (hy : ∀ y ∈ ys, 0 ≤ y ∧ y ≤ 100000) (_hE : 0 ≤ E) (_hE2 : E ≤ 1000) (hsum : ys.sum = d * E) :
    Calls Try.prog 56 #[.slice A ys.length c, .int .i64 d, .int .i64 E] w (RetInts w (wholeRow d E ys)) := by
  obtain ⟨i0, hi0, hq0, hq1, hq2⟩ := info_parts info_int
  obtain ⟨i1, hi1, hr0, hr1, hr2⟩ := info_parts info_rest
  have HQ := Lib.hid (quos_length d ys)
  have HR := Lib.hid (restsOf_length d ys)
  have HY := Lib.hid hy
  have HS := Lib.hid hsum
  have hdz : d ≠ 0 := by omega
  clear hy hsum
  go_enter Try.func56, Try.ntmps56
  go_wp2_with (first
    | (at_make; refine wpList_make_full _ rfl _ _ _ rfl w.heap.size 3 i0 _ 1 Try.underlying23 hi0 hq0 hq1 .i64 .i64 ys.length ys.length ys.length rfl rfl rfl rfl (by rw [hq2]; omega) (by unfold maxLen; omega) (Nat.le_refl _) ?_; intro wm hownm hgrowm; have bm : Below w.heap.size w wm := (Below.refl _ _).grown hgrowm (Nat.le_refl _) (by intro k hk; cases hk); have hownm' := fill_start (R := quos d ys) HQ.out hownm; clear hownm hgrowm; have zm := (hownm'.lt w.heap.size rfl).2)
    | (at_make; refine wpList_make_full _ rfl _ _ _ rfl wm.heap.size 70 i1 _ 2 Try.underlying68 hi1 hr0 hr1 .i64 .i64 ys.length ys.length ys.length rfl rfl rfl rfl (by rw [hr2]; omega) (by unfold maxLen; omega) (Nat.le_refl _) ?_; intro wq hownq hgrowq; have bq : Below wm.heap.size wm wq := (Below.refl _ _).grown hgrowq (Nat.le_refl _) (by intro k hk; cases hk); rw [prow_start (restsOf d ys) ys.length HR.out] at hownq; have hownu := hownm'.kept hgrowq (.inr (fun e => by cases e)); clear hgrowq hownm'; have zq := bq.size; have bw := bm.trans (bq.mono (by omega))))
  go_loopw [21] (fun i wr => ∃ k : Nat, k ≤ ys.length ∧ i = .int .i64 k ∧ wr.ownsRow w.heap.size 3 1 (.slice (some ⟨w.heap.size, 0, none⟩) ys.length ys.length) ys.length (ints (fillTo (quos d ys) k)) ∧ wr.ownsRow wm.heap.size 70 2 (.slice (some ⟨wm.heap.size, 0, none⟩) ys.length ys.length) ys.length (prow (restsOf d ys) k) ∧ Below w.heap.size w wr) (fun i _ => ys.length - (intOf i).toNat)
  case atStart => exact ⟨0, Nat.zero_le _, rfl, hownu, hownq, bw⟩
  case round =>
    obtain ⟨k, hk, rfl, hu, hr, hbel⟩ := hrel
    clear hownu hownq bw bq bm
    have zr := hbel.size
    have hne : ¬ (wm.heap.size = w.heap.size) := by omega
    have hne' : ¬ (w.heap.size = wm.heap.size) := by omega
    by_cases hlt : k < ys.length
    · obtain ⟨b, o, rfl, _, hbh, hc⟩ := (h.below hbel hh).at_ hlt
      have hv := HY.out _ (List.getElem_mem hlt)
      obtain ⟨hd, hf⟩ := fill_cell hu HQ.out hlt
      obtain ⟨hd3, hd4, hf3, hf4⟩ := prow_cell HR.out hr hlt
      have hz1 : (d == 0) = false := by simpa using hdz
      have hz2 : (d = 0) = False := by simpa using hdz
      have hst := fill_more hu (by rw [HQ.out]; exact hlt) (ys[k] / d) (by simp [quos])
      have hgr := (hu.stored k (.int .i64 (ys[k] / d))).2
      have hr1 := hr.kept hgr (.inr (fun e => by have e' : wm.heap.size = w.heap.size := Option.some.inj e; omega))
      have hr2 := prow_more hr1 (by rw [HR.out]; exact hlt) (ys[k] % d) (k : Int) (by rw [restsOf_at d ys k hlt, getD_of_lt ys k hlt]) (by rw [restsOf_at d ys k hlt])
      have hst2 := (hst.kept (hr1.stored (k * 2) (.int .i64 (ys[k] % d))).2 (.inr (fun e => by have e' : w.heap.size = wm.heap.size := Option.some.inj e; omega))).kept ((hr1.stored (k * 2) (.int .i64 (ys[k] % d))).1.stored (k * 2 + 1) (.int .i64 (k : Int))).2 (.inr (fun e => by have e' : w.heap.size = wm.heap.size := Option.some.inj e; omega))
      have hbel' := ((hbel.setCell (p := ⟨w.heap.size, k, none⟩) (Nat.le_refl _) (.int .i64 (ys[k] / d))).setCell (p := ⟨wm.heap.size, k * 2, none⟩) (by show w.heap.size ≤ wm.heap.size; omega) (.int .i64 (ys[k] % d))).setCell (p := ⟨wm.heap.size, k * 2 + 1, none⟩) (by show w.heap.size ≤ wm.heap.size; omega) (.int .i64 (k : Int))
      have H := Lib.hid (And.intro hst2 (And.intro hr2 hbel'))
      clear hst hgr hr1 hr2 hst2 hbel' hu hr hbel
      go_wp2
      go_roundw
      case rel => exact ⟨k + 1, by omega, by go_num, H.out.1, H.out.2.1, H.out.2.2⟩
      case measure => simp [intOf]; omega
    · obtain rfl : k = ys.length := by omega
      have hU := fill_end hu HQ.out
      have hP := prow_end HR.out hr
      have hgw : wm.heap.size < wr.heap.size := (hr.lt wm.heap.size rfl).2
      have HP := Lib.hid hP
      have HU := Lib.hid hU
      have hb1 : hi ≤ wr.heap.size := by omega
      have HB := Lib.hid hbel
      clear hu hr hP hU hbel
      go_wp2_with fail
      have hso := sortRests_any wm.heap.size ys.length (restsOf d ys) wr HP.out hgw (by rw [HR.out]; omega)
      rw [HR.out] at hso
      refine hso.mono ?_
      rintro e w2 ⟨rfl, rs, hp, hpw, hprs, hchg⟩
      obtain ⟨hst, hpl⟩ := sortTo_of hp hpw
      have hrl : rs.length = ys.length := by rw [hp.length_eq, restsOf_length]
      have HRL := Lib.hid hrl
      obtain ⟨ps, hps⟩ : ∃ ps, ps = rs.map fun x => x.2.toNat := ⟨_, rfl⟩
      rw [← hps] at hst hpl
      have hU2 := HU.out.just.chg hchg (by omega) (.inl (by omega))
      have hB2 := HB.out.trans (hchg.below (B := w.heap.size) (by omega) (by omega))
      have hz2 : wm.heap.size < w2.heap.size := Nat.lt_of_lt_of_le hgw hchg.size
      have hl := left_len hd1 HS.out
      have HST := Lib.hid hst
      have HPL := Lib.hid hpl
      have hsu := sumOf_any (some ⟨w.heap.size, 0, none⟩) ys.length (quos d ys) w2 _ _ hU2.ints (quos_small hd1 h4 HY.out)
      rw [HQ.out] at hsu
      obtain ⟨Q, hQ⟩ : ∃ Q, Q = (quos d ys).sum := ⟨_, rfl⟩
      rw [← hQ] at hsu hl
      obtain ⟨left, hleft⟩ := Int.eq_ofNat_of_zero_le hl.1
      have hwl : IntKind.i64.wrap (E - Q) = (left : Int) := by rw [hleft]; exact IntWalk.i64_in _ (by omega)
      have hl0 : (0 : Int) ≤ (left : Int) := by omega
      have hl1 : (left : Int) ≤ (ys.length : Int) := by omega
      have hl2 : ¬ ((ys.length : Int) < (left : Int)) := by omega
      have hl3 : left ≤ ys.length := by omega
      have HW : Hid ((left : Int) = E - (quos d ys).sum) := by show _ = _; rw [← hQ]; exact hleft.symm
      have HB2 := Lib.hid hB2
      clear hB2 hQ hleft hl hpw hp hps hst hpl hrl hchg
      go_wp2_with fail
      refine hsu.mono ?_
      rintro e w' ⟨rfl, rfl⟩
      clear hsu hso
      go_wp2
      go_loopw [50] (fun i wr => ∃ k : Nat, k ≤ left ∧ i = .int .i64 k ∧ Own wr w.heap.size (w.heap.size + 1) (some ⟨w.heap.size, 0, none⟩) (bumpTo (quos d ys) ps k) ∧ Prs wr wm.heap.size rs ∧ Below w.heap.size w wr ∧ wm.heap.size < wr.heap.size) (fun i _ => left - (intOf i).toNat)
      case atStart => exact ⟨0, Nat.zero_le _, rfl, hU2, hprs, HB2.out, hz2⟩
      case round =>
        obtain ⟨k, hk, rfl, hu, hr, hbel, hz⟩ := hrel
        clear hU2 hprs HB2 hz2
        by_cases hlk : k < left
        · have hkn : k < ys.length := by omega
          have hpk := HST.out.lt k hkn
          have hx2 := HPL.out k hkn
          obtain ⟨hc1, hc2⟩ := hr.at_ k (by rw [HRL.out]; exact hkn)
          rw [hx2] at hc2
          have hbv := bump_getD (zs := negs d ys) (qs := quos d ys) (ps := ps) (by rw [negs_length]; exact HST.out) (by rw [HQ.out, negs_length]) k (by rw [negs_length]; omega) (ps.getD k 0) (by rw [negs_length]; exact hpk)
          have hqb := quos_bd hd1 HY.out (ps.getD k 0) hpk
          have hlen : (bumpTo (quos d ys) ps k).length = ys.length := by rw [bump_length, HQ.out]
          have hbk : bumpTo (quos d ys) ps (k + 1) = (bumpTo (quos d ys) ps k).set (ps.getD k 0) ((bumpTo (quos d ys) ps k).getD (ps.getD k 0) 0 + 1) := rfl
          have HBK := Lib.hid hbk
          clear hbk hx2
          generalize hpe : ps.getD k 0 = p at hpk hc2 hbv hqb HBK
          have hcu : wr.cell? ⟨w.heap.size, p, none⟩ = some (.int .i64 ((bumpTo (quos d ys) ps k).getD p 0)) ∧ wr.frozen? ⟨w.heap.size, p, none⟩ = false := by
            obtain ⟨b, o, e, _, _, hc, hf⟩ := hu.at_ (k := p) (by rw [hlen]; exact hpk)
            cases e
            rw [Nat.zero_add] at hc hf
            rw [getD_of_lt _ p (by rw [hlen]; exact hpk)]
            exact ⟨hc, hf⟩
          obtain ⟨hcu1, hcu2⟩ := hcu
          have hvb : 0 ≤ (bumpTo (quos d ys) ps k).getD p 0 ∧ (bumpTo (quos d ys) ps k).getD p 0 ≤ 100001 := by rw [hbv]; split <;> omega
          have HLB := Lib.hid hlen
          clear hbv hqb hlen
          generalize hve : (bumpTo (quos d ys) ps k).getD p 0 = v at hcu1 hvb HBK
          generalize hye : (rs.getD k (0, 0)).1 = y1 at hc1
          clear hye hpe
          have hwv : IntKind.i64.wrap (v + 1) = v + 1 := IntWalk.i64_in _ (by omega)
          have hp0 : (0 : Int) ≤ (p : Int) := by omega
          have hp1 : (p : Int) < (ys.length : Int) := by omega
          have hk1 : (k : Int) < (ys.length : Int) := by omega
          have hw1 : w.heap.size < wr.heap.size := by omega
          have hst := hu.stored (j := p) (by rw [HLB.out]; exact hpk) (v + 1)
          rw [Nat.zero_add, ← HBK.out] at hst
          have o1 := hst.alloc (by rw [set_size]; omega) (.cells #[.int .i64 y1, .int .i64 (p : Int)] 70)
          have r1 := (hr.chg (Chg.setCell (lo := w.heap.size) (hi := w.heap.size + 1) wr (p := ⟨w.heap.size, p, none⟩) ⟨Nat.le_refl _, Nat.lt_succ_self _⟩ (.int .i64 (v + 1))) hz (by omega)).chg (Chg.alloc (lo := 0) (hi := 0) _ (.cells #[.int .i64 y1, .int .i64 (p : Int)] 70)) (by rw [set_size]; exact hz) (by omega)
          have b1 := (hbel.setCell (p := ⟨w.heap.size, p, none⟩) (Nat.le_refl _) (.int .i64 (v + 1))).alloc (by rw [set_size]; omega) (.cells #[.int .i64 y1, .int .i64 (p : Int)] 70)
          have z1 : wm.heap.size < ((wr.setCell ⟨w.heap.size, p, none⟩ (.int .i64 (v + 1))).alloc (.cells #[.int .i64 y1, .int .i64 (p : Int)] 70)).heap.size := by rw [hsz, set_size]; omega
          have H := Lib.hid (And.intro o1 (And.intro r1 (And.intro b1 z1)))
          clear o1 r1 b1 z1 hst hu hr hbel
          go_wp2
          go_roundw
          case rel => exact ⟨k + 1, by omega, by go_num, H.out.1, H.out.2.1, H.out.2.2.1, H.out.2.2.2⟩
          case measure => simp [intOf]; omega
        · obtain rfl : k = left := by omega
          have hwh := bump_whole HST.out k HW.out hl3
          rw [hwh] at hu
          have hol : Own wr w.heap.size wr.heap.size (some ⟨w.heap.size, 0, none⟩) (wholeRow d E ys) := hu.more (Nat.le_refl _) (by omega)
          have H := Lib.hid (And.intro hol hbel)
          clear hu hr hbel hol hwh
          go_wp2
          go_ret
          exact ⟨some ⟨w.heap.size, 0, none⟩, ys.length, by rw [wholeRow_length]; rfl, H.out.1, H.out.2⟩

end Go.Proofs.Ytdhbeodgebdjjaa
