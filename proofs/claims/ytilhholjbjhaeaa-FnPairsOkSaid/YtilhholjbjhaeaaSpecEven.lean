/-
  Even awards of parts, as the given package finds them: the row, its level, and whether it is whole. No condition but claims in parts and an estate that they cover.
-/
import Derived.Test.YtilhholjbjhaeaaSpecSort
import Derived.Test.YtilhholjbjhaeaaNamedPure
import Derived.Test.YtilhholjbjhaeaaLevel
import Derived.Deep.RegionHeld3
namespace Go.Proofs.Ytilhholjbjhaeaa
open Go.RowKit

theorem l2Sorted_is (A : Option Addr) (c : Nat) (xs : List Int) (w : World) (lo hi : Nat) (h : Ints w lo hi A xs) (hh : hi ≤ w.heap.size) (hl : xs.length ≤ 1000) :
    Calls Try.prog 44 #[.slice A xs.length c] w fun e w' => ∃ A' c', ∃ ps : List Nat, e = .returned (.slice A' xs.length c') ∧ Own w' w.heap.size w'.heap.size A' (ofN ps) ∧ SortTo xs ps xs.length ∧ Below w.heap.size w w' :=
  (l2Sorted_any A c xs w lo hi h hh hl).mono fun _ _ ⟨A', c', ps, h1, h2, h3, h4⟩ => ⟨A', c', ps, by rw [h1, h3.len], h2, h3, h4⟩
theorem vals_perm {xs : List Int} {ps : List Nat} (h : SortTo xs ps xs.length) : (valsAt xs ps).Perm xs := by
  have e : valsAt xs (List.range xs.length) = xs := by
    apply List.ext_getElem (by simp [valsAt])
    intro j hj hj'
    simp [valsAt, List.getD, List.getElem?_eq_getElem hj']
  have p : (valsAt xs ps).Perm (valsAt xs (List.range xs.length)) := h.1.map _
  rw [e] at p
  exact p
theorem vals_srt {xs : List Int} {ps : List Nat} (h : SortTo xs ps xs.length) : srt xs = valsAt xs ps := srt_of (vals_perm h) h.2.1
theorem srt_at {xs : List Int} {ps : List Nat} (h : SortTo xs ps xs.length) (k : Nat) (hk : k < (srt xs).length) : (srt xs)[k] = xs.getD (ps.getD k 0) 0 := by
  have hk' : k < ps.length := by rw [h.len, ← srt_length xs]; exact hk
  have e := vals_srt h
  have e2 := congrArg (fun l : List Int => l[k]?) e
  rw [List.getElem?_eq_getElem hk, List.getElem?_eq_getElem (by rw [valsAt_length]; exact hk')] at e2
  injection e2 with e2
  rw [e2, valsAt_getElem xs ps k hk']
theorem own_below {w w' : World} {B : Nat} {e : TypeId} {v : Value} {n : Nat} {xs : List Value} (h : w.ownsRow B e 1 v n xs) (hb : Below w.heap.size w w') : w'.ownsRow B e 1 v n xs :=
  h.kept (row := none) ⟨hb.os, hb.tape, hb.output, hb.size, fun i hi _ => hb.block i hi⟩ (by cases hv : v.ownBlock <;> simp)
/-- Places that are each once: a row that is filled there. -/
theorem put_at (T : List Int) (ps : List Nat) (n : Nat) (hn : ps.Nodup) : ∀ k, k ≤ ps.length → (∀ j, j < k → ps.getD j 0 < n) → ∀ j, j < k → (placed T (ofN ps) n k).getD (ps.getD j 0) 0 = T.getD j 0
  | k + 1, hk, hlt, j, hj => by
    have e : ((ofN ps).getD k 0).toNat = ps.getD k 0 := by rw [ofN_getD ps k (by omega), Int.toNat_natCast]
    rw [placed, e]
    by_cases ejk : j = k
    · subst ejk
      rw [getD_set_same _ _ _ _ (by rw [placed_length]; exact hlt j (by omega))]
    · have hne : ps.getD k 0 ≠ ps.getD j 0 := by
        intro e2
        have h1 : ps.getD k 0 = ps[k] := by simp [List.getD, List.getElem?_eq_getElem (show k < ps.length by omega)]
        have h2 : ps.getD j 0 = ps[j] := by simp [List.getD, List.getElem?_eq_getElem (show j < ps.length by omega)]
        rw [h1, h2] at e2
        exact ejk ((List.getElem_inj hn).1 e2).symm
      rw [getD_set_other _ _ _ _ _ hne]
      exact put_at T ps n hn k (by omega) (fun i hi => hlt i (by omega)) j (by omega)
theorem put_even {xs : List Int} {e : Int} {ps : List Nat} (h : SortTo xs ps xs.length) : placed (lrow (srt xs) e) (ofN ps) xs.length xs.length = evenOf xs e := by
  have hn : ps.Nodup := h.1.nodup_iff.2 List.nodup_range
  have hl := h.len
  apply List.ext_getElem (by rw [placed_length, evenOf_length])
  intro p hp hp'
  have hpx : p < xs.length := by rw [placed_length] at hp; exact hp
  obtain ⟨j, hj, rfl⟩ := List.mem_iff_getElem.1 (h.1.mem_iff.2 (List.mem_range.2 hpx))
  have hjn : j < xs.length := by omega
  have e1 := put_at (lrow (srt xs) e) ps xs.length hn xs.length (by omega) (fun i hi => h.lt i hi) j hjn
  have hjp : ps.getD j 0 = ps[j] := by simp [List.getD, List.getElem?_eq_getElem hj]
  rw [hjp, getD_at _ _ hp] at e1
  rw [e1]
  have hS : j < (srt xs).length := by rw [srt_length]; exact hjn
  have e2 : (lrow (srt xs) e).getD j 0 = min (srt xs)[j] (evenLev xs e) := by
    rw [lrow_eq _ _ 0 (srt_sorted xs)]
    simp only [List.getD, List.getElem?_map, List.getElem?_eq_getElem hS, Option.map_some, Option.getD_some]
    rfl
  rw [e2, srt_at h j hS, hjp, getD_at _ _ hpx]
  simp [evenOf]

/-- What the loop keeps: as the program's, and what the others get. -/
def EvAt (xs : List Int) (e : Int) (k : Nat) (L left : Int) : Prop := LevAt xs e k L left ∧ lrow ((srt xs).drop k) left = (lrow (srt xs) e).drop k
theorem chg_drew {lo hi : Nat} {a b : World} (h : Chg lo hi a b) : Chg lo hi a b.drew := ⟨h.os, h.tape, h.output, h.size, h.block⟩
theorem evAt_0 {xs : List Int} {e : Int} (h : partB xs = true) (h0 : 0 ≤ e) (h1 : e ≤ xs.sum) : EvAt xs e 0 0 e := ⟨levAt_0 h h0 h1, by simp⟩
theorem drop_getD (T : List Int) (k : Nat) (v : Int) (vs : List Int) (h : T.drop k = v :: vs) : T.getD k 0 = v ∧ T.drop (k + 1) = vs := by
  constructor
  · have := congrArg (fun l : List Int => l[0]?) h
    simp only [List.getElem?_drop, Nat.add_zero, List.getElem?_cons_zero] at this
    simp [List.getD, this]
  · rw [← List.drop_drop, h]; rfl
theorem lrow_drop (S : List Int) (k : Nat) (h : k < S.length) (left : Int) : lrow (S.drop k) left =
    if left < S[k] * ((S.length : Int) - (k : Int)) then List.replicate (S.length - k) (left / ((S.length : Int) - (k : Int))) else S[k] :: lrow (S.drop (k + 1)) (left - S[k]) := by
  rw [List.drop_eq_getElem_cons h]
  have e : ((S.drop (k + 1)).length : Int) + 1 = (S.length : Int) - (k : Int) := by rw [List.length_drop]; omega
  have e' : (S.drop (k + 1)).length + 1 = S.length - k := by rw [List.length_drop]; omega
  show (if left < S[k] * (((S.drop (k + 1)).length : Int) + 1) then List.replicate ((S.drop (k + 1)).length + 1) (left / (((S.drop (k + 1)).length : Int) + 1)) else _) = _
  rw [e, e']
theorem evAt_next {xs : List Int} {e : Int} {k : Nat} {L left : Int} (h : EvAt xs e k L left) (hp : partB xs = true) (hk : k < (srt xs).length) (hg : ¬ left < (srt xs)[k] * (((srt xs).length : Int) - (k : Int))) :
    EvAt xs e (k + 1) (srt xs)[k] (left - (srt xs)[k]) ∧ (lrow (srt xs) e).getD k 0 = (srt xs)[k] := by
  have h2 := h.2
  rw [lrow_drop _ k hk, if_neg hg] at h2
  obtain ⟨h3, h4⟩ := drop_getD _ _ _ _ h2.symm
  exact ⟨⟨levAt_next h.1 hp hk hg, h4.symm⟩, h3⟩
theorem evAt_stop {xs : List Int} {e : Int} {k : Nat} {L left : Int} (h : EvAt xs e k L left) (hk : k < (srt xs).length) (hg : left < (srt xs)[k] * (((srt xs).length : Int) - (k : Int))) :
    ∀ m, k ≤ m → m < (srt xs).length → (lrow (srt xs) e).getD m 0 = left / (((srt xs).length : Int) - (k : Int)) := fun m h1 h3 => by
  have h2 := h.2
  rw [lrow_drop _ k hk, if_pos hg] at h2
  have := congrArg (fun l : List Int => l[m - k]?) h2
  simp only [List.getElem?_drop, List.getElem?_replicate, if_pos (show m - k < (srt xs).length - k by omega), show k + (m - k) = m by omega] at this
  simp [List.getD, ← this]
theorem evAt_le {xs : List Int} {e : Int} {k : Nat} {L left : Int} (h : EvAt xs e k L left) (hk : k < (srt xs).length) : 0 ≤ L ∧ L ≤ (srt xs)[k] :=
  ⟨h.1.2.2.2.1, h.1.2.2.2.2 _ (by rw [List.drop_eq_getElem_cons hk]; exact List.mem_cons_self)⟩

/-- What a function that hands even awards, their level, and whether they are whole, back leaves. -/
def RetEven (w : World) (xs : List Int) (e : Int) (en : Ending) (w' : World) : Prop :=
  ∃ A c, en = .returned (.tuple #[.slice A (evenOf xs e).length c, .int .i64 (evenLev xs e), .bool (evenOk xs e)]) ∧ Own w' w.heap.size w'.heap.size A (evenOf xs e) ∧ Below w.heap.size w w'

theorem ret_three {w w' : World} {xs : List Int} {e a : Int} {b : Bool} {G : Nat} (hG : w.heap.size ≤ G) (how : Own w' G w'.heap.size (some ⟨G, 0, none⟩) (evenOf xs e)) (hb : Below w.heap.size w w') (h1 : evenLev xs e = a) (h2 : evenOk xs e = b) :
    RetEven w xs e (.returned (.tuple #[.slice (some ⟨G, 0, none⟩) xs.length xs.length, .int .i64 a, .bool b])) w' :=
  ⟨some ⟨G, 0, none⟩, xs.length, by rw [h1, h2, evenOf_length], how.more hG (Nat.le_refl _), hb⟩

set_option maxRecDepth 10000 in
set_option maxHeartbeats 4000000 in
theorem l2Even_any (A : Option Addr) (c : Nat) (xs : List Int) (e : Int) (w : World) (lo hi : Nat) (h : Ints w lo hi A xs) (hh : hi ≤ w.heap.size) (hp : partB xs = true) (h0 : 0 ≤ e) (h1 : e ≤ xs.sum) :
    Calls Try.prog 41 #[.slice A xs.length c, .int .i64 e] w (RetEven w xs e) := by
  obtain ⟨i0, hi0, hq0, hq1, hq2⟩ := info_parts info_int
  have HP := Lib.hid hp
  have hbd := (partB_iff xs).1 hp
  have hn : 0 < xs.length := hbd.1
  have hn4 : xs.length ≤ 4 := hbd.2.1
  have hat := evAt_0 hp h0 h1
  have HL := Lib.hid (srt_length xs)
  clear hbd hp
  go_enter Try.func41, Try.ntmps41
  go_wp2_with (at_make; refine wpList_make_full _ rfl _ _ _ rfl w.heap.size 3 i0 _ 1 Try.underlying29 hi0 hq0 hq1 .i64 .i64 xs.length xs.length xs.length rfl rfl rfl rfl (by rw [hq2]; omega) (by unfold maxLen; omega) (Nat.le_refl _) ?_; intro wm hownm hgrowm; have bm : Below w.heap.size w wm := (Below.refl _ _).grown hgrowm (Nat.le_refl _) (by intro k hk; cases hk); clear hgrowm; have zm := bm.size)
  have zG : w.heap.size < wm.heap.size := (hownm.lt _ rfl).2
  refine (l2Sorted_is A c xs wm lo hi (h.below bm hh) (by omega) (by omega)).mono ?_
  rintro en w2 ⟨A2, c2, ps, rfl, ho2, hps, hb2⟩
  have hown2 := placed_start (xs := lrow (srt xs) e) (ys := ofN ps) (own_below hownm hb2)
  have z2 := hb2.size
  have hlt := Lib.hid (fun j (hj : j < xs.length) => hps.lt j hj)
  have HPS := Lib.hid hps
  have hoN : (ofN ps).length = xs.length := by rw [ofN_length, hps.len]
  have HON := Lib.hid hoN
  have k2 := (h.below bm hh).below hb2 (by omega)
  have q2 := ho2.ints
  have HB2 := Lib.hid (bm.trans (hb2.mono (by omega)))
  clear hownm bm hb2 ho2 h hps hoN h0 h1
  go_wp2
  go_loopw [9, 10, 11] (fun lf lv i wr => ∃ k : Nat, ∃ L left : Int, k ≤ xs.length ∧ i = .int .i64 k ∧ lf = .int .i64 left ∧ lv = .int .i64 L ∧ EvAt xs e k L left ∧ wr.ownsRow w.heap.size 3 1 (.slice (some ⟨w.heap.size, 0, none⟩) xs.length xs.length) xs.length (ints (placed (lrow (srt xs) e) (ofN ps) xs.length k)) ∧ Chg w.heap.size (w.heap.size + 1) w2 wr) (fun _ _ i _ => xs.length - (intOf i).toNat)
  case atStart => exact ⟨0, 0, e, Nat.zero_le _, rfl, rfl, rfl, hat, hown2, Chg.refl _ _ _⟩
  case round =>
    obtain ⟨k, L, left, hk, rfl, rfl, rfl, hL, hown, hch⟩ := hrel
    obtain ⟨wo, rfl⟩ : ∃ x, x = wr := ⟨_, rfl⟩
    clear hat hown2
    have zr := hch.size
    by_cases hlk : k < xs.length
    · have hlS : k < (srt xs).length := by rw [HL.out]; exact hlk
      obtain ⟨b, o, rfl, hb1, hb2, hcx⟩ := (k2.chg hch (by omega) (.inl (by omega))) (by omega)
      obtain ⟨b', o', rfl, hb1', hb2', hco⟩ := (q2.chg hch (Nat.le_refl _) (.inr (by omega))) (by rw [HON.out]; omega)
      have hp0 := hlt.out k hlk
      have HCX := Lib.hid hcx
      have HCO := Lib.hid hco
      have ck := hco k (by rw [HON.out]; exact hlk)
      rw [ofN_getD ps k (by rw [HPS.out.len]; exact hlk)] at ck
      have cx := hcx (ps.getD k 0) hp0
      rw [← srt_at HPS.out k hlS] at cx
      have hv := srt_rg HP.out k hlS
      have hm := prod_bd (srt xs)[k] xs.length k hv.1 hv.2 hlk hn4
      have hle := evAt_le hL hlS
      have hl0 := hL.1.2.1
      have hl1 := hL.1.2.2.1
      clear hcx hco
      have hk0 : (0 : Int) ≤ (k : Int) := by omega
      have hk1 : (k : Int) < (xs.length : Int) := by omega
      have hp1 : ((ps.getD k 0 : Nat) : Int) < (xs.length : Int) := by omega
      have hp2 : (0 : Int) ≤ ((ps.getD k 0 : Nat) : Int) := by omega
      by_cases hg : left < (srt xs)[k] * ((xs.length : Int) - (k : Int))
      · have HS := Lib.hid (evAt_stop hL hlS (by rw [HL.out]; exact hg))
        have HE := Lib.hid (levAt_end hL.1 hlS (by rw [HL.out]; exact hg))
        clear hL
        generalize (srt xs)[k] = v at cx hv hm hg hle
        generalize hpe : ps.getD k 0 = p at hp0 ck cx hp1 hp2
        clear hpe
        have hne : ((xs.length : Int) - (k : Int) == 0) = false := beq_eq_false_iff_ne.2 (by omega)
        have hpo : 0 < (xs.length : Int) - (k : Int) := by omega
        have hne2 : ((xs.length : Int) - (k : Int) = 0) = False := eq_false (by omega)
        have hq : IntKind.i64.wrap (left.tdiv ((xs.length : Int) - (k : Int))) = left / ((xs.length : Int) - (k : Int)) := by
          rw [Int.tdiv_eq_ediv_of_nonneg hl0]
          have := Int.ediv_nonneg hl0 (Int.le_of_lt hpo)
          have := Int.ediv_le_self ((xs.length : Int) - (k : Int)) hl0
          exact IntWalk.i64_in _ (by omega)
        have hr : IntKind.i64.wrap (left.tmod ((xs.length : Int) - (k : Int))) = left % ((xs.length : Int) - (k : Int)) := by
          rw [Int.tmod_eq_emod_of_nonneg hl0]
          have := Int.emod_nonneg left (by omega : (xs.length : Int) - (k : Int) ≠ 0)
          have := Int.emod_lt_of_pos left hpo
          exact IntWalk.i64_in _ (by omega)
        go_wp2
        go_loopw [13] (fun j wi => ∃ m : Nat, k ≤ m ∧ m ≤ xs.length ∧ j = .int .i64 m ∧ wi.ownsRow w.heap.size 3 1 (.slice (some ⟨w.heap.size, 0, none⟩) xs.length xs.length) xs.length (ints (placed (lrow (srt xs) e) (ofN ps) xs.length m)) ∧ Chg w.heap.size (w.heap.size + 1) w2 wi) (fun j _ => xs.length - (intOf j).toNat)
        case atStart => exact ⟨k, Nat.le_refl _, by omega, rfl, hown, hch⟩
        case round =>
          obtain ⟨m, hkm, hmn, rfl, hown3, hch3⟩ := hrel
          obtain ⟨wi, rfl⟩ : ∃ x, x = wr := ⟨_, rfl⟩
          clear hown ck cx
          by_cases hlm : m < xs.length
          · have hpm := hlt.out m hlm
            have cm : wi.cell? ⟨b', o' + m, none⟩ = some (.int .i64 ((ps.getD m 0 : Nat) : Int)) := by
              have e1 := HCO.out m (by rw [HON.out]; exact hlm)
              rw [ofN_getD ps m (by rw [HPS.out.len]; exact hlm)] at e1
              obtain ⟨b3, o3, e3, _, _, hco3⟩ := (q2.chg hch3 (Nat.le_refl _) (.inr (by omega))) (by rw [HON.out]; omega)
              cases e3
              have e4 := hco3 m (by rw [HON.out]; exact hlm)
              rw [ofN_getD ps m (by rw [HPS.out.len]; exact hlm)] at e4
              exact e4
            obtain ⟨u, hd, hf⟩ := placed_cell hown3 hpm
            have hst := placed_more hown3 (ofN_getD ps m (by rw [HPS.out.len]; exact hlm)) (left / ((xs.length : Int) - (k : Int))) (by rw [← HL.out]; exact HS.out m hkm (by rw [HL.out]; exact hlm))
            have hch4 := hch3.trans (Chg.setCell wi (lo := w.heap.size) (hi := w.heap.size + 1) (p := ⟨w.heap.size, ps.getD m 0, none⟩) ⟨Nat.le_refl _, Nat.lt_succ_self _⟩ (.int .i64 (left / ((xs.length : Int) - (k : Int)))))
            have H := Lib.hid (And.intro hst hch4)
            clear hst hch4 hown3 hch3
            have hm0 : (0 : Int) ≤ (m : Int) := by omega
            have hm1 : (m : Int) < (xs.length : Int) := by omega
            generalize ps.getD m 0 = pm at hpm cm hd hf H
            have hpm1 : (pm : Int) < (xs.length : Int) := by omega
            have hpm0 : (0 : Int) ≤ (pm : Int) := by omega
            go_wp2_with fail
            go_region_law (fail)
            all_goals
              go_wp2
              go_roundw
              case rel => exact ⟨m + 1, by omega, by omega, by go_num, H.out.1, by first | exact H.out.2 | exact chg_drew H.out.2⟩
              case measure => simp [intOf]; omega
          · obtain rfl : m = xs.length := by omega
            have how := placed_own hown3
            rw [put_even HPS.out] at how
            have H := Lib.hid (And.intro how (HB2.out.trans (hch3.below (B := w.heap.size) (Nat.le_refl _) HB2.out.size)))
            clear how hown3 hch3
            go_wp2
            go_quiet (fail)
            go_wp2
            go_ret3
            exact ret_three (Nat.le_refl _) H.out.1 (below_drewN H.out.2 _) (by rw [HE.out.1, HL.out]) (by rw [HE.out.2, HL.out])
      · have hN := evAt_next hL HP.out hlS (by rw [HL.out]; exact hg)
        have HN := Lib.hid hN.1
        obtain ⟨u, hd, hf⟩ := placed_cell hown hp0
        have hst := placed_more hown (ofN_getD ps k (by rw [HPS.out.len]; exact hlk)) ((srt xs)[k]) hN.2
        have hch4 := hch.trans (Chg.setCell wo (lo := w.heap.size) (hi := w.heap.size + 1) (p := ⟨w.heap.size, ps.getD k 0, none⟩) ⟨Nat.le_refl _, Nat.lt_succ_self _⟩ (.int .i64 ((srt xs)[k])))
        have H := Lib.hid (And.intro hst hch4)
        clear hst hch4 hown hch hL hN
        generalize hvv : (srt xs)[k] = v at cx hv hm hg hle H HN
        generalize ps.getD k 0 = p at hp0 ck cx hp1 hp2 hd hf H
        have hbG : b ≠ w.heap.size := by omega
        have hbG' : b' ≠ w.heap.size := by omega
        have cx' : (wo.drew.setCell ⟨w.heap.size, p, none⟩ (.int .i64 v)).cell? ⟨b, o + p, none⟩ = some (.int .i64 v) := (World.cell?_setCell_other _ _ _ _ (by intro h'; injection h' with h' _; exact hbG h'.symm)).trans cx
        have ck' : (wo.drew.setCell ⟨w.heap.size, p, none⟩ (.int .i64 v)).cell? ⟨b', o' + k, none⟩ = some (.int .i64 (p : Int)) := (World.cell?_setCell_other _ _ _ _ (by intro h'; injection h' with h' _; exact hbG' h'.symm)).trans ck
        go_wp2_with fail
        go_region_held3 (fun w' => w'.cell? ⟨b', o' + k, none⟩ = some (.int .i64 (p : Int)) ∧ w'.cell? ⟨b, o + p, none⟩ = some (.int .i64 v)) (first | exact ⟨ck', cx'⟩ | go_keep) (fail)
        go_wp2
        go_roundw
        case rel => exact ⟨k + 1, v, left - v, by omega, by go_num, by first | rfl | go_num, congrArg (Value.int .i64) (by first | omega | (split <;> omega)), HN.out, H.out.1, by first | exact H.out.2 | exact chg_drew H.out.2⟩
        case measure => simp [intOf]; omega
    · obtain rfl : k = xs.length := by omega
      have how := placed_own hown
      rw [put_even HPS.out] at how
      have hL' : EvAt xs e (srt xs).length L left := by rw [HL.out]; exact hL
      have HE := Lib.hid (levAt_all hL'.1)
      have H := Lib.hid (And.intro how (HB2.out.trans (hch.below (B := w.heap.size) (Nat.le_refl _) HB2.out.size)))
      clear how hown hch hL hL'
      go_wp2
      go_ret3
      exact ret_three (Nat.le_refl _) H.out.1 H.out.2 HE.out.1 HE.out.2

end Go.Proofs.Ytilhholjbjhaeaa
