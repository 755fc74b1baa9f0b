/-
  Awards are drawn: at most five small numbers, in new memory; only the reader is written. No condition but a small case.
-/
import Derived.Test.YtilhholjbjhaeaaDrawO
import Derived.Test.YtilhholjbjhaeaaDraw3B
import Derived.Test.YtilhholjbjhaeaaNamedPure
import Derived.BigQuiet
namespace Go.Proofs.Ytilhholjbjhaeaa
open Go.RowKit

/-- What the drawing of awards leaves. -/
def AwardsTo (w : World) (R : Nat) (A : Option Addr) (c : Nat) (bs : List Int) (q : Nat) (e : Ending) (w' : World) : Prop :=
  ∃ A' c', ∃ ys : List Int, e = .returned (.slice A' ys.length c') ∧ Own w' w.heap.size w'.heap.size A' ys ∧ ys.length ≤ 5 ∧ (∀ y ∈ ys, -1 ≤ y ∧ y ≤ 1000) ∧ (∃ q', q' ≤ q + 20 ∧ Rd w' R A c bs q') ∧ Chg R (R + 1) w w'

/-- What holds while awards are drawn. -/
structure AMid (w : World) (R : Nat) (A : Option Addr) (c : Nat) (bs : List Int) (E : Int) (A1 : Option Addr) (c1 : Nat) (xs : List Int) (D : Option Addr) (os : List Int) (lo hi S Q : Nat) (ys : List Int) (wr : World) : Prop where
  box : Box wr w.heap.size (.int .i64 E) (.slice A1 xs.length c1)
  kx : Ints wr lo hi A1 xs
  ko : Ints wr (w.heap.size + 2) S D os
  row : wr.ownsRow (w.heap.size + 1) 3 1 (.slice (some ⟨w.heap.size + 1, 0, none⟩) xs.length xs.length) xs.length (ints ys)
  rd : ∃ q', q' ≤ Q ∧ Rd wr R A c bs q'
  ch : Chg R (R + 1) w wr
  sz : S ≤ wr.heap.size
  sm : ∀ y ∈ ys, 0 ≤ y ∧ y ≤ 700
section
variable {w wr w' : World} {R : Nat} {A : Option Addr} {c : Nat} {bs : List Int} {E : Int} {A1 : Option Addr} {c1 : Nat} {xs : List Int} {D : Option Addr} {os : List Int} {lo hi S Q : Nat} {ys : List Int}
theorem AMid.len (h : AMid w R A c bs E A1 c1 xs D os lo hi S Q ys wr) : ys.length = xs.length := by have := h.row.1; rw [ints_length] at this; omega
theorem AMid.more {Q' : Nat} (h : AMid w R A c bs E A1 c1 xs D os lo hi S Q ys wr) (hq : Q ≤ Q') : AMid w R A c bs E A1 c1 xs D os lo hi S Q' ys wr :=
  ⟨h.box, h.kx, h.ko, h.row, by obtain ⟨q, h1, h2⟩ := h.rd; exact ⟨q, by omega, h2⟩, h.ch, h.sz, h.sm⟩
theorem AMid.drewN (h : AMid w R A c bs E A1 c1 xs D os lo hi S Q ys wr) (n : Nat) : AMid w R A c bs E A1 c1 xs D os lo hi S Q ys (wr.drewN n) :=
  ⟨⟨h.box.c0, h.box.c1, h.box.f0, h.box.f1, h.box.lt⟩, h.kx, h.ko, h.row, by obtain ⟨q, h1, h2⟩ := h.rd; exact ⟨q, h1, ⟨h2.s, h2.p, h2.f, h2.b, h2.lt⟩⟩, ⟨h.ch.os, h.ch.tape, h.ch.output, h.ch.size, h.ch.block⟩, h.sz, h.sm⟩
theorem AMid.pick {q' : Nat} (h : AMid w R A c bs E A1 c1 xs D os lo hi S Q ys wr) (hR : R < w.heap.size) (hlo : R + 1 ≤ lo) (hhi : hi ≤ w.heap.size) (hc : Chg R (R + 1) wr w') (rd : Rd w' R A c bs q') (hq : q' ≤ Q + 1) :
    AMid w R A c bs E A1 c1 xs D os lo hi S (Q + 1) ys w' := by
  have hz := h.ch.size
  have hs := h.sz
  exact ⟨h.box.chg hc (by omega), h.kx.chg hc (by omega) (.inr (by omega)), h.ko.chg hc hs (.inr (by omega)), own_kept h.row hc (by omega), ⟨q', hq, rd⟩, h.ch.trans hc, Nat.le_trans hs hc.size, h.sm⟩
theorem AMid.store {p : Nat} (h : AMid w R A c bs E A1 c1 xs D os lo hi S Q ys wr) (hR : R < w.heap.size) (hhi : hi ≤ w.heap.size) (v : Int) (hv : 0 ≤ v ∧ v ≤ 700) :
    AMid w R A c bs E A1 c1 xs D os lo hi S Q (ys.set p v) (wr.setCell ⟨w.heap.size + 1, p, none⟩ (.int .i64 v)) := by
  have hs := h.sz
  refine ⟨h.box.far (by show w.heap.size ≠ w.heap.size + 1; omega) _, h.kx.set_out (.inr (by show hi ≤ w.heap.size + 1; omega)) _, h.ko.set_out (.inl (by show w.heap.size + 1 < _; omega)) _, ?_, ?_, h.ch.set_new (by show w.heap.size ≤ w.heap.size + 1; omega) _, by simp [World.setCell]; exact hs, ?_⟩
  · rw [ints_set]; exact (h.row.stored p (.int .i64 v)).1
  · obtain ⟨q, h1, h2⟩ := h.rd; exact ⟨q, h1, h2.set_new (by show R < w.heap.size + 1; omega) _⟩
  · intro y hy
    rcases List.mem_or_eq_of_mem_set hy with hy | hy
    · exact h.sm y hy
    · rw [hy]; exact hv
end
theorem getD_rg {ys : List Int} {lo hi : Int} (h : ∀ y ∈ ys, lo ≤ y ∧ y ≤ hi) (h0 : lo ≤ 0 ∧ 0 ≤ hi) (p : Nat) : lo ≤ ys.getD p 0 ∧ ys.getD p 0 ≤ hi := by
  by_cases hp : p < ys.length
  · rw [getD_of_lt ys p hp]; exact h _ (List.getElem_mem hp)
  · simp [List.getD, List.getElem?_eq_none (Nat.le_of_not_lt hp)]; exact h0
theorem eighth (r v : Int) (h0 : 0 < r) (h1 : r ≤ 3000) (hv0 : 0 ≤ v) (hv : v < 9) : IntKind.i64.wrap (r * v) = r * v ∧ IntKind.i64.wrap ((r * v).tdiv 8) = r * v / 8 ∧ 0 ≤ r * v / 8 ∧ r * v / 8 ≤ r := by
  rcases (show v = 0 ∨ v = 1 ∨ v = 2 ∨ v = 3 ∨ v = 4 ∨ v = 5 ∨ v = 6 ∨ v = 7 ∨ v = 8 from by omega) with rfl | rfl | rfl | rfl | rfl | rfl | rfl | rfl | rfl <;>
    (refine ⟨IntWalk.i64_in _ (by omega), ?_, by omega, by omega⟩; rw [Int.tdiv_eq_ediv_of_nonneg (by omega)]; exact IntWalk.i64_in _ (by omega))

theorem l20Order_all (R : Nat) (A : Option Addr) (c : Nat) (bs : List Int) (q many : Nat) (w : World) (h : Rd w R A c bs q) (hm : many ≤ 5) (hl : bs.length ≤ 2000) (hq : q ≤ 100000) :
    Calls Try.prog 43 #[.pointer (some ⟨R, 0, none⟩), .int .i64 (many : Int), .int .i64 0] w fun e w' => ∃ A' c', ∃ os : List Int, e = .returned (.slice A' many c') ∧ Own w' w.heap.size w'.heap.size A' os ∧ os.length = many ∧ (∀ x ∈ os, 0 ≤ x ∧ x < (many : Int)) ∧ (∃ q', q' ≤ q + many + 1 ∧ Rd w' R A c bs q') ∧ Chg R (R + 1) w w' :=
  (l20Order_any R A c bs q many 0 w h hm (Int.le_refl _) (by omega) hl hq).mono fun _ _ ⟨A', c', os, h1, h2, _, h4, h5, h6⟩ => ⟨A', c', os, by rw [h1, (h4 rfl).1], h2, (h4 rfl).1, (h4 rfl).2, h5, h6⟩
theorem awards_end {w w' : World} {R : Nat} {A : Option Addr} {c : Nat} {bs : List Int} {q Q : Nat} {E : Int} {A1 : Option Addr} {c1 : Nat} {xs : List Int} {D : Option Addr} {os : List Int} {lo hi S : Nat} {ys : List Int} (h : AMid w R A c bs E A1 c1 xs D os lo hi S Q ys w') (hQ : Q ≤ q + 20) (hx : xs.length ≤ 5) :
    AwardsTo w R A c bs q (.returned (.slice (some ⟨w.heap.size + 1, 0, none⟩) xs.length xs.length)) w' := by
  have hl := h.len
  have hr := h.row
  rw [← hl] at hr
  obtain ⟨A', c', e, _, ho⟩ := own_of_row hr
  injection e with e1 e2 e3
  subst e1
  obtain ⟨q', h1, h2⟩ := h.rd
  exact ⟨some ⟨w.heap.size + 1, 0, none⟩, xs.length, ys, by rw [hl], ho.more (by omega) (Nat.le_refl _), by omega, fun y hy => by have := h.sm y hy; omega, ⟨q', by omega, h2⟩, h.ch⟩
theorem awards_minus {w w' : World} {R : Nat} {A : Option Addr} {c : Nat} {bs : List Int} {q Q : Nat} {E : Int} {A1 : Option Addr} {c1 : Nat} {xs : List Int} {D : Option Addr} {os : List Int} {lo hi S : Nat} {ys : List Int} (h : AMid w R A c bs E A1 c1 xs D os lo hi S Q ys w') (hQ : Q ≤ q + 20) (hx : xs.length ≤ 5) (hR : R < w.heap.size) (v : Int) (hv : -1 ≤ v ∧ v ≤ 1000) :
    AwardsTo w R A c bs q (.returned (.slice (some ⟨w.heap.size + 1, 0, none⟩) xs.length xs.length)) (w'.setCell ⟨w.heap.size + 1, 0, none⟩ (.int .i64 v)) := by
  have hl := h.len
  have hr := (h.row.stored 0 (.int .i64 v)).1
  rw [← ints_set] at hr
  have hl2 : (ys.set 0 v).length = xs.length := by simpa using hl
  rw [← hl2] at hr
  obtain ⟨A', c', e, _, ho⟩ := own_of_row hr
  injection e with e1 e2 e3
  subst e1
  obtain ⟨q', h1, h2⟩ := h.rd
  refine ⟨some ⟨w.heap.size + 1, 0, none⟩, xs.length, ys.set 0 v, by rw [hl2], ho.more (by omega) (Nat.le_refl _), by omega, fun y hy => ?_, ⟨q', by omega, h2.set_new (by show R < w.heap.size + 1; omega) _⟩, h.ch.set_new (by show w.heap.size ≤ w.heap.size + 1; omega) _⟩
  rcases List.mem_or_eq_of_mem_set hy with hy | hy
  · have := h.sm y hy; omega
  · rw [hy]; exact hv
theorem awards_rest {w w' : World} {R : Nat} {A : Option Addr} {c : Nat} {bs : List Int} {q Q m c2 : Nat} {E : Int} {A1 : Option Addr} {c1 : Nat} {xs : List Int} {D : Option Addr} {os : List Int} {lo hi S : Nat} {ys : List Int} {o2 : Nat} (h : AMid w R A c bs E A1 c1 xs D os lo hi S Q ys w') (hQ : Q ≤ q + 20) (hx : xs.length ≤ 5) (hm : m + 1 = xs.length) (ho : m = 0 ∨ o2 = 1) :
    AwardsTo w R A c bs q (.returned (.slice (some ⟨w.heap.size + 1, o2, none⟩) m c2)) w' := by
  have hl := h.len
  have hlt := (h.row.lt _ rfl).2
  obtain ⟨q', h1, h2⟩ := h.rd
  have hd : (ys.drop 1).length = m := by rw [List.length_drop]; omega
  refine ⟨some ⟨w.heap.size + 1, o2, none⟩, c2, ys.drop 1, by rw [hd], fun h0 => ?_, by omega, fun y hy => by have := h.sm y (List.mem_of_mem_drop hy); omega, ⟨q', by omega, h2⟩, h.ch⟩
  rw [hd] at h0
  have ho2 : o2 = 1 := by omega
  subst ho2
  refine ⟨w.heap.size + 1, 1, rfl, by omega, hlt, fun j hj => ?_, fun j hj => h.row.frozenAt (1 + j)⟩
  rw [hd] at hj
  rw [h.row.cellAt (1 + j) (by omega), ints_at ys (1 + j) (by omega)]
  simp [List.getD, Nat.add_comm]

set_option maxRecDepth 10000 in
set_option maxHeartbeats 8000000 in
theorem l20Awards_any (R : Nat) (A : Option Addr) (c : Nat) (bs : List Int) (q : Nat) (n : Int) (E : Int) (A1 : Option Addr) (c1 : Nat) (xs : List Int) (lo hi : Nat) (w : World) (h : Rd w R A c bs q) (hi1 : Ints w lo hi A1 xs) (hlo : R + 1 ≤ lo) (hhi : hi ≤ w.heap.size) (hx5 : xs.length ≤ 5) (hsm : Sm E xs)
    (hn : 0 ≤ n) (hn' : n ≤ 1000000) (hl : bs.length ≤ 2000) (hq : q ≤ 1000) :
    Calls Try.prog 33 #[.pointer (some ⟨R, 0, none⟩), .agg #[.int .i64 E, .slice A1 xs.length c1], .int .i64 n] w (AwardsTo w R A c bs q) := by
  obtain ⟨i0, hi0, hq0, hq1, hq2⟩ := info_parts info_int
  have hRw := h.lt
  have bx0 := Box.new w (.int .i64 E) (.slice A1 xs.length c1) 31
  have rd0 := h.alloc (.cells #[.int .i64 E, .slice A1 xs.length c1] 31)
  have k0 := hi1.alloc hhi (.cells #[.int .i64 E, .slice A1 xs.length c1] 31)
  have ch0 : Chg R (R + 1) w (w.alloc (.cells #[.int .i64 E, .slice A1 xs.length c1] 31)) := Chg.alloc _ _
  have hz0 := hsz w (.cells #[.int .i64 E, .slice A1 xs.length c1] 31)
  have hsm0 := hsm.1
  have hsm1 := hsm.2.1
  obtain ⟨p0, p1⟩ := And.intro bx0.c0 bx0.c1
  go_enter Try.func33, Try.ntmps33
  go_wp2_with (at_make; refine wpList_make_full _ rfl _ _ _ rfl (w.alloc (.cells #[.int .i64 E, .slice A1 xs.length c1] 31)).heap.size 3 i0 _ 1 Try.underlying29 hi0 hq0 hq1 .i64 .i64 xs.length xs.length xs.length rfl rfl rfl rfl (by rw [hq2]; omega) (by unfold maxLen; omega) (Nat.le_refl _) ?_; intro wm hownm hgrowm; have bm : Below (w.alloc (.cells #[.int .i64 E, .slice A1 xs.length c1] 31)).heap.size (w.alloc (.cells #[.int .i64 E, .slice A1 xs.length c1] 31)) wm := (Below.refl _ _).grown hgrowm (Nat.le_refl _) (by intro k hk; cases hk); clear hgrowm; have bxm := bx0.below bm (by omega); obtain ⟨r0, r1⟩ := And.intro bxm.c0 bxm.c1; have zm := bm.size; rw [hz0] at hownm zm; clear p0 p1)
  have zG : w.heap.size + 1 < wm.heap.size := (hownm.lt _ rfl).2
  refine (l20Order_all R A c bs q xs.length wm (rd0.below bm (by omega)) hx5 hl (by omega)).mono ?_
  rintro e w3 ⟨A3, c3, os, rfl, ho3, hoN, hos, ⟨q3, hq3, rd3⟩, hch3⟩
  have z3 := hch3.size
  have mid0 : AMid w R A c bs E A1 c1 xs A3 os lo hi w3.heap.size (q + 6) (placed [] [] xs.length 0) w3 :=
    ⟨bxm.chg hch3 (by omega), (k0.below bm (by omega)).chg hch3 (by omega) (.inr (by omega)), ho3.ints.more (by omega) (Nat.le_refl _), own_kept (placed_start hownm) hch3 (by omega), ⟨q3, by omega, rd3⟩, (ch0.trans (Chg.of_below bm)).trans hch3, Nat.le_refl _, fun y hy => by
      rw [placed] at hy
      have := (List.mem_replicate.1 hy).2
      omega⟩
  have HXS := Lib.hid hsm.2.2
  have HOS := Lib.hid hos
  clear bxm r0 r1 hownm bm k0 rd0 ch0 bx0 ho3 rd3 hch3 hos h hi1 hsm
  go_wp2
  go_loopw [8, 10] (fun lf t wr => ∃ T : Nat, ∃ L : Int, ∃ ys : List Int, T ≤ 2 ∧ t = .int .i64 T ∧ lf = .int .i64 L ∧ 0 ≤ L ∧ L ≤ 3000 ∧ AMid w R A c bs E A1 c1 xs A3 os lo hi w3.heap.size (q + 6 + 5 * T) ys wr) (fun _ t _ => 2 - (intOf t).toNat)
  case atStart => exact ⟨0, 48 * E, _, by omega, rfl, rfl, by omega, by omega, mid0⟩
  case round =>
    obtain ⟨T, L, ys, hT, rfl, rfl, hL0, hL1, hm⟩ := hrel
    clear mid0
    by_cases hlt : T < 2
    · have hT2 : (T : Int) < 2 := by omega
      have hT3 : decide ((T : Int) < 2) = true := by simp only [decide_eq_true_eq]; exact hT2
      go_wp2
      go_loopw [8, 11] (fun lf j wi => ∃ k : Nat, ∃ L2 : Int, ∃ ys2 : List Int, k ≤ xs.length ∧ j = .int .i64 k ∧ lf = .int .i64 L2 ∧ 0 ≤ L2 ∧ L2 ≤ 3000 ∧ AMid w R A c bs E A1 c1 xs A3 os lo hi w3.heap.size (q + 6 + 5 * T + k) ys2 wi) (fun _ j _ => xs.length - (intOf j).toNat)
      case atStart => exact ⟨0, L, ys, Nat.zero_le _, rfl, rfl, hL0, hL1, hm⟩
      case round =>
        obtain ⟨k, L2, ys2, hk, rfl, rfl, h0, h1, hm2⟩ := hrel
        obtain ⟨wi, rfl⟩ : ∃ x, x = wr := ⟨_, rfl⟩
        clear hm
        by_cases hlk : k < xs.length
        · obtain ⟨b', o', rfl, _, _, hco⟩ := hm2.ko.at_ (k := k) (by rw [hoN]; exact hlk)
          have hop0 := HOS.out _ (List.getElem_mem (show k < os.length by rw [hoN]; exact hlk))
          obtain ⟨p, hop⟩ : ∃ p : Nat, os[k]'(by rw [hoN]; exact hlk) = (p : Int) := ⟨_, (Int.toNat_of_nonneg hop0.1).symm⟩
          rw [hop] at hco hop0
          have hpx : p < xs.length := by omega
          obtain ⟨b, o, rfl, _, _, hcx⟩ := hm2.kx.at_ (k := p) hpx
          have hxr := HXS.out _ (List.getElem_mem hpx)
          have hcy : wi.cell? ⟨w.heap.size + 1, p, none⟩ = some (.int .i64 (ys2.getD p 0)) := by rw [hm2.row.cellAt p (by omega), ints_at _ _ (by rw [hm2.len]; omega)]
          have hyr := getD_rg hm2.sm (by omega) p
          obtain ⟨y, hy⟩ : ∃ y, y = ys2.getD p 0 := ⟨_, rfl⟩
          rw [← hy] at hcy hyr
          have HYP : Hid (ys2.getD p 0 = y) := hy.symm
          clear hy
          generalize xs[p] = x at hcx hxr
          have hb1 := hm2.box.c1
          have hw1 : IntKind.i64.wrap (48 * x) = 48 * x := IntWalk.i64_in _ (by omega)
          have hw2 : IntKind.i64.wrap (48 * x - y) = 48 * x - y := IntWalk.i64_in _ (by omega)
          have hk0 : (0 : Int) ≤ (k : Int) := by omega
          have hk1 : (k : Int) < (xs.length : Int) := by omega
          have hp0 : (0 : Int) ≤ (p : Int) := by omega
          have hp1 : (p : Int) < (xs.length : Int) := by omega
          have hmA := Lib.hid hm2
          clear hm2
          by_cases hmin : 48 * x - y ≤ L2
          · go_wp2_with fail
            go_quiet (fail)
            generalize hW : World.drewN _ _ = W
            have hmW : AMid w R A c bs E (some ⟨b, o, none⟩) c1 xs (some ⟨b', o', none⟩) os lo hi w3.heap.size (q + 6 + 5 * T + k) ys2 W := by rw [← hW]; exact hmA.out.drewN _
            clear hW hmA hcx hcy hb1 hco
            by_cases hT0 : T = 0
            · have hdt : ((T : Int) == 0) = true := by rw [hT0]; rfl
              clear hT0
              by_cases hr0 : 0 < 48 * x - y
              · obtain ⟨q4, hq4, rd4⟩ := hmW.rd
                go_wp2_with fail
                refine (pick_to R A c bs q4 9 _ rd4 (by omega) (by omega) hl (by omega)).mono ?_
                rintro e w4 ⟨v, rfl, hv0, hv1, rd5, hch5⟩
                have hmX := hmW.pick hRw hlo hhi hch5 rd5 (by omega : q4 + 1 ≤ q + 6 + 5 * T + k + 1)
                obtain ⟨W, rfl⟩ : ∃ x, x = w4 := ⟨_, rfl⟩
                clear hmW rd4 rd5 hch5
                have hmW := hmX
                clear hmX
                obtain ⟨e1, e2, e4, e5⟩ := eighth (48 * x - y) v hr0 (by omega) hv0 hv1
                have e1' : IntKind.i64.wrap ((48 * x - y) * v) = (48 * x - y) * v := e1
                have e2' : IntKind.i64.wrap (((48 * x - y) * v).tdiv 8) = (48 * x - y) * v / 8 := e2
                generalize (48 * x - y) * v / 8 = r' at e2 e2' e4 e5
                by_cases hr9 : 0 < r'
                · have HY : Hid (0 ≤ y + r' ∧ y + r' ≤ 700) := by show _ ∧ _; omega
                  have hws : IntKind.i64.wrap (y + r') = y + r' := IntWalk.i64_in _ (by omega)
                  have H := Lib.hid (((hmW.drewN 1).store (p := p) hRw hhi (y + r') HY.out).more (by omega : q + 6 + 5 * T + k + 1 ≤ q + 6 + 5 * T + (k + 1)))
                  have g0 := hmW.row.frozenAt p
                  have g1 : W.cell? ⟨w.heap.size + 1, p, none⟩ = some (.int .i64 y) := by rw [hmW.row.cellAt p (by omega), ints_at _ _ (by rw [hmW.len]; omega), HYP.out]
                  obtain ⟨b3, o3, e3, _, _, g2⟩ := hmW.ko.at_ (k := k) (by rw [hoN]; exact hlk)
                  cases e3
                  rw [hop] at g2
                  clear hmW
                  go_wp2_with fail
                  go_region
                  all_goals
                    go_wp2
                    go_roundw
                    case rel => exact ⟨k + 1, L2 - r', ys2.set p (y + r'), by omega, by go_num, by first | rfl | go_num, by omega, by omega, H.out⟩
                    case measure => simp [intOf]; omega
                · have H := Lib.hid (hmW.more (by omega : q + 6 + 5 * T + k + 1 ≤ q + 6 + 5 * T + (k + 1)))
                  clear hmW
                  go_wp2
                  go_roundw
                  case rel => exact ⟨k + 1, L2, ys2, by omega, by go_num, rfl, by omega, by omega, H.out⟩
                  case measure => simp [intOf]; omega
              · have H := Lib.hid (hmW.more (by omega : q + 6 + 5 * T + k ≤ q + 6 + 5 * T + (k + 1)))
                clear hmW
                go_wp2
                go_roundw
                case rel => exact ⟨k + 1, L2, ys2, by omega, by go_num, rfl, by omega, by omega, H.out⟩
                case measure => simp [intOf]; omega
            · have hdt : ((T : Int) == 0) = false := beq_eq_false_iff_ne.2 (by omega)
              clear hT0
              by_cases hr0 : 0 < 48 * x - y
              · have HY : Hid (0 ≤ y + (48 * x - y) ∧ y + (48 * x - y) ≤ 700) := by show _ ∧ _; omega
                have hws : IntKind.i64.wrap (y + (48 * x - y)) = y + (48 * x - y) := IntWalk.i64_in _ (by omega)
                have H := Lib.hid (((hmW.drewN 1).store (p := p) hRw hhi (y + (48 * x - y)) HY.out).more (by omega : q + 6 + 5 * T + k ≤ q + 6 + 5 * T + (k + 1)))
                have g0 := hmW.row.frozenAt p
                have g1 : W.cell? ⟨w.heap.size + 1, p, none⟩ = some (.int .i64 y) := by rw [hmW.row.cellAt p (by omega), ints_at _ _ (by rw [hmW.len]; omega), HYP.out]
                obtain ⟨b3, o3, e3, _, _, g2⟩ := hmW.ko.at_ (k := k) (by rw [hoN]; exact hlk)
                cases e3
                rw [hop] at g2
                clear hmW
                go_wp2_with fail
                go_region
                all_goals
                  go_wp2
                  go_roundw
                  case rel => exact ⟨k + 1, L2 - (48 * x - y), ys2.set p (y + (48 * x - y)), by omega, by go_num, by first | rfl | go_num, by omega, by omega, H.out⟩
                  case measure => simp [intOf]; omega
              · have H := Lib.hid (hmW.more (by omega : q + 6 + 5 * T + k ≤ q + 6 + 5 * T + (k + 1)))
                clear hmW
                go_wp2
                go_roundw
                case rel => exact ⟨k + 1, L2, ys2, by omega, by go_num, rfl, by omega, by omega, H.out⟩
                case measure => simp [intOf]; omega
          · go_wp2_with fail
            go_quiet (fail)
            generalize hW : World.drewN _ _ = W
            have hmW : AMid w R A c bs E (some ⟨b, o, none⟩) c1 xs (some ⟨b', o', none⟩) os lo hi w3.heap.size (q + 6 + 5 * T + k) ys2 W := by rw [← hW]; exact hmA.out.drewN _
            clear hW hmA hcx hcy hb1 hco
            by_cases hT0 : T = 0
            · have hdt : ((T : Int) == 0) = true := by rw [hT0]; rfl
              clear hT0
              by_cases hr0 : 0 < L2
              · obtain ⟨q4, hq4, rd4⟩ := hmW.rd
                go_wp2_with fail
                refine (pick_to R A c bs q4 9 _ rd4 (by omega) (by omega) hl (by omega)).mono ?_
                rintro e w4 ⟨v, rfl, hv0, hv1, rd5, hch5⟩
                have hmX := hmW.pick hRw hlo hhi hch5 rd5 (by omega : q4 + 1 ≤ q + 6 + 5 * T + k + 1)
                obtain ⟨W, rfl⟩ : ∃ x, x = w4 := ⟨_, rfl⟩
                clear hmW rd4 rd5 hch5
                have hmW := hmX
                clear hmX
                obtain ⟨e1, e2, e4, e5⟩ := eighth (L2) v hr0 (by omega) hv0 hv1
                have e1' : IntKind.i64.wrap ((L2) * v) = (L2) * v := e1
                have e2' : IntKind.i64.wrap (((L2) * v).tdiv 8) = (L2) * v / 8 := e2
                generalize (L2) * v / 8 = r' at e2 e2' e4 e5
                by_cases hr9 : 0 < r'
                · have HY : Hid (0 ≤ y + r' ∧ y + r' ≤ 700) := by show _ ∧ _; omega
                  have hws : IntKind.i64.wrap (y + r') = y + r' := IntWalk.i64_in _ (by omega)
                  have H := Lib.hid (((hmW.drewN 1).store (p := p) hRw hhi (y + r') HY.out).more (by omega : q + 6 + 5 * T + k + 1 ≤ q + 6 + 5 * T + (k + 1)))
                  have g0 := hmW.row.frozenAt p
                  have g1 : W.cell? ⟨w.heap.size + 1, p, none⟩ = some (.int .i64 y) := by rw [hmW.row.cellAt p (by omega), ints_at _ _ (by rw [hmW.len]; omega), HYP.out]
                  obtain ⟨b3, o3, e3, _, _, g2⟩ := hmW.ko.at_ (k := k) (by rw [hoN]; exact hlk)
                  cases e3
                  rw [hop] at g2
                  clear hmW
                  go_wp2_with fail
                  go_region
                  all_goals
                    go_wp2
                    go_roundw
                    case rel => exact ⟨k + 1, L2 - r', ys2.set p (y + r'), by omega, by go_num, by first | rfl | go_num, by omega, by omega, H.out⟩
                    case measure => simp [intOf]; omega
                · have H := Lib.hid (hmW.more (by omega : q + 6 + 5 * T + k + 1 ≤ q + 6 + 5 * T + (k + 1)))
                  clear hmW
                  go_wp2
                  go_roundw
                  case rel => exact ⟨k + 1, L2, ys2, by omega, by go_num, rfl, by omega, by omega, H.out⟩
                  case measure => simp [intOf]; omega
              · have H := Lib.hid (hmW.more (by omega : q + 6 + 5 * T + k ≤ q + 6 + 5 * T + (k + 1)))
                clear hmW
                go_wp2
                go_roundw
                case rel => exact ⟨k + 1, L2, ys2, by omega, by go_num, rfl, by omega, by omega, H.out⟩
                case measure => simp [intOf]; omega
            · have hdt : ((T : Int) == 0) = false := beq_eq_false_iff_ne.2 (by omega)
              clear hT0
              by_cases hr0 : 0 < L2
              · have HY : Hid (0 ≤ y + L2 ∧ y + L2 ≤ 700) := by show _ ∧ _; omega
                have hws : IntKind.i64.wrap (y + L2) = y + L2 := IntWalk.i64_in _ (by omega)
                have H := Lib.hid (((hmW.drewN 1).store (p := p) hRw hhi (y + L2) HY.out).more (by omega : q + 6 + 5 * T + k ≤ q + 6 + 5 * T + (k + 1)))
                have g0 := hmW.row.frozenAt p
                have g1 : W.cell? ⟨w.heap.size + 1, p, none⟩ = some (.int .i64 y) := by rw [hmW.row.cellAt p (by omega), ints_at _ _ (by rw [hmW.len]; omega), HYP.out]
                obtain ⟨b3, o3, e3, _, _, g2⟩ := hmW.ko.at_ (k := k) (by rw [hoN]; exact hlk)
                cases e3
                rw [hop] at g2
                clear hmW
                go_wp2_with fail
                go_region
                all_goals
                  go_wp2
                  go_roundw
                  case rel => exact ⟨k + 1, L2 - L2, ys2.set p (y + L2), by omega, by go_num, by first | rfl | go_num, by omega, by omega, H.out⟩
                  case measure => simp [intOf]; omega
              · have H := Lib.hid (hmW.more (by omega : q + 6 + 5 * T + k ≤ q + 6 + 5 * T + (k + 1)))
                clear hmW
                go_wp2
                go_roundw
                case rel => exact ⟨k + 1, L2, ys2, by omega, by go_num, rfl, by omega, by omega, H.out⟩
                case measure => simp [intOf]; omega
        · obtain rfl : k = xs.length := by omega
          have H := Lib.hid (hm2.more (by omega : q + 6 + 5 * T + xs.length ≤ q + 6 + 5 * (T + 1)))
          clear hm2
          go_wp2
          go_roundw
          case rel => exact ⟨T + 1, L2, ys2, by omega, by go_num, rfl, h0, h1, H.out⟩
          case measure => simp [intOf]; omega
    · obtain rfl : T = 2 := by omega
      obtain ⟨q4, hq4, rd4⟩ := hm.rd
      go_wp2_with fail
      refine (odd_to R A c bs q4 n _ rd4 hn hn' hl (by omega)).mono ?_
      rintro e w5 ⟨bo, rfl, ⟨q5, hq5, rd5⟩, hch5⟩
      have hm5 := hm.pick hRw hlo hhi hch5 rd5 (by omega)
      clear hm rd4 hch5
      cases bo
      · have H := Lib.hid (awards_end (q := q) hm5 (by omega) hx5)
        clear hm5 rd5
        go_wp2
        go_ret
        exact H.out
      · by_cases hx0 : 0 < xs.length
        · go_wp2_with fail
          refine (pick_to R A c bs q5 3 _ rd5 (by omega) (by omega) hl (by omega)).mono ?_
          rintro e w6 ⟨v, rfl, hv0, hv1, rd6, hch6⟩
          have hm6 := hm5.pick hRw hlo hhi hch6 rd6 (by omega : q5 + 1 ≤ q + 6 + 5 * 2 + 1 + 1)
          clear hm5 rd5 rd6 hch6
          have g0 := hm6.row.frozenAt 0
          have g1 : w6.cell? ⟨w.heap.size + 1, 0, none⟩ = some (.int .i64 (ys.getD 0 0)) := by rw [hm6.row.cellAt 0 (by omega), ints_at _ _ (by rw [hm6.len]; omega)]
          have hyr := getD_rg hm6.sm (by omega) 0
          generalize ys.getD 0 0 = y0 at g1 hyr
          rcases (show v = 0 ∨ v = 1 ∨ v = 2 from by omega) with rfl | rfl | rfl
          · by_cases hx1 : xs.length = 1
            · have H := Lib.hid (fun o2 c2 => awards_rest (q := q) (m := 0) (c2 := c2) (o2 := o2) hm6 (by omega) hx5 (by omega) (.inl rfl))
              clear hm6
              go_wp2
              go_ret
              exact H.out _ _
            · have H := Lib.hid (fun c2 => awards_rest (q := q) (m := xs.length - 1) (c2 := c2) (o2 := 1) hm6 (by omega) hx5 (by omega) (.inr rfl))
              clear hm6
              go_wp2
              go_ret
              exact H.out _
          · have H := Lib.hid (awards_minus (q := q) hm6 (by omega) hx5 hRw (y0 + 1) (by omega))
            clear hm6
            go_wp2
            go_ret
            exact H.out
          · have H := Lib.hid (awards_minus (q := q) hm6 (by omega) hx5 hRw (-1) (by omega))
            clear hm6
            go_wp2
            go_ret
            exact H.out
        · have H := Lib.hid (awards_end (q := q) hm5 (by omega) hx5)
          clear hm5 rd5
          go_wp2
          go_ret
          exact H.out

end Go.Proofs.Ytilhholjbjhaeaa
