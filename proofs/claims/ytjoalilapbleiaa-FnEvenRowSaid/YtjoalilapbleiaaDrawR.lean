/-
  The claims and the estate that are drawn for the law of rows that are even: at most four numbers, in new memory. No condition.
-/
import Derived.Test.YtjoalilapbleiaaDrawL
import Derived.Test.YtjoalilapbleiaaSpecRow
import Derived.Test.YtjoalilapbleiaaLawLeaf
namespace Go.Proofs.Ytjoalilapbleiaa
open Go.RowKit

def DrawnRow (w : World) (e : Ending) (w' : World) : Prop :=
  ∃ A1 c1, ∃ xs : List Int, ∃ E : Int, xs.length ≤ c1 ∧ 1 ≤ xs.length ∧ xs.length ≤ 4 ∧ (∀ y ∈ xs, 0 ≤ y ∧ y ≤ 577) ∧ 0 ≤ E ∧ E ≤ 10000 ∧ e = .returned (.tuple #[.slice A1 xs.length c1, .int .i64 E]) ∧ Own w' w.heap.size w'.heap.size A1 xs ∧ Below w.heap.size w w'
theorem Chg.then {lo hi B : Nat} {w a b : World} (h : Chg lo hi w a) (k : Below B a b) (hB : w.heap.size ≤ B) : Chg lo hi w b :=
  ⟨k.os.trans h.os, k.tape.trans h.tape, k.output.trans h.output, Nat.le_trans h.size k.size, fun i h1 h2 => (k.block i (by omega)).trans (h.block i h1 h2)⟩
theorem mul_row {a b : Int} (h1 : 0 ≤ a) (h2 : a < 40) (h3 : 0 ≤ b) (h4 : b < 9) : 0 ≤ a * b ∧ a * b ≤ 312 := by
  have e1 := Int.mul_nonneg h1 h3
  have e2 := Int.mul_le_mul (show a ≤ 39 by omega) (show b ≤ 8 by omega) h3 (by omega)
  omega
theorem quo_row {p E : Int} (h1 : 0 ≤ p) (h2 : p < 40) (h3 : 0 ≤ E) (h4 : E ≤ 4000) : IntKind.i64.wrap (p.tdiv 39) = p / 39 ∧ IntKind.i64.wrap (p / 39 * 3000) = p / 39 * 3000 ∧ IntKind.i64.wrap (E + p / 39 * 3000) = E + p / 39 * 3000 ∧ 0 ≤ E + p / 39 * 3000 ∧ E + p / 39 * 3000 ≤ 10000 :=
  ⟨by rw [Int.tdiv_eq_ediv_of_nonneg h1]; exact IntWalk.i64_in _ (by omega), IntWalk.i64_in _ (by omega), IntWalk.i64_in _ (by omega), by omega, by omega⟩
theorem row_sum {xs : List Int} (h4 : xs.length ≤ 4) (hb : ∀ y ∈ xs, 0 ≤ y ∧ y ≤ 577) : 0 ≤ xs.sum ∧ xs.sum ≤ 2308 := by
  have h1 := sum_bd_aux 577 (by omega) xs fun x hx => by have := hb x hx; omega
  have h2 := sum_nonneg xs fun x hx => (hb x hx).1
  omega
theorem row_small {xs : List Int} (h4 : xs.length ≤ 4) (hb : ∀ y ∈ xs, 0 ≤ y ∧ y ≤ 577) : Small xs := ⟨by omega, fun y hy => by have := hb y hy; omega⟩

set_option maxRecDepth 10000 in
set_option maxHeartbeats 1000000 in
/-- From the row on: the estate, and the way out. -/
theorem drawRow_end {w w0 : World} {A1 : Option Addr} {c1 : Nat} {xs : List Int} {E p : Int} (hcc : xs.length ≤ c1) (h1 : 1 ≤ xs.length) (h4 : xs.length ≤ 4) (hb : ∀ y ∈ xs, 0 ≤ y ∧ y ≤ 577) (h0 : 0 ≤ E + p / 39 * 3000) (hE : E + p / 39 * 3000 ≤ 10000) (ho : Own w0 w.heap.size w0.heap.size A1 xs) (hB : Below w.heap.size w w0) :
    DrawnRow w (.returned (.tuple #[.slice A1 xs.length c1, .int .i64 (E + p / 39 * 3000)])) w0 := ⟨A1, c1, xs, _, hcc, h1, h4, hb, h0, hE, rfl, ho, hB⟩

set_option maxRecDepth 10000 in
set_option maxHeartbeats 2000000 in
theorem drawEvenRow_any (A : Option Addr) (c : Nat) (bs : List Int) (w : World) (h : Bytes w w.heap.size A bs) (hl : bs.length ≤ 9223372036854775807) (hc : bs.length ≤ c) :
    Calls Try.prog 27 #[.slice A bs.length c] w (DrawnRow w) := by
  obtain ⟨i0, hi0, hz0, hz1, hz2⟩ := info_parts info_int
  go_enter Try.func27, Try.ntmps27
  go_wp2_with fail
  refine (l20Open_any A c bs _ h hl hc).mono ?_
  rintro e w1 ⟨rfl, hb1, c', bs', hl', rd⟩
  have z1 := hb1.size
  have zR := rd.lt
  have rd0 := rd.alloc (.cells #[] 3)
  have hB0 : (w1.alloc (.cells #[] 3)).ownsRow w1.heap.size 3 1 (.slice (some ⟨w1.heap.size, 0, none⟩) 0 0) 0 [] := World.ownsRow_made w1 #[] 0 (Nat.le_refl _) (by unfold maxLen; omega) rfl
  have ch0 : Chg w.heap.size (w.heap.size + 1) w1 (w1.alloc (.cells #[] 3)) := Chg.alloc _ _
  go_wp2_with fail
  refine (pick_to w.heap.size A c' bs' 0 4 _ rd0 (by omega) (by omega) hl' (by omega)).mono ?_
  rintro e w2 ⟨v0, rfl, hv0, hv0', rd2, hch2⟩
  have hw0 : IntKind.i64.wrap (v0 + 1) = v0 + 1 := IntWalk.i64_in _ (by omega)
  have mid0 : ∃ j : Nat, ∃ xs : List Int, ∃ q' : Nat, j + xs.length ≤ 4 ∧ 1 ≤ j + xs.length ∧ v0 + 1 = (j : Int) ∧ q' ≤ 1 + 2 * xs.length ∧ (∀ x ∈ xs, 0 ≤ x ∧ x ≤ 312) ∧ w2.ownsRow w1.heap.size 3 1 (.slice (some ⟨w1.heap.size, 0, none⟩) 0 0) xs.length (ints xs) ∧ Rd w2 w.heap.size A c' bs' q' ∧ Chg w.heap.size (w.heap.size + 1) w1 w2 :=
    ⟨(v0 + 1).toNat, [], 1, by simp; omega, by simp; omega, by omega, by simp, by simp, own_kept hB0 hch2 (by omega), rd2, ch0.trans hch2⟩
  have HB1 := Lib.hid hb1
  clear rd rd0 hB0 ch0 rd2 hch2 h hb1
  go_wp2
  go_loopw [5, 6] (fun v i wr => ∃ j : Nat, ∃ xs : List Int, ∃ q' : Nat, j + xs.length ≤ 4 ∧ 1 ≤ j + xs.length ∧ i = .int .i64 (j : Int) ∧ q' ≤ 1 + 2 * xs.length ∧ (∀ x ∈ xs, 0 ≤ x ∧ x ≤ 312) ∧ wr.ownsRow w1.heap.size 3 1 v xs.length (ints xs) ∧ Rd wr w.heap.size A c' bs' q' ∧ Chg w.heap.size (w.heap.size + 1) w1 wr) (fun _ i _ => (intOf i).toNat)
  case atStart =>
    obtain ⟨j, xs, q', h1, h2, h3, h4⟩ := mid0
    exact ⟨j, xs, q', h1, h2, congrArg (Value.int .i64) h3, h4⟩
  case round =>
    obtain ⟨j, xs, q', hj1, hj2, rfl, hq', hx, hown, rd, hch⟩ := hrel
    clear mid0
    obtain ⟨wo, rfl⟩ : ∃ x, x = wr := ⟨_, rfl⟩
    have zo := hch.size
    by_cases hlt : 0 < j
    · have hw1 : IntKind.i64.wrap ((j : Int) - 1) = (j : Int) - 1 := IntWalk.i64_in _ (by omega)
      go_wp2_with fail
      refine (pick_to w.heap.size A c' bs' q' 40 _ rd (by omega) (by omega) hl' (by omega)).mono ?_
      rintro e w3 ⟨p1, rfl, hp1, hp1', rd3, hch3⟩
      go_wp2_with fail
      refine (pick_to w.heap.size A c' bs' (q' + 1) 9 _ rd3 (by omega) (by omega) hl' (by omega)).mono ?_
      rintro e w4 ⟨p2, rfl, hp2, hp2', rd4, hch4⟩
      have hm := mul_row hp1 hp1' hp2 hp2'
      obtain ⟨P, hP⟩ : ∃ P, p1 * p2 = P := ⟨_, rfl⟩
      rw [hP] at hm
      have hwP : IntKind.i64.wrap P = P := IntWalk.i64_in _ (by omega)
      have z3 := hch3.size
      have z4 := hch4.size
      have own4 := own_kept (own_kept hown hch3 (by omega)) hch4 (by omega)
      have ch4 := (hch.trans hch3).trans hch4
      have hA := own4.alloc (.cells #[.int .i64 P] 3)
      have hsA : w1.heap.size ≤ w4.heap.size := by omega
      clear rd rd3 hch hch3 hch4 hown
      go_wp2_with (at_builtin; refine wpList_append_own _ rfl _ _ 23 rfl w1.heap.size 3 i0 (.int .i64 0) 1 8 Try.underlying23 hi0 hz0 hz1 hz2 rfl (by decide) _ _ _ rfl hA ⟨w4.heap.size, 0, none⟩ 1 1 [.int .i64 P] rfl rfl (news_one _ _ _) (one_cell _) (by unfold maxLen; omega) (by omega) (by simp; omega) ?_; intro v1 w9 hown1 hgrow1 _)
      have hb9 := ((Below.refl w1.heap.size w4).alloc hsA (.cells #[.int .i64 P] 3)).grown hgrow1 (by simp; omega) (fun g hg => ((own4.lt g hg).1))
      have hn : w9.ownsRow w1.heap.size 3 1 v1 (xs ++ [P]).length (ints (xs ++ [P])) := by
        have e1 : (xs ++ [P]).length = xs.length + 1 := by simp
        have e2 : ints (xs ++ [P]) = ints xs ++ [.int .i64 P] := by simp [ints]
        rw [e1, e2]; exact hown1
      have hx9 : ∀ x ∈ xs ++ [P], 0 ≤ x ∧ x ≤ 312 := fun x hx' => by
        rcases List.mem_append.1 hx' with h1 | h1
        · exact hx x h1
        · rw [List.mem_singleton.1 h1]; omega
      have hl9 : (xs ++ [P]).length = xs.length + 1 := by simp
      have H := Lib.hid (And.intro hx9 (And.intro hn (And.intro (rd4.below hb9 (by omega)) (ch4.then hb9 (Nat.le_refl _)))))
      clear hx9 hn hb9 hown1 hgrow1 own4 ch4 rd4 hx hA
      go_wp2
      go_roundw
      case rel => exact ⟨j - 1, xs ++ [P], q' + 1 + 1, by rw [hl9]; omega, by rw [hl9]; omega, congrArg (Value.int .i64) (by omega), by rw [hl9]; omega, H.out.1, H.out.2.1, H.out.2.2.1, H.out.2.2.2⟩
      case measure => simp [intOf]; omega
    · obtain rfl : j = 0 := by omega
      obtain ⟨A', c9, rfl, hcc, ho⟩ := own_of_row hown
      clear hown hlt
      have hj3 : 1 ≤ xs.length := by omega
      have hj4 : xs.length ≤ 4 := by omega
      clear hj1 hj2
      go_wp2_with fail
      refine (odd_to w.heap.size A c' bs' q' 14 _ rd (by omega) (by omega) hl' (by omega)).mono ?_
      rintro e w3 ⟨b, rfl, ⟨q3, hq3, rd3⟩, hch3⟩
      have z3 := hch3.size
      have ho3 := (ho.chg hch3 (Nat.le_refl _) (.inr (by omega))).more (lo' := w1.heap.size) (hi' := w3.heap.size) (Nat.le_refl _) z3
      have ch3 := hch.trans hch3
      clear rd hch hch3 ho
      have fin : ∀ (ys : List Int) (wz : World), ys.length = xs.length → (∀ y ∈ ys, 0 ≤ y ∧ y ≤ 577) → Own wz w1.heap.size wz.heap.size A' ys → Rd wz w.heap.size A c' bs' q3 → Chg w.heap.size (w.heap.size + 1) w1 wz →
        (1 ≤ ys.length ∧ ys.length ≤ 4) ∧ Small ys ∧ (0 ≤ ys.sum ∧ ys.sum ≤ 2308) ∧ Below w.heap.size w wz := fun ys wz h1 h2 h3 h4 h5 =>
          ⟨by omega, row_small (by omega) h2, row_sum (by omega) h2, HB1.out.trans (h5.below (Nat.le_refl _) (by omega))⟩
      cases b with
      | false =>
        have hx2 : ∀ y ∈ xs, 0 ≤ y ∧ y ≤ 577 := fun y hy => by have := hx y hy; omega
        obtain ⟨-, f2, f3, -⟩ := fin xs w3 rfl hx2 ho3 rd3 ch3
        have hws : IntKind.i64.wrap (xs.sum + 1) = xs.sum + 1 := IntWalk.i64_in _ (by omega)
        clear fin hx
        go_wp2_with fail
        refine (l1Sum_any A' c9 xs _ _ _ ho3.ints f2).mono ?_
        rintro e w' ⟨rfl, rfl⟩
        go_wp2_with fail
        refine (pick_to w.heap.size A c' bs' q3 (xs.sum + 1) _ rd3 (by omega) (by omega) hl' (by omega)).mono ?_
        rintro e w4 ⟨E, rfl, hE0, hE1, rd4, hch4⟩
        go_wp2_with fail
        refine (pick_to w.heap.size A c' bs' (q3 + 1) 40 _ rd4 (by omega) (by omega) hl' (by omega)).mono ?_
        rintro e w5 ⟨p, rfl, hp0, hp1, rd5, hch5⟩
        obtain ⟨y1, y2, y3, y4, y5⟩ := quo_row hp0 hp1 hE0 (show E ≤ 4000 by omega)
        have z4 := hch4.size
        have z5 := hch5.size
        have ho5 := ((ho3.chg hch4 (Nat.le_refl _) (.inr (by omega))).chg hch5 (by omega) (.inr (by omega))).more (lo' := w.heap.size) (hi' := w5.heap.size) (by omega) (by omega)
        have B5 := HB1.out.trans (((ch3.trans hch4).trans hch5).below (B := w.heap.size) (Nat.le_refl _) (by omega))
        have HX := Lib.hid (drawRow_end (c1 := c9) hcc hj3 hj4 hx2 y4 y5 ho5 B5)
        clear y4 y5 ho5 B5 hx2 ho3 ch3 hch4 hch5 rd3 rd4 rd5
        go_wp2
        go_ret2
        exact HX.out
      | true =>
        have hx2 : ∀ y ∈ xs.set 0 577, 0 ≤ y ∧ y ≤ 577 := fun y hy => by
          rcases List.mem_or_eq_of_mem_set hy with h1 | h1
          · have := hx y h1; omega
          · rw [h1]; omega
        have hl2 : (xs.set 0 577).length = xs.length := by simp
        obtain ⟨b1, o1, rfl, hb1', hb2', hc1, hf1⟩ := ho3.at_ (k := 0) (by omega)
        have hos := ho3.stored (j := 0) (by omega) 577
        have rds := rd3.set_new (p := ⟨b1, o1 + 0, none⟩) (by show _ < b1; omega) (.int .i64 577)
        have chs : Chg w.heap.size (w.heap.size + 1) w1 (w3.setCell ⟨b1, o1 + 0, none⟩ (.int .i64 577)) := ch3.then ((Below.refl w1.heap.size w3).setCell (p := ⟨b1, o1 + 0, none⟩) hb1' (.int .i64 577)) (Nat.le_refl _)
        have hzs : (w3.setCell ⟨b1, o1 + 0, none⟩ (.int .i64 577)).heap.size = w3.heap.size := by simp [World.setCell]
        obtain ⟨-, f2, f3, -⟩ := fin (xs.set 0 577) _ hl2 hx2 (hos.more (Nat.le_refl _) (by rw [hzs]; exact Nat.le_refl _)) rds chs
        have hj3' : 1 ≤ (xs.set 0 577).length := by rw [hl2]; exact hj3
        have hj4' : (xs.set 0 577).length ≤ 4 := by rw [hl2]; exact hj4
        clear fin hx ho3 rd3
        generalize xs[0] = X0 at hc1
        obtain ⟨ys, hys⟩ : ∃ ys, ys = xs.set 0 577 := ⟨_, rfl⟩
        rw [← hys] at hx2 hl2 hos f2 f3 hj3' hj4'
        clear hys
        have hk0 : (0 : Int) < (ys.length : Int) := by omega
        obtain ⟨ws, hws⟩ : ∃ x, x = w3.setCell ⟨b1, o1 + 0, none⟩ (.int .i64 577) := ⟨_, rfl⟩
        rw [← hws] at hos rds chs hzs
        have hwS : IntKind.i64.wrap (ys.sum + 1) = ys.sum + 1 := IntWalk.i64_in _ (by omega)
        simp only [Nat.add_zero] at hws hc1 hf1
        have hcc' : ys.length ≤ c9 := by omega
        rw [← hl2]
        clear hl2
        go_wp2_with fail
        rw [← hws]
        refine (l1Sum_any (some ⟨b1, o1, none⟩) c9 ys _ _ _ hos.ints f2).mono ?_
        rintro e w' ⟨rfl, rfl⟩
        go_wp2_with fail
        rw [← hws]
        refine (pick_to w.heap.size A c' bs' q3 (ys.sum + 1) _ rds (by omega) (by omega) hl' (by omega)).mono ?_
        rintro e w4 ⟨E, rfl, hE0, hE1, rd4, hch4⟩
        go_wp2_with fail
        refine (pick_to w.heap.size A c' bs' (q3 + 1) 40 _ rd4 (by omega) (by omega) hl' (by omega)).mono ?_
        rintro e w5 ⟨p, rfl, hp0, hp1, rd5, hch5⟩
        obtain ⟨y1, y2, y3, y4, y5⟩ := quo_row hp0 hp1 hE0 (show E ≤ 4000 by omega)
        have z4 := hch4.size
        have z5 := hch5.size
        have ho5 := ((hos.chg hch4 (by omega) (.inr (by omega))).chg hch5 (by omega) (.inr (by omega))).more (lo' := w.heap.size) (hi' := w5.heap.size) (by omega) (by omega)
        have B5 := HB1.out.trans (((chs.trans hch4).trans hch5).below (B := w.heap.size) (Nat.le_refl _) (by omega))
        have HX := Lib.hid (drawRow_end (c1 := c9) hcc' hj3' hj4' hx2 y4 y5 ho5 B5)
        clear y4 y5 ho5 B5 hx2 ch3 hch4 hch5 rds rd4 rd5 hos chs
        go_wp2
        go_ret2
        exact HX.out

end Go.Proofs.Ytjoalilapbleiaa
