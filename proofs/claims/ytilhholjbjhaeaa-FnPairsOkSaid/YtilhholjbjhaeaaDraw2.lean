/-
  What the reader of a code draws: a pick whatever the code, and a chance.
-/
import Derived.Test.YtilhholjbjhaeaaDraw
namespace Go.Proofs.Ytilhholjbjhaeaa
open Go.RowKit

theorem sum_nonneg : ∀ (xs : List Int), (∀ x ∈ xs, 0 ≤ x) → 0 ≤ xs.sum
  | [], _ => by simp
  | x :: xs, h => by
    have h1 := h x (by simp)
    have h2 := sum_nonneg xs fun y hy => h y (by simp [hy])
    simp only [List.sum_cons]
    omega
def Picked (w : World) (R : Nat) (q : Nat) (n : Int) (e : Ending) (w' : World) : Prop :=
  ∃ v : Int, 0 ≤ v ∧ v < n ∧ e = .returned (.int .i64 v) ∧ ∃ m, w' = (w.setCell ⟨R, 1, none⟩ (.int .i64 ((q + 1 : Nat) : Int))).drewN m

set_option maxRecDepth 10000 in
set_option maxHeartbeats 1000000 in
theorem pick_early (R : Nat) (A : Option Addr) (c : Nat) (bs : List Int) (q : Nat) (n : Int) (w : World) (h : Rd w R A c bs q) (hn : 1 ≤ n) (hn' : n ≤ 1000000) (hq : q ≤ 1000000) (hk : q < bs.length) :
    Calls Try.prog 25 #[.pointer (some ⟨R, 0, none⟩), .int .i64 n] w (Picked w R q n) := by
  obtain ⟨hs, hp, hf, hB, hlt⟩ := h
  obtain ⟨b, o, rfl, hbR, hc1, hv1, hv1'⟩ := hB.at_ hk
  generalize bs[q] = v1 at hc1 hv1 hv1'
  have hne : ((bs.length : Int) == 0) = false := beq_eq_false_iff_ne.2 (by omega)
  have hbw : b < w.heap.size := by omega
  have hbn : ¬ (b = R) := by omega
  have hz : 0 ≤ v1 % n ∧ v1 % n < n := ⟨Int.emod_nonneg _ (by omega), Int.emod_lt_of_pos _ (by omega)⟩
  have w0 : IntKind.i64.wrap v1 = v1 := IntWalk.i64_in _ (by omega)
  have HZ := Lib.hid hz
  clear hB hz
  go_enter Try.func25, Try.ntmps25
  go_wp2
  go_ret
  exact ⟨_, HZ.out.1, HZ.out.2, rfl, 0, rfl⟩

set_option maxRecDepth 10000 in
set_option maxHeartbeats 1000000 in
theorem pick_none (R : Nat) (A : Option Addr) (c : Nat) (bs : List Int) (q : Nat) (n : Int) (w : World) (h : Rd w R A c bs q) (hn : 1 ≤ n) (hq : q ≤ 1000000) (hb : bs.length = 0) :
    Calls Try.prog 25 #[.pointer (some ⟨R, 0, none⟩), .int .i64 n] w (Picked w R q n) := by
  obtain ⟨hs, hp, hf, hB, hlt⟩ := h
  rw [hb] at hs
  clear hB hb
  go_enter Try.func25, Try.ntmps25
  go_wp2
  go_ret
  exact ⟨0, by omega, by omega, rfl, 0, rfl⟩

theorem pick_any (R : Nat) (A : Option Addr) (c : Nat) (bs : List Int) (q : Nat) (n : Int) (w : World) (h : Rd w R A c bs q) (hn : 1 ≤ n) (hn' : n ≤ 1000000) (hl : bs.length ≤ 2000) (hq : q ≤ 1000000) :
    Calls Try.prog 25 #[.pointer (some ⟨R, 0, none⟩), .int .i64 n] w (Picked w R q n) := by
  by_cases hb : bs.length = 0
  · exact pick_none R A c bs q n w h hn hq hb
  · by_cases hk : q < bs.length
    · exact pick_early R A c bs q n w h hn hn' hq hk
    · exact pick_late R A c bs q n w h hn hn' (by omega) hl hq hk

/-- Behind a pick the reader is one further; nothing else has turned. -/
theorem Rd.step {w w' : World} {R : Nat} {A : Option Addr} {c : Nat} {bs : List Int} {q m : Nat} (h : Rd w R A c bs q) (e : w' = (w.setCell ⟨R, 1, none⟩ (.int .i64 ((q + 1 : Nat) : Int))).drewN m) :
    Rd w' R A c bs (q + 1) ∧ Chg R (R + 1) w w' := by
  subst e
  have hch : Chg R (R + 1) w (w.setCell ⟨R, 1, none⟩ (.int .i64 ((q + 1 : Nat) : Int))) := Chg.setCell w (p := ⟨R, 1, none⟩) ⟨Nat.le_refl _, Nat.lt_succ_self _⟩ _
  refine ⟨⟨?_, ?_, ?_, ?_, ?_⟩, ⟨hch.os, hch.tape, hch.output, hch.size, hch.block⟩⟩
  · exact (World.cell?_setCell_other _ _ _ _ (by intro e'; injection e' with _ e2 _; omega)).trans h.s
  · exact World.cell?_setCell_same _ _ _ h.p
  · exact (World.frozen?_setCell _ _ _ _).trans h.f
  · intro hn
    obtain ⟨b, o, e, h1, hc, hr⟩ := h.b hn
    exact ⟨b, o, e, h1, fun j hj => (World.cell?_setCell_other _ _ _ _ (by intro e'; injection e' with e1 _ _; omega)).trans (hc j hj), hr⟩
  · have := h.lt; simpa [World.setCell] using this

/-- What a function leaves that draws, and makes new memory: the reader somewhere further, nothing else turned. -/
def Drew (w : World) (R : Nat) (A : Option Addr) (c : Nat) (bs : List Int) (q k : Nat) (w' : World) : Prop := ∃ q', q' ≤ q + k ∧ Rd w' R A c bs q' ∧ Chg R (R + 1) w w'

/-- A pick, as a caller wants it: the number, and the world behind it. -/
def PickTo (w : World) (R : Nat) (A : Option Addr) (c : Nat) (bs : List Int) (q : Nat) (n : Int) (e : Ending) (w' : World) : Prop :=
  ∃ v : Int, e = .returned (.int .i64 v) ∧ 0 ≤ v ∧ v < n ∧ Rd w' R A c bs (q + 1) ∧ Chg R (R + 1) w w'
theorem pick_to (R : Nat) (A : Option Addr) (c : Nat) (bs : List Int) (q : Nat) (n : Int) (w : World) (h : Rd w R A c bs q) (hn : 1 ≤ n) (hn' : n ≤ 1000000) (hl : bs.length ≤ 2000) (hq : q ≤ 1000000) :
    Calls Try.prog 25 #[.pointer (some ⟨R, 0, none⟩), .int .i64 n] w (PickTo w R A c bs q n) :=
  (pick_any R A c bs q n w h hn hn' hl hq).mono fun _ _ ⟨v, h1, h2, e, _, e2⟩ => ⟨v, e, h1, h2, (h.step e2).1, (h.step e2).2⟩

def OddTo (w : World) (R : Nat) (A : Option Addr) (c : Nat) (bs : List Int) (q : Nat) (e : Ending) (w' : World) : Prop :=
  ∃ b : Bool, e = .returned (.bool b) ∧ (∃ q', q' ≤ q + 1 ∧ Rd w' R A c bs q') ∧ Chg R (R + 1) w w'
set_option maxRecDepth 10000 in
set_option maxHeartbeats 1000000 in
theorem odd_to (R : Nat) (A : Option Addr) (c : Nat) (bs : List Int) (q : Nat) (n : Int) (w : World) (h : Rd w R A c bs q) (hn : 0 ≤ n) (hn' : n ≤ 1000000) (hl : bs.length ≤ 2000) (hq : q ≤ 1000000) :
    Calls Try.prog 40 #[.pointer (some ⟨R, 0, none⟩), .int .i64 n] w (OddTo w R A c bs q) := by
  by_cases h0 : 0 < n
  · go_enter Try.func40, Try.ntmps40
    go_wp2_with fail
    refine (pick_to R A c bs q n _ h (by omega) hn' hl hq).mono ?_
    rintro e w1 ⟨v, rfl, hv0, hv1, hR, hch⟩
    go_wp2
    go_ret
    exact ⟨_, rfl, ⟨q + 1, Nat.le_refl _, hR⟩, hch⟩
  · obtain rfl : n = 0 := by omega
    go_enter Try.func40, Try.ntmps40
    go_wp2
    go_ret
    exact ⟨_, rfl, ⟨q, by omega, h⟩, Chg.refl _ _ _⟩

end Go.Proofs.Ytilhholjbjhaeaa
