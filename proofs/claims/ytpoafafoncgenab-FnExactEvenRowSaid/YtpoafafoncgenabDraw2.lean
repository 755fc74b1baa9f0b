/-
  What the reader of a code draws: a pick whatever the code, and a chance.
-/
import Derived.Test.YtpoafafoncgenabDraw
namespace Go.Proofs.Ytpoafafoncgenab
open Go.RowKit

theorem sum_nonneg : ∀ (xs : List Int), (∀ x ∈ xs, 0 ≤ x) → 0 ≤ xs.sum
  | [], _ => by simp
  | x :: xs, h => by
    have h1 := h x (by simp)
    have h2 := sum_nonneg xs fun y hy => h y (by simp [hy])
    simp only [List.sum_cons]
    omega
def Picked (w : World) (R : Nat) (q : Nat) (n : Int) (e : Ending) (w' : World) : Prop :=
  ∃ v : Int, 0 ≤ v ∧ v < n ∧ e = .returned (.int .i64 v) ∧ ∃ m, w' = (w.setCell ⟨R, 1, none⟩ (.int .i64 ((q + 1 : Nat) : Int))).drewN m

/-- Behind a pick the reader is one further; nothing else has turned. -/
theorem Rd.step {w w' : World} {R : Nat} {A : Option Addr} {c : Nat} {bs : List Int} {q m : Nat} (h : Rd w R A c bs q) (e : w' = (w.setCell ⟨R, 1, none⟩ (.int .i64 ((q + 1 : Nat) : Int))).drewN m) :
    Rd w' R A c bs (q + 1) ∧ Chg R (R + 1) w w' := by
  subst e
  have hch : Chg R (R + 1) w (w.setCell ⟨R, 1, none⟩ (.int .i64 ((q + 1 : Nat) : Int))) := Chg.setCell w (p := ⟨R, 1, none⟩) ⟨Nat.le_refl _, Nat.lt_succ_self _⟩ _
  refine ⟨⟨?_, ?_, ?_, ?_, ?_⟩, ⟨hch.os, hch.tape, hch.output, hch.size, hch.block⟩⟩
  · exact (World.cell?_setCell_other _ _ _ _ (by intro e'; injection e' with _ e2 _; omega)).trans h.s
  · exact World.cell?_setCell_same _ _ _ h.p
  · exact (World.frozen?_setCell _ _ _ _).trans h.f
  · intro hn
    obtain ⟨b, o, e, h1, hc, hr⟩ := h.b hn
    exact ⟨b, o, e, h1, fun j hj => (World.cell?_setCell_other _ _ _ _ (by intro e'; injection e' with e1 _ _; omega)).trans (hc j hj), hr⟩
  · have := h.lt; simpa [World.setCell] using this

/-- What a function leaves that draws, and makes new memory: the reader somewhere further, nothing else turned. -/
def Drew (w : World) (R : Nat) (A : Option Addr) (c : Nat) (bs : List Int) (q k : Nat) (w' : World) : Prop := ∃ q', q' ≤ q + k ∧ Rd w' R A c bs q' ∧ Chg R (R + 1) w w'

/-- A pick, as a caller wants it: the number, and the world behind it. -/
def PickTo (w : World) (R : Nat) (A : Option Addr) (c : Nat) (bs : List Int) (q : Nat) (n : Int) (e : Ending) (w' : World) : Prop :=
  ∃ v : Int, e = .returned (.int .i64 v) ∧ 0 ≤ v ∧ v < n ∧ Rd w' R A c bs (q + 1) ∧ Chg R (R + 1) w w'
def OddTo (w : World) (R : Nat) (A : Option Addr) (c : Nat) (bs : List Int) (q : Nat) (e : Ending) (w' : World) : Prop :=
  ∃ b : Bool, e = .returned (.bool b) ∧ (∃ q', q' ≤ q + 1 ∧ Rd w' R A c bs q') ∧ Chg R (R + 1) w w'
end Go.Proofs.Ytpoafafoncgenab
