/-
  Rows of rows that come in: they are read, and carried over what others do. No condition.
-/
import Derived.Test.YtpdlppmkjkbboaaGrid
namespace Go.Proofs.Ytpdlppmkjkbboaa
open Go.RowKit

/-- The slice at A reads as the rows xss; all of it lies in blocks from lo on and below hi. -/
def Grid (w : World) (lo hi : Nat) (A : Option Addr) (xss : List (List Int)) : Prop :=
  0 < xss.length → ∃ b o, A = some ⟨b, o, none⟩ ∧ lo ≤ b ∧ b < hi ∧ ∀ k, k < xss.length → ∃ D d, w.cell? ⟨b, o + k, none⟩ = some (.slice D (xss.getD k []).length d) ∧ Ints w lo hi D (xss.getD k []) ∧ (xss.getD k []).length ≤ d
section
variable {w w' : World} {lo hi B : Nat} {A : Option Addr} {xss : List (List Int)}
theorem Grid.nil : Grid w lo hi A [] := fun h => absurd h (by simp)
theorem Grid.keep (h : Grid w lo hi A xss) (hk : ∀ p : Addr, lo ≤ p.block → p.block < hi → w'.cell? p = w.cell? p) : Grid w' lo hi A xss := fun hn => by
  obtain ⟨b, o, e, h1, h2, hc⟩ := h hn
  refine ⟨b, o, e, h1, h2, fun k hk' => ?_⟩
  obtain ⟨D, d, q1, q2, q3⟩ := hc k hk'
  exact ⟨D, d, (hk _ h1 h2).trans q1, q2.keep hk, q3⟩
theorem Grid.below (h : Grid w lo hi A xss) (hb : Below B w w') (hB : hi ≤ B) : Grid w' lo hi A xss := h.keep fun _ _ hp => hb.cell (by omega)
theorem Grid.chg {l r : Nat} (h : Grid w lo hi A xss) (hc : Chg l r w w') (hs : hi ≤ w.heap.size) (hd : hi ≤ l ∨ r ≤ lo) : Grid w' lo hi A xss := h.keep fun _ h1 h2 => hc.cell (by omega) (by omega)
theorem Grid.alloc (h : Grid w lo hi A xss) (hB : hi ≤ w.heap.size) (o : Obj) : Grid (w.alloc o) lo hi A xss := h.keep fun p _ hp => World.cell?_alloc_lt w o p (by omega)
theorem Grid.drew (h : Grid w lo hi A xss) : Grid w.drew lo hi A xss := h
theorem Grid.drewN (h : Grid w lo hi A xss) (n : Nat) : Grid (w.drewN n) lo hi A xss := h
theorem Grid.more {lo' hi' : Nat} (h : Grid w lo hi A xss) (hl : lo' ≤ lo) (hh : hi ≤ hi') : Grid w lo' hi' A xss := fun hn => by
  obtain ⟨b, o, e, h1, h2, hc⟩ := h hn
  refine ⟨b, o, e, by omega, by omega, fun k hk => ?_⟩
  obtain ⟨D, d, q1, q2, q3⟩ := hc k hk
  exact ⟨D, d, q1, q2.more hl hh, q3⟩
theorem Grid.at_ {b o : Nat} (h : Grid w lo hi (some ⟨b, o, none⟩) xss) (k : Nat) (hk : k < xss.length) : ∃ D d, w.cell? ⟨b, o + k, none⟩ = some (.slice D (xss.getD k []).length d) ∧ Ints w lo hi D (xss.getD k []) ∧ (xss.getD k []).length ≤ d := by
  obtain ⟨_, _, e, _, _, hc⟩ := h (by omega)
  cases e
  exact hc k hk
/-- Rows of the call's own are such. -/
theorem Rows.grid {nn : Bool} {g c : Nat} (h : Rows w nn lo hi g c xss) : Grid w lo hi (some ⟨g, 0, none⟩) xss := fun _ =>
  ⟨g, 0, rfl, h.ge, h.lt, fun k hk => by
    obtain ⟨D, d, q1, q2, q3, _⟩ := h.at_ k hk
    exact ⟨D, d, by rw [Nat.zero_add]; exact q1, q2, q3⟩⟩
end

end Go.Proofs.Ytpdlppmkjkbboaa
