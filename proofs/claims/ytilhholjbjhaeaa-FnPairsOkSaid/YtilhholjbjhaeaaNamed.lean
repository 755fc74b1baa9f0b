/-
  Both functions NamedCase return the case with the places of an order, and make new memory only.
-/
import Derived.Test.YtilhholjbjhaeaaCaseOk
import Derived.Test.YtilhholjbjhaeaaOrder2
import Derived.Test.YtilhholjbjhaeaaBox
import Derived.Deep.RegionHeld3
namespace Go.Proofs.Ytilhholjbjhaeaa
open Go.RowKit

def placed (xs ys : List Int) (n : Nat) : Nat → List Int
  | 0 => List.replicate n 0
  | k + 1 => (placed xs ys n k).set (ys.getD k 0).toNat (xs.getD k 0)
theorem placed_length (xs ys : List Int) (n : Nat) : ∀ k, (placed xs ys n k).length = n
  | 0 => by simp [placed]
  | k + 1 => by simp [placed, placed_length xs ys n k]
noncomputable def namedB (E : Int) (xs ys : List Int) : Bool := caseOkB E xs && orderB xs.length ys
noncomputable def namedE (E : Int) (xs ys : List Int) : Int := if namedB E xs ys = true then E else 0
noncomputable def namedXs (E : Int) (xs ys : List Int) : List Int := if namedB E xs ys = true then placed xs ys xs.length ys.length else []
theorem namedXs_len (E : Int) (xs ys : List Int) : (namedXs E xs ys).length ≤ xs.length := by
  unfold namedXs
  split
  · rw [placed_length]; exact Nat.le_refl _
  · simp
theorem order_iff {n : Nat} {ys : List Int} (h : orderB n ys = true) : ys.length = n ∧ OrdTo ys n ys.length := by simpa [orderB] using h
theorem placed_start {w : World} {G : Nat} {e : TypeId} {xs ys : List Int} {n : Nat} (h : w.ownsRow G e 1 (.slice (some ⟨G, 0, none⟩) n n) n (madeCells (Value.int .i64 0).cells (n * 1)).toList) :
    w.ownsRow G e 1 (.slice (some ⟨G, 0, none⟩) n n) n (ints (placed xs ys n 0)) := by
  have e1 : ints (placed xs ys n 0) = (madeCells (Value.int .i64 0).cells (n * 1)).toList := by
    rw [Nat.mul_one]; show _ = (madeCells #[Value.int .i64 0] n).toList; rw [toList_madeCells_one]; simp [ints, placed]
  rw [e1]; exact h
theorem placed_more {w : World} {G : Nat} {e : TypeId} {n : Nat} {xs ys : List Int} {k y : Nat} (h : w.ownsRow G e 1 (.slice (some ⟨G, 0, none⟩) n n) n (ints (placed xs ys n k))) (hy : ys.getD k 0 = (y : Int)) (V : Int) (hV : xs.getD k 0 = V) :
    (w.setCell ⟨G, y, none⟩ (.int .i64 V)).ownsRow G e 1 (.slice (some ⟨G, 0, none⟩) n n) n (ints (placed xs ys n (k + 1))) := by
  have h1 := (h.stored y (.int .i64 V)).1
  have e2 : placed xs ys n (k + 1) = (placed xs ys n k).set y V := by show (placed xs ys n k).set (ys.getD k 0).toNat (xs.getD k 0) = _; rw [hy, hV, Int.toNat_natCast]
  rw [e2, ints_set]
  exact h1
theorem placed_cell {w : World} {G : Nat} {e : TypeId} {n : Nat} {xs ys : List Int} {k y : Nat} (h : w.ownsRow G e 1 (.slice (some ⟨G, 0, none⟩) n n) n (ints (placed xs ys n k))) (hy : y < n) :
    ∃ u : Int, w.cell? ⟨G, y, none⟩ = some (.int .i64 u) ∧ w.frozen? ⟨G, y, none⟩ = false :=
  ⟨_, by rw [h.cellAt y (by omega), ints_at _ y (by rw [placed_length]; exact hy)], h.frozenAt y⟩
theorem placed_own {w : World} {G : Nat} {e : TypeId} {n : Nat} {xs ys : List Int} {k : Nat} (h : w.ownsRow G e 1 (.slice (some ⟨G, 0, none⟩) n n) n (ints (placed xs ys n k))) :
    Own w G w.heap.size (some ⟨G, 0, none⟩) (placed xs ys n k) := by
  have hl := placed_length xs ys n k
  have h' : w.ownsRow G e 1 (.slice (some ⟨G, 0, none⟩) n n) (placed xs ys n k).length (ints (placed xs ys n k)) := by rw [hl]; exact h
  obtain ⟨A, c, e1, _, ho⟩ := own_of_row h'
  injection e1 with e1 _ _
  subst e1
  exact ho

theorem run_make_rowN {P : Program} (t e : TypeId) (i : TypeInfo) (z : Value) (ht : P.underlying t = some (.slice e)) (hi : P.info? e = some i) (hz : i.zero = some z)
    (kl kc : IntKind) (n c : Nat) (hnc : n ≤ c) (hbytes : i.bytes * c ≤ 281474976710656) (h63 : c ≤ 9223372036854775807) (w : World) :
    (Instr.makeSlice t (.int kl (n : Int)) (.int kc (c : Int))).run P w = .ok (.slice (some ⟨w.heap.size, 0, none⟩) n c) (w.alloc (.cells (madeCells z.cells (c * i.size)) e)) := by
  have hb : (i.bytes : Int) * (c : Int) ≤ 281474976710656 := by
    have h : ((i.bytes * c : Nat) : Int) ≤ 281474976710656 := by omega
    rwa [Int.natCast_mul] at h
  have hr := run_make (P := P) w t e i z ht hi hz kl kc n c (by omega) (by omega) hb (by omega)
  simp only [Int.toNat_natCast] at hr
  exact hr
theorem Box.drew {w : World} {b : Nat} {u v : Value} (h : Box w b u v) : Box w.drew b u v := ⟨h.c0, h.c1, h.f0, h.f1, h.lt⟩
def NMid (w2 : World) (E : Int) (xs ys : List Int) (G O k : Nat) (wr : World) : Prop :=
  Box wr O (.int .i64 E) (.slice (some ⟨G, 0, none⟩) xs.length xs.length) ∧ wr.ownsRow G 3 1 (.slice (some ⟨G, 0, none⟩) xs.length xs.length) xs.length (ints (placed xs ys xs.length k)) ∧ Below w2.heap.size w2 wr
theorem made_row (w : World) (xs ys : List Int) (hm : xs.length ≤ 1048576) {Z : Array Value} (hZ : Z = madeCells (Value.int .i64 0).cells (xs.length * 1)) :
    (w.alloc (.cells Z 3)).ownsRow w.heap.size 3 1 (.slice (some ⟨w.heap.size, 0, none⟩) xs.length xs.length) xs.length (ints (placed xs ys xs.length 0)) := by
  have hs : Z.size = xs.length * 1 := by rw [hZ]; exact size_madeCells _ _
  have h1 : (w.alloc (.cells Z 3)).ownsRow w.heap.size 3 1 (.slice (some ⟨w.heap.size, 0, none⟩) xs.length xs.length) xs.length Z.toList :=
    ⟨by simpa using hs, .inr ⟨w.heap.size, xs.length, Z, rfl, Nat.le_refl _, heap_alloc_new w _, Nat.le_refl _, by unfold maxLen; omega, hs, by rw [List.take_of_length_le]; simp [hs]⟩⟩
  rw [hZ] at h1
  rw [hZ]
  exact placed_start h1
theorem nmid_0 {w2 : World} {E : Int} {xs ys : List Int} {Z : Array Value} (hZ : Z = madeCells (Value.int .i64 0).cells (xs.length * 1)) (hm : xs.length ≤ 4) :
    NMid w2 E xs ys w2.heap.size (w2.heap.size + 1) 0 ((w2.alloc (.cells Z 3)).alloc (.cells #[.int .i64 E, .slice (some ⟨w2.heap.size, 0, none⟩) xs.length xs.length] 31)).drew := by
  have b := Box.new (w2.alloc (.cells Z 3)) (.int .i64 E) (.slice (some ⟨w2.heap.size, 0, none⟩) xs.length xs.length) 31
  rw [hsz] at b
  exact ⟨b.drew, ((made_row w2 xs ys (by omega) hZ).alloc _).drew, (((Below.refl _ _).alloc (Nat.le_refl _) _).alloc (by rw [hsz]; omega) _).drew⟩
theorem nmid_1 {w2 : World} {E : Int} {xs ys : List Int} {Z : Array Value} (hZ : Z = madeCells (Value.int .i64 0).cells (xs.length * 1)) (hm : xs.length ≤ 4) :
    NMid w2 E xs ys (w2.heap.size + 1) w2.heap.size 0 ((w2.alloc (.cells #[.int .i64 E, .slice (some ⟨w2.heap.size + 1, 0, none⟩) xs.length xs.length] 31)).alloc (.cells Z 3)).drew := by
  have b := (Box.new w2 (.int .i64 E) (.slice (some ⟨w2.heap.size + 1, 0, none⟩) xs.length xs.length) 31).alloc (.cells Z 3)
  have r := made_row (w2.alloc (.cells #[.int .i64 E, .slice (some ⟨w2.heap.size + 1, 0, none⟩) xs.length xs.length] 31)) xs ys (by omega) hZ
  rw [hsz] at r
  exact ⟨b.drew, r.drew, (((Below.refl _ _).alloc (Nat.le_refl _) _).alloc (by rw [hsz]; omega) _).drew⟩

end Go.Proofs.Ytilhholjbjhaeaa
