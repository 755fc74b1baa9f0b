/-
  slices.Clone hands back a new slice with the same numbers. No condition but that it is not empty, and a length that fits.
-/
import Derived.Test.YtilhholjbjhaeaaSum
import Derived.Lib.SliceRun
namespace Go.Proofs.Ytilhholjbjhaeaa
open Go.RowKit

theorem info_int : (Try.prog.info? 3).map (fun i => (i.zero, i.size, i.bytes)) = some (some (.int .i64 0), 1, 8) := by kernel_rfl

set_option maxRecDepth 10000 in
set_option maxHeartbeats 400000 in
theorem clone_any (A : Option Addr) (c : Nat) (xs : List Int) (w : World) (lo hi : Nat) (h : Ints w lo hi A xs) (hh : hi ≤ w.heap.size) (hn : 0 < xs.length) (hl : xs.length ≤ 1048576) :
    Calls Try.prog 38 #[.slice A xs.length c] w (RetInts w xs) := by
  obtain ⟨i0, hi0, hz0, hz1, hz2⟩ := info_parts info_int
  obtain ⟨b, o, rfl, h1, h2, hnews⟩ := h.news hn
  have qT : ∀ (w : World) (a : Option Addr) (n c n' c' : Nat), (binOp .eql 29 (.slice a n c) (.slice none n' c')).run Try.prog w = .ok (.bool a.isNone) w := fun w a n c n' c' => Lib.run_eql_slice_nil w _ _ a n c n' c' Try.underlying29
  have hown : (w.alloc (.cells #[] 3)).ownsRow w.heap.size 3 1 (.slice (some ⟨w.heap.size, 0, none⟩) 0 0) 0 [] := World.ownsRow_made w #[] 0 (Nat.le_refl _) (by unfold maxLen; omega) rfl
  have hnews' : ∀ j u, (ints xs)[j]? = some u → (w.alloc (.cells #[] 3)).cell? ((⟨b, o, none⟩ : Addr).add j) = some u := fun j u hu => by
    rw [World.cell?_alloc_lt w _ _ (by rw [addr_add]; show b < _; omega)]; exact hnews j u hu
  have hone := ints_one xs
  have hlen : Hid ((ints xs).length = xs.length * 1) := by show _ = _; rw [ints_length]; omega
  have hB : w.heap.size ≤ (w.alloc (.cells #[] 3)).heap.size := by simp
  go_enter Try.func38, Try.ntmps38
  go_wp2_with (at_builtin; refine wpList_append_own _ rfl _ _ 29 rfl w.heap.size 3 i0 (.int .i64 0) 1 8 Try.underlying29 hi0 hz0 hz1 hz2 rfl (by decide) _ _ _ rfl hown ⟨b, o, none⟩ xs.length c (ints xs) rfl hlen.out hnews' hone (by unfold maxLen; omega) (by omega) hB ?_; intro v1 w1 hown1 hgrow1 _)
  go_ret
  rw [Nat.zero_add, List.nil_append] at hown1
  obtain ⟨A', c', e1, _, ho⟩ := own_of_row hown1
  refine ⟨A', c', congrArg Ending.returned e1, ho, ((Below.refl w.heap.size w).alloc (Nat.le_refl _) _).grown hgrow1 hB (fun k hk => ?_)⟩
  have e : w.heap.size = k := by injection hk
  omega

end Go.Proofs.Ytilhholjbjhaeaa
