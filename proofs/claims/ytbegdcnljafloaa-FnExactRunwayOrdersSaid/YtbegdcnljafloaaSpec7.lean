/-
  Chapter 7, the given package's functions: awards by an order, all orders, arrivals, what a person brings, the shares of the game. Premises: lengths that fit.
-/
import Derived.Test.YtbegdcnljafloaaOrd
import Derived.Test.YtbegdcnljafloaaGrid
import Derived.BigQuiet
import Derived.Deep.Cut
namespace Go.Proofs.Ytbegdcnljafloaa
open Go.RowKit


theorem case_rg {E : Int} {xs : List Int} (h : caseOkB E xs = true) (k : Nat) : 0 ≤ xs.getD k 0 ∧ xs.getD k 0 ≤ 48 := by
  refine ⟨case_nonneg h k, ?_⟩
  by_cases hk : k < xs.length
  · have e := case_at h k hk; rw [getD_of_lt xs k hk]; omega
  · rw [getD_far xs (by omega)]; omega
/-- What OrderAwards returns. -/
noncomputable def ordRow (E : Int) (xs os : List Int) : List Int := if caseOkB E xs = true ∧ orderB xs.length os = true then ordAw E xs os else []
theorem ord_rg {os : List Int} {n k : Nat} (h : OrdTo os n os.length) (hk : k < os.length) : 0 ≤ os.getD k 0 ∧ os.getD k 0 < n := ⟨(h k hk).1, (h k hk).2.1⟩
theorem placed_set {xs ys : List Int} {n k y : Nat} (hy : ys.getD k 0 = (y : Int)) (v : Int) (hv : xs.getD k 0 = v) : (placed xs ys n k).set y v = placed xs ys n (k + 1) := by
  simp only [placed, hy, hv]; rfl
theorem placed_zero (xs ys : List Int) (n : Nat) : placed xs ys n 0 = List.replicate n 0 := rfl
/-- What is left behind the first k. -/
def leftTo (E : Int) (xs os : List Int) (k : Nat) : Int := max (E - bef xs os k) 0
theorem bef_pos {xs os : List Int} (hx : ∀ k, 0 ≤ xs.getD k 0) : ∀ k, 0 ≤ bef xs os k
  | 0 => Int.le_refl _
  | k + 1 => by have e := bef_pos hx (os := os) k; have e2 := hx (os.getD k 0).toNat; simp only [bef]; omega
theorem left_zero {E : Int} {xs os : List Int} (h : 0 ≤ E) : leftTo E xs os 0 = E := by simp only [leftTo, bef]; omega
theorem left_step {E : Int} {xs os : List Int} {k x : Nat} {u m L : Int} (hx : ∀ k, 0 ≤ xs.getD k 0) (ho : os.getD k 0 = (x : Int)) (hu : u = xs.getD x 0) (hL : L = leftTo E xs os k) (hm : min u L = m) : L - m = leftTo E xs os (k + 1) ∧ 48 * m = posAt E xs os k := by
  have e1 := hx x
  have e2 := bef_pos hx (os := os) k
  simp only [leftTo, bef, posAt, mar, ho, Int.toNat_natCast] at *
  omega

/-- What a function that hands new rows back leaves. -/
def RetRows (w : World) (xss : List (List Int)) (e : Ending) (w' : World) : Prop :=
  ∃ g c, e = .returned (.slice (some ⟨g, 0, none⟩) xss.length c) ∧ Rows w' true w.heap.size w'.heap.size g c xss ∧ Below w.heap.size w w'
/-- A number put into a row at each of the first m places. -/
def insTo (k : Int) (y : List Int) (m : Nat) : List (List Int) := (List.range m).map fun a => y.take a ++ [k] ++ y.drop a
theorem insTo_succ (k : Int) (y : List Int) (m : Nat) : insTo k y (m + 1) = insTo k y m ++ [y.take m ++ [k] ++ y.drop m] := by simp [insTo, List.range_succ]
theorem insTo_length (k : Int) (y : List Int) (m : Nat) : (insTo k y m).length = m := by simp [insTo]
/-- It put into each of the first i rows, at each place. -/
def insAll (k : Int) (xss : List (List Int)) : Nat → List (List Int)
  | 0 => []
  | i + 1 => insAll k xss i ++ insTo k (xss.getD i []) ((xss.getD i []).length + 1)
theorem insAll_perms : ∀ k : Nat, k < 4 → insAll (k : Int) (perms k) (perms k).length = perms (k + 1)
  | 0, _ => by decide
  | 1, _ => by decide
  | 2, _ => by decide
  | 3, _ => by decide
  | k + 4, h => by omega
theorem perms_len : ∀ n, n ≤ 4 → ∀ y ∈ perms n, y.length = n
  | 0, _ => by decide
  | 1, _ => by decide
  | 2, _ => by decide
  | 3, _ => by decide
  | 4, _ => by decide
  | k + 5, h => by omega
theorem perms_at {n : Nat} (hn : n ≤ 4) {i : Nat} (hi : i < (perms n).length) : ((perms n).getD i []).length = n := by
  refine perms_len n hn _ ?_
  simp only [List.getD, List.getElem?_eq_getElem hi, Option.getD_some]
  exact List.getElem_mem hi
theorem perms_few : ∀ n, n ≤ 4 → 1 ≤ (perms n).length ∧ (perms n).length ≤ 24
  | 0, _ => by decide
  | 1, _ => by decide
  | 2, _ => by decide
  | 3, _ => by decide
  | 4, _ => by decide
  | k + 5, h => by omega
theorem perms_step : ∀ k : Nat, k < 4 → (perms k).length * (k + 1) = (perms (k + 1)).length
  | 0, _ => by decide
  | 1, _ => by decide
  | 2, _ => by decide
  | 3, _ => by decide
  | k + 4, h => by omega
theorem insAll_len {k : Nat} (hk : k ≤ 4) (x : Int) : ∀ i, i ≤ (perms k).length → (insAll x (perms k) i).length = i * (k + 1)
  | 0, _ => by simp [insAll]
  | i + 1, h => by
    simp only [insAll, List.length_append, insTo_length, insAll_len hk x i (by omega), perms_at hk (show i < (perms k).length by omega)]
    rw [Nat.add_mul]; omega

set_option maxRecDepth 10000 in
set_option maxHeartbeats 2000000 in
theorem l7Orders_any (n : Nat) (w : World) (hn : n ≤ 4) :
    Calls Try.prog 63 #[.int .i64 (n : Int)] w (RetRows w (perms n)) := by
  go_enter Try.func63, Try.ntmps63
  have B1_ := (Below.refl w.heap.size w).alloc (Nat.le_refl _) (.cells #[] 3)
  have G2_ : Grow (w.alloc (.cells #[] 3)) (w.heap.size) 0 ([] : List Int) := by have e := grow_lit w ([] : List Int) (by simp); (try simp only [hsz] at e); exact e
  have l3_ := G2_.lt
  have HL4_ : Hid (([] : List Int).length = 0) := rfl
  have lit5_ := rows_lit1 (n := 0) (d := 0) (w.alloc (.cells #[] 3)) G2_.ints (by have e := HL4_.out; omega) (by first | omega | (simp; omega) | simp) (by first | omega | (simp; omega) | simp) (by have e := G2_.room; have e2 := HL4_.out; omega) true (fun _ => ⟨_, _, rfl⟩)
  have o6_ := G2_.alloc (.cells #[.slice (some ⟨w.heap.size, 0, none⟩) 0 0] 29)
  have B7_ := B1_.alloc (by first | omega | (simp; omega) | simp) (.cells #[.slice (some ⟨w.heap.size, 0, none⟩) 0 0] 29)
  have R8_ : Rows ((w.alloc (.cells #[] 3)).alloc (.cells #[.slice (some ⟨w.heap.size, 0, none⟩) 0 0] 29)) true w.heap.size (w.heap.size + 1 + 1) (w.heap.size + 1) 1 ([([] : List Int)]) := by have e := lit5_; (try simp only [hsz] at e); exact e
  have a9_ : ((w.alloc (.cells #[] 3)).alloc (.cells #[.slice (some ⟨w.heap.size, 0, none⟩) 0 0] 29)).cell? ⟨w.heap.size + 1, 0, none⟩ = some (.slice (some ⟨w.heap.size, 0, none⟩) 0 0) := by simp [go_sem]
  go_wp2
  go_loopw [4, 3] (fun i v wr => ∃ k : Nat, ∃ go co : Nat, i = .int .i64 k ∧ v = .slice (some ⟨go, 0, none⟩) ((perms k).length) co ∧ (k ≤ n) ∧ w.heap.size ≤ go ∧ Rows wr true w.heap.size wr.heap.size go co (perms k) ∧ Below w.heap.size w wr ∧ w.heap.size + 2 ≤ wr.heap.size ∧ Grow wr w.heap.size 0 ([] : List Int) ∧ wr.cell? ⟨w.heap.size + 1, 0, none⟩ = some (.slice (some ⟨w.heap.size, 0, none⟩) 0 0)) (fun i v _ => n - (intOf i).toNat)
  case atStart => exact ⟨0, (w.heap.size + 1), 1, rfl, (slice_n (by first | rfl | omega | exact perms_step k (by omega))), by omega, (by omega), (R8_).more (by omega) (by first | omega | (simp; omega) | simp) (Nat.le_refl _), B7_, (by first | omega | (simp; omega) | simp), o6_, a9_⟩
  case round =>
    obtain ⟨k, go, co, rfl, rfl, hk, golb, G11_, k12_, k13_, k14_, k15_⟩ := hrel
    obtain ⟨w10, rfl⟩ : ∃ x, x = wr := ⟨_, rfl⟩
    have l16_ := G11_.lt
    have l17_ := G11_.ge
    have hpf := perms_few k (by omega)
    obtain ⟨hpf1, hpf2⟩ := hpf
    by_cases hlt0 : k < n
    · have o18_ := k14_.alloc (.cells #[] 29)
      have o19_ := G11_.alloc (.cells #[] 29)
      have o20_ := cell_alloc (o := (.cells #[] 29)) k15_ (by first | omega | (simp; omega) | simp)
      have B21_ := k12_.alloc (by first | omega | (simp; omega) | simp) (.cells #[] 29)
      have R22_ : Rows (w10.alloc (.cells #[] 29)) true w10.heap.size (w10.heap.size + 1) w10.heap.size 0 ([]) := by have e := rows_lit0 w10 true; (try simp only [hsz] at e); exact e
      go_wp2
      go_loopw [6, 5] (fun j v wr => ∃ i : Nat, ∃ gn cn : Nat, j = .int .i64 i ∧ v = .slice (some ⟨gn, 0, none⟩) (i * (k + 1)) cn ∧ (i ≤ (perms k).length) ∧ w10.heap.size ≤ gn ∧ Rows wr true w10.heap.size wr.heap.size gn cn (insAll (k : Int) (perms k) i) ∧ Below w.heap.size w wr ∧ w10.heap.size + 1 ≤ wr.heap.size ∧ Grow wr w.heap.size 0 ([] : List Int) ∧ Rows wr true w.heap.size w10.heap.size go co (perms k) ∧ wr.cell? ⟨w.heap.size + 1, 0, none⟩ = some (.slice (some ⟨w.heap.size, 0, none⟩) 0 0)) (fun j v _ => (perms k).length - (intOf j).toNat)
      case atStart => exact ⟨0, w10.heap.size, 0, rfl, (slice_n (by first | rfl | omega | (rw [Nat.add_mul]; omega))), by omega, (by omega), (R22_).more (by omega) (by first | omega | (simp; omega) | simp) (Nat.le_refl _), B21_, (by first | omega | (simp; omega) | simp), o18_, o19_, o20_⟩
      case round =>
        obtain ⟨i, gn, cn, rfl, rfl, hi_, gnlb, G24_, k25_, k26_, k27_, k28_, k29_⟩ := hrel
        obtain ⟨w23, rfl⟩ : ∃ x, x = wr := ⟨_, rfl⟩
        have HL30_ : Hid ((insAll (k : Int) (perms k) i).length = i * (k + 1)) := insAll_len (by omega) _ _ (by omega)
        have l31_ := G24_.lt
        have l32_ := G24_.ge
        have hik : i * (k + 1) ≤ 24 * 5 := Nat.mul_le_mul (by omega) (by omega)
        by_cases hlt2 : i < (perms k).length
        · go_wp2
          go_loopw [7, 5] (fun l v wr => ∃ a : Nat, ∃ ga ca : Nat, l = .int .i64 a ∧ v = .slice (some ⟨ga, 0, none⟩) (i * (k + 1) + a) ca ∧ (a ≤ k + 1) ∧ w10.heap.size ≤ ga ∧ Rows wr true w10.heap.size wr.heap.size ga ca (insAll (k : Int) (perms k) i ++ insTo (k : Int) ((perms k).getD i []) a) ∧ Below w.heap.size w wr ∧ w23.heap.size ≤ wr.heap.size ∧ Grow wr w.heap.size 0 ([] : List Int) ∧ Rows wr true w.heap.size w10.heap.size go co (perms k) ∧ wr.cell? ⟨w.heap.size + 1, 0, none⟩ = some (.slice (some ⟨w.heap.size, 0, none⟩) 0 0)) (fun l v _ => k + 1 - (intOf l).toNat)
          case atStart => exact ⟨0, gn, cn, rfl, (slice_n (by first | rfl | omega | simp)), by omega, (by omega), (show Rows w23 true w10.heap.size w23.heap.size gn cn (insAll (k : Int) (perms k) i ++ insTo (k : Int) ((perms k).getD i []) 0) from (by simp only [insTo, List.range_zero, List.map_nil, List.append_nil]; exact G24_)).more (by omega) (by first | omega | (simp; omega) | simp) (Nat.le_refl _), k25_, (by first | omega | (simp; omega) | simp), k27_, k28_, k29_⟩
          case round =>
            obtain ⟨a, ga, ca, rfl, rfl, ha, galb, G34_, k35_, k36_, k37_, k38_, k39_⟩ := hrel
            obtain ⟨w33, rfl⟩ : ∃ x, x = wr := ⟨_, rfl⟩
            have HL40_ : Hid ((insAll (k : Int) (perms k) i ++ insTo (k : Int) ((perms k).getD i []) a).length = i * (k + 1) + a) := (by show _ = _; rw [List.length_append, insTo_length, insAll_len (by omega) _ _ (by omega)])
            have l41_ := G34_.lt
            have l42_ := G34_.ge
            by_cases hlt4 : a ≤ k
            · obtain ⟨B43_, d44_, c45_, F46_, rm48_, F46_n⟩ := k38_.at_ i (by omega)
              obtain ⟨b49_, f50_, rfl⟩ := F46_n rfl
              obtain ⟨y47_, hy47_⟩ : ∃ y, (perms k).getD i [] = y := ⟨_, rfl⟩
              rw [hy47_] at c45_ F46_ rm48_
              have Hy47_ := Lib.hid hy47_
              clear hy47_
              have HLy47_ : Hid (y47_.length = k) := by show _ = _; rw [← Hy47_.out]; exact perms_at (by omega) (by omega)
              rw [HLy47_.out] at c45_ rm48_
              have c45_ : w33.cell? ⟨go, i, none⟩ = some (.slice (some ⟨b49_, f50_, none⟩) k d44_) := c45_
              have c45_i : (i : Int) < (((perms k).length) : Int) := by omega
              have c45_j : (0 : Int) ≤ (i : Int) := by omega
              have o51_ := k37_.alloc (.cells #[] 3)
              have o52_ := k38_.alloc (.cells #[] 3)
              have o53_ := G34_.alloc (.cells #[] 3)
              have o54_ := F46_.alloc (by first | omega | (simp; omega) | simp) (.cells #[] 3)
              have o55_ := cell_alloc (o := (.cells #[] 3)) k39_ (by first | omega | (simp; omega) | simp)
              have B56_ := k35_.alloc (by first | omega | (simp; omega) | simp) (.cells #[] 3)
              have G57_ : Grow (w33.alloc (.cells #[] 3)) (w33.heap.size) 0 ([] : List Int) := by have e := grow_lit w33 ([] : List Int) (by simp); (try simp only [hsz] at e); exact e
              have l58_ := G57_.lt
              have HL59_ : Hid (([] : List Int).length = 0) := rfl
              obtain ⟨B60_, d61_, c62_, F63_, rm65_, F63_n⟩ := o52_.at_ i (by omega)
              obtain ⟨b66_, f67_, rfl⟩ := F63_n rfl
              rw [Hy47_.out] at c62_ F63_ rm65_
              rw [HLy47_.out] at c62_ rm65_
              have c62_ : (w33.alloc (.cells #[] 3)).cell? ⟨go, i, none⟩ = some (.slice (some ⟨b66_, f67_, none⟩) k d61_) := c62_
              have c62_i : (i : Int) < (((perms k).length) : Int) := by omega
              have c62_j : (0 : Int) ≤ (i : Int) := by omega
              have HL68_k : a ≤ y47_.length := by have e := HLy47_.out; omega
              have HL68_ : Hid ((y47_.take a).length = a) := by show _ = _; rw [List.length_take]; omega
              go_upto_region 13 with (at_builtin; (refine append_grL (by rfl) _ _ (by rfl) (xs := ([] : List Int)) (ys := (y47_.take a)) (by rfl) (by have e := HL59_.out; omega) G57_ (by rfl) (by have e := HL68_.out; omega) (take_read F63_.read HL68_k) (by omega) ?_; intro g69_ c70_ L75_ w71 HL75_ L75_l L75_u G71_ hC72_ hg73_))
              have o76_ := o51_.chg hC72_ (by omega)
              have o77_ := o52_.chg hC72_ (by omega)
              have o78_ := o53_.chg hC72_ (by omega)
              have o79_ := o54_.chg hC72_ (by first | omega | (simp; omega) | simp) (by omega)
              have o80_ := F63_.chg hC72_ (by first | omega | (simp; omega) | simp) (by omega)
              have o81_ := (hC72_.cell (p := ⟨w.heap.size + 1, 0, none⟩) (by first | omega | (simp; omega) | simp) (by first | omega | (simp; omega))).trans o55_
              have z82_ := hC72_.size
              try simp at z82_
              have B83_ := B56_.trans (hC72_.below (by omega) (by first | omega | (simp; omega) | simp))
              clear hC72_
              have l84_ := G71_.lt
              have o85_ := o76_.alloc (.cells #[.int .i64 (k : Int)] 3)
              have o86_ := o77_.alloc (.cells #[.int .i64 (k : Int)] 3)
              have o87_ := o78_.alloc (.cells #[.int .i64 (k : Int)] 3)
              have o88_ := o79_.alloc (by first | omega | (simp; omega) | simp) (.cells #[.int .i64 (k : Int)] 3)
              have o89_ := o80_.alloc (by first | omega | (simp; omega) | simp) (.cells #[.int .i64 (k : Int)] 3)
              have o90_ := G71_.alloc (.cells #[.int .i64 (k : Int)] 3)
              have o91_ := cell_alloc (o := (.cells #[.int .i64 (k : Int)] 3)) o81_ (by first | omega | (simp; omega) | simp)
              have B92_ := B83_.alloc (by first | omega | (simp; omega) | simp) (.cells #[.int .i64 (k : Int)] 3)
              have G93_ : Grow (w71.alloc (.cells #[.int .i64 (k : Int)] 3)) (w71.heap.size) 1 ([(k : Int)] : List Int) := by have e := grow_lit w71 ([(k : Int)] : List Int) (by simp); (try simp only [hsz] at e); exact e
              have l94_ := G93_.lt
              have HL95_ : Hid (([(k : Int)] : List Int).length = 1) := rfl
              go_upto_region 14 with (at_builtin; (refine append_grL (by rfl) _ _ (by rfl) (xs := (([] : List Int) ++ (y47_.take a))) (ys := ([(k : Int)] : List Int)) (by rfl) (by have e := HL75_.out; omega) o90_ (by rfl) (by have e := HL95_.out; omega) (G93_.ints.read) (by omega) ?_; intro g96_ c97_ L102_ w98 HL102_ L102_l L102_u G98_ hC99_ hg100_))
              have o103_ := o85_.chg hC99_ (by omega)
              have o104_ := o86_.chg hC99_ (by omega)
              have o105_ := o87_.chg hC99_ (by omega)
              have o106_ := o88_.chg hC99_ (by first | omega | (simp; omega) | simp) (by omega)
              have o107_ := o89_.chg hC99_ (by first | omega | (simp; omega) | simp) (by omega)
              have o108_ := G93_.chg hC99_ (by omega)
              have o109_ := (hC99_.cell (p := ⟨w.heap.size + 1, 0, none⟩) (by first | omega | (simp; omega) | simp) (by first | omega | (simp; omega))).trans o91_
              have z110_ := hC99_.size
              try simp at z110_
              have B111_ := B92_.trans (hC99_.below (by omega) (by first | omega | (simp; omega) | simp))
              clear hC99_
              have l112_ := G98_.lt
              obtain ⟨B113_, d114_, c115_, F116_, rm118_, F116_n⟩ := o104_.at_ i (by omega)
              obtain ⟨b119_, f120_, rfl⟩ := F116_n rfl
              rw [Hy47_.out] at c115_ F116_ rm118_
              rw [HLy47_.out] at c115_ rm118_
              have c115_ : w98.cell? ⟨go, i, none⟩ = some (.slice (some ⟨b119_, f120_, none⟩) k d114_) := c115_
              have c115_i : (i : Int) < (((perms k).length) : Int) := by omega
              have c115_j : (0 : Int) ≤ (i : Int) := by omega
              by_cases h121_ : d114_ = a
              · have h121_s := h121_.symm
                clear h121_
                subst h121_s
                have HL122_k : a ≤ y47_.length := by have e := HLy47_.out; omega
                have HL122_ : Hid ((y47_.drop a).length = k - a) := by show _ = _; rw [List.length_drop, HLy47_.out]
                go_upto_region 11 with (first | ((at_builtin; (refine append_grL (by rfl) _ _ (by rfl) (xs := ((([] : List Int) ++ (y47_.take a)) ++ ([(k : Int)] : List Int))) (ys := (y47_.drop a)) (by rfl) (by have e := HL102_.out; omega) G98_ (by rfl) (by have e := HL122_.out; omega) (fun j hj => absurd hj (by have e := HL122_.out; have e2 := rm118_; have e3 := HLy47_.out; omega)) (by omega) ?_; intro g123_ c124_ L129_ w125 HL129_ L129_l L129_u G125_ hC126_ hg127_)); (have o130_ := o103_.chg hC126_ (by omega)); (have o131_ := o104_.chg hC126_ (by omega)); (have o132_ := o105_.chg hC126_ (by omega)); (have o133_ := o106_.chg hC126_ (by first | omega | (simp; omega) | simp) (by omega)); (have o134_ := o107_.chg hC126_ (by first | omega | (simp; omega) | simp) (by omega)); (have o135_ := o108_.chg hC126_ (by omega)); (have o136_ := F116_.chg hC126_ (by first | omega | (simp; omega) | simp) (by omega)); (have o137_ := (hC126_.cell (p := ⟨w.heap.size + 1, 0, none⟩) (by first | omega | (simp; omega) | simp) (by first | omega | (simp; omega))).trans o109_); (have z138_ := hC126_.size); (have B139_ := B111_.trans (hC126_.below (by omega) (by first | omega | (simp; omega) | simp))); (clear hC126_); (have l140_ := G125_.lt); (have lit141_ := rows_lit1 (n := L129_) (d := c124_) w125 G125_.ints (by have e := HL129_.out; omega) (by first | omega | (simp; omega) | simp) (by first | omega | (simp; omega) | simp) (by have e := G125_.room; have e2 := HL129_.out; omega) true (fun _ => ⟨_, _, rfl⟩)); (have o142_ := o130_.alloc (.cells #[.slice (some ⟨g123_, 0, none⟩) L129_ c124_] 29)); (have o143_ := o131_.alloc (.cells #[.slice (some ⟨g123_, 0, none⟩) L129_ c124_] 29)); (have o144_ := o132_.alloc (.cells #[.slice (some ⟨g123_, 0, none⟩) L129_ c124_] 29)); (have o145_ := o133_.alloc (by first | omega | (simp; omega) | simp) (.cells #[.slice (some ⟨g123_, 0, none⟩) L129_ c124_] 29)); (have o146_ := o134_.alloc (by first | omega | (simp; omega) | simp) (.cells #[.slice (some ⟨g123_, 0, none⟩) L129_ c124_] 29)); (have o147_ := o135_.alloc (.cells #[.slice (some ⟨g123_, 0, none⟩) L129_ c124_] 29)); (have o148_ := o136_.alloc (by first | omega | (simp; omega) | simp) (.cells #[.slice (some ⟨g123_, 0, none⟩) L129_ c124_] 29)); (have o149_ := G125_.alloc (.cells #[.slice (some ⟨g123_, 0, none⟩) L129_ c124_] 29)); (have o150_ := cell_alloc (o := (.cells #[.slice (some ⟨g123_, 0, none⟩) L129_ c124_] 29)) o137_ (by first | omega | (simp; omega) | simp)); (have B151_ := B139_.alloc (by first | omega | (simp; omega) | simp) (.cells #[.slice (some ⟨g123_, 0, none⟩) L129_ c124_] 29)); (have R152_ : Rows (w125.alloc (.cells #[.slice (some ⟨g123_, 0, none⟩) L129_ c124_] 29)) true g123_ (w125.heap.size + 1) w125.heap.size 1 ([(((([] : List Int) ++ (y47_.take a)) ++ ([(k : Int)] : List Int)) ++ (y47_.drop a))]) := by have e := lit141_; (try simp only [hsz] at e); exact e); (have a153_ : (w125.alloc (.cells #[.slice (some ⟨g123_, 0, none⟩) L129_ c124_] 29)).cell? ⟨w125.heap.size, 0, none⟩ = some (.slice (some ⟨g123_, 0, none⟩) L129_ c124_) := by simp [go_sem])) | (at_builtin; (refine append_rowsL (by rfl) _ _ (by rfl) (xss := (insAll (k : Int) (perms k) i ++ insTo (k : Int) ((perms k).getD i []) a)) (xs := (((([] : List Int) ++ (y47_.take a)) ++ ([(k : Int)] : List Int)) ++ (y47_.drop a))) (by rfl) (by have e := HL40_.out; omega) o144_ (by rfl) a153_ (by have e := HL129_.out; omega) o149_.ints (by omega) (by first | omega | (simp; omega) | simp) (by have e := o149_.room; have e2 := HL129_.out; omega) (fun _ => ⟨_, _, rfl⟩) (by omega) ?_; intro g154_ c155_ L160_ w156 HL160_ L160_l L160_u R156_ hC157_ hg158_)))
                have o161_ := o142_.chg hC157_ (by omega)
                have o162_ := o143_.chg hC157_ (by omega)
                have o163_ := o145_.chg hC157_ (by first | omega | (simp; omega) | simp) (by omega)
                have o164_ := o146_.chg hC157_ (by first | omega | (simp; omega) | simp) (by omega)
                have o165_ := o147_.chg hC157_ (by omega)
                have o166_ := o148_.chg hC157_ (by first | omega | (simp; omega) | simp) (by omega)
                have o167_ := o149_.chg hC157_ (by omega)
                have o168_ := R152_.chg hC157_ (by omega)
                have o169_ := (hC157_.cell (p := ⟨w.heap.size + 1, 0, none⟩) (by first | omega | (simp; omega) | simp) (by first | omega | (simp; omega))).trans o150_
                have o170_ := (hC157_.cell (p := ⟨w125.heap.size, 0, none⟩) (by first | omega | (simp; omega) | simp) (by first | omega | (simp; omega))).trans a153_
                have z171_ := hC157_.size
                try simp at z171_
                have B172_ := B151_.trans (hC157_.below (by omega) (by first | omega | (simp; omega) | simp))
                clear hC157_
                have l173_ := R156_.lt
                have l174_ := R156_.ge
                have HL175_ : Hid (((insAll (k : Int) (perms k) i ++ insTo (k : Int) ((perms k).getD i []) a) ++ [(((([] : List Int) ++ (y47_.take a)) ++ ([(k : Int)] : List Int)) ++ (y47_.drop a))]).length = L160_) := by show _ = _; rw [List.length_append, HL40_.out, HL160_.out]; rfl
                go_wp2
                go_roundw
                case rel => exact ⟨a + 1, g154_, c155_, by go_num, (slice_n (by first | rfl | omega | simp)), by omega, (by omega), (show Rows w156 true w10.heap.size w156.heap.size g154_ c155_ (insAll (k : Int) (perms k) i ++ insTo (k : Int) ((perms k).getD i []) (a + 1)) from (by have e := R156_; rw [Hy47_.out] at e; rw [insTo_succ, ← List.append_assoc, Hy47_.out]; exact e)).more (by omega) (by first | omega | (simp; omega) | simp) (Nat.le_refl _), B172_, (by first | omega | (simp; omega) | simp), o161_, o162_, o169_⟩
                case measure => simp [intOf] <;> omega
              · have HL122_k : a ≤ y47_.length := by have e := HLy47_.out; omega
                have HL122_ : Hid ((y47_.drop a).length = k - a) := by show _ = _; rw [List.length_drop, HLy47_.out]
                go_upto_region 11 with (first | ((at_builtin; (refine append_grL (by rfl) _ _ (by rfl) (xs := ((([] : List Int) ++ (y47_.take a)) ++ ([(k : Int)] : List Int))) (ys := (y47_.drop a)) (by rfl) (by have e := HL102_.out; omega) G98_ (by rfl) (by have e := HL122_.out; omega) (drop_read F116_.read) (by omega) ?_; intro g123_ c124_ L129_ w125 HL129_ L129_l L129_u G125_ hC126_ hg127_)); (have o130_ := o103_.chg hC126_ (by omega)); (have o131_ := o104_.chg hC126_ (by omega)); (have o132_ := o105_.chg hC126_ (by omega)); (have o133_ := o106_.chg hC126_ (by first | omega | (simp; omega) | simp) (by omega)); (have o134_ := o107_.chg hC126_ (by first | omega | (simp; omega) | simp) (by omega)); (have o135_ := o108_.chg hC126_ (by omega)); (have o136_ := F116_.chg hC126_ (by first | omega | (simp; omega) | simp) (by omega)); (have o137_ := (hC126_.cell (p := ⟨w.heap.size + 1, 0, none⟩) (by first | omega | (simp; omega) | simp) (by first | omega | (simp; omega))).trans o109_); (have z138_ := hC126_.size); (have B139_ := B111_.trans (hC126_.below (by omega) (by first | omega | (simp; omega) | simp))); (clear hC126_); (have l140_ := G125_.lt); (have lit141_ := rows_lit1 (n := L129_) (d := c124_) w125 G125_.ints (by have e := HL129_.out; omega) (by first | omega | (simp; omega) | simp) (by first | omega | (simp; omega) | simp) (by have e := G125_.room; have e2 := HL129_.out; omega) true (fun _ => ⟨_, _, rfl⟩)); (have o142_ := o130_.alloc (.cells #[.slice (some ⟨g123_, 0, none⟩) L129_ c124_] 29)); (have o143_ := o131_.alloc (.cells #[.slice (some ⟨g123_, 0, none⟩) L129_ c124_] 29)); (have o144_ := o132_.alloc (.cells #[.slice (some ⟨g123_, 0, none⟩) L129_ c124_] 29)); (have o145_ := o133_.alloc (by first | omega | (simp; omega) | simp) (.cells #[.slice (some ⟨g123_, 0, none⟩) L129_ c124_] 29)); (have o146_ := o134_.alloc (by first | omega | (simp; omega) | simp) (.cells #[.slice (some ⟨g123_, 0, none⟩) L129_ c124_] 29)); (have o147_ := o135_.alloc (.cells #[.slice (some ⟨g123_, 0, none⟩) L129_ c124_] 29)); (have o148_ := o136_.alloc (by first | omega | (simp; omega) | simp) (.cells #[.slice (some ⟨g123_, 0, none⟩) L129_ c124_] 29)); (have o149_ := G125_.alloc (.cells #[.slice (some ⟨g123_, 0, none⟩) L129_ c124_] 29)); (have o150_ := cell_alloc (o := (.cells #[.slice (some ⟨g123_, 0, none⟩) L129_ c124_] 29)) o137_ (by first | omega | (simp; omega) | simp)); (have B151_ := B139_.alloc (by first | omega | (simp; omega) | simp) (.cells #[.slice (some ⟨g123_, 0, none⟩) L129_ c124_] 29)); (have R152_ : Rows (w125.alloc (.cells #[.slice (some ⟨g123_, 0, none⟩) L129_ c124_] 29)) true g123_ (w125.heap.size + 1) w125.heap.size 1 ([(((([] : List Int) ++ (y47_.take a)) ++ ([(k : Int)] : List Int)) ++ (y47_.drop a))]) := by have e := lit141_; (try simp only [hsz] at e); exact e); (have a153_ : (w125.alloc (.cells #[.slice (some ⟨g123_, 0, none⟩) L129_ c124_] 29)).cell? ⟨w125.heap.size, 0, none⟩ = some (.slice (some ⟨g123_, 0, none⟩) L129_ c124_) := by simp [go_sem])) | (at_builtin; (refine append_rowsL (by rfl) _ _ (by rfl) (xss := (insAll (k : Int) (perms k) i ++ insTo (k : Int) ((perms k).getD i []) a)) (xs := (((([] : List Int) ++ (y47_.take a)) ++ ([(k : Int)] : List Int)) ++ (y47_.drop a))) (by rfl) (by have e := HL40_.out; omega) o144_ (by rfl) a153_ (by have e := HL129_.out; omega) o149_.ints (by omega) (by first | omega | (simp; omega) | simp) (by have e := o149_.room; have e2 := HL129_.out; omega) (fun _ => ⟨_, _, rfl⟩) (by omega) ?_; intro g154_ c155_ L160_ w156 HL160_ L160_l L160_u R156_ hC157_ hg158_)))
                have o161_ := o142_.chg hC157_ (by omega)
                have o162_ := o143_.chg hC157_ (by omega)
                have o163_ := o145_.chg hC157_ (by first | omega | (simp; omega) | simp) (by omega)
                have o164_ := o146_.chg hC157_ (by first | omega | (simp; omega) | simp) (by omega)
                have o165_ := o147_.chg hC157_ (by omega)
                have o166_ := o148_.chg hC157_ (by first | omega | (simp; omega) | simp) (by omega)
                have o167_ := o149_.chg hC157_ (by omega)
                have o168_ := R152_.chg hC157_ (by omega)
                have o169_ := (hC157_.cell (p := ⟨w.heap.size + 1, 0, none⟩) (by first | omega | (simp; omega) | simp) (by first | omega | (simp; omega))).trans o150_
                have o170_ := (hC157_.cell (p := ⟨w125.heap.size, 0, none⟩) (by first | omega | (simp; omega) | simp) (by first | omega | (simp; omega))).trans a153_
                have z171_ := hC157_.size
                try simp at z171_
                have B172_ := B151_.trans (hC157_.below (by omega) (by first | omega | (simp; omega) | simp))
                clear hC157_
                have l173_ := R156_.lt
                have l174_ := R156_.ge
                have HL175_ : Hid (((insAll (k : Int) (perms k) i ++ insTo (k : Int) ((perms k).getD i []) a) ++ [(((([] : List Int) ++ (y47_.take a)) ++ ([(k : Int)] : List Int)) ++ (y47_.drop a))]).length = L160_) := by show _ = _; rw [List.length_append, HL40_.out, HL160_.out]; rfl
                go_wp2
                go_roundw
                case rel => exact ⟨a + 1, g154_, c155_, by go_num, (slice_n (by first | rfl | omega | simp)), by omega, (by omega), (show Rows w156 true w10.heap.size w156.heap.size g154_ c155_ (insAll (k : Int) (perms k) i ++ insTo (k : Int) ((perms k).getD i []) (a + 1)) from (by have e := R156_; rw [Hy47_.out] at e; rw [insTo_succ, ← List.append_assoc, Hy47_.out]; exact e)).more (by omega) (by first | omega | (simp; omega) | simp) (Nat.le_refl _), B172_, (by first | omega | (simp; omega) | simp), o161_, o162_, o169_⟩
                case measure => simp [intOf] <;> omega
            · obtain rfl : a = k + 1 := by omega
              obtain ⟨B43_, d44_, c45_, F46_, rm48_, F46_n⟩ := k38_.at_ i (by omega)
              obtain ⟨b49_, f50_, rfl⟩ := F46_n rfl
              obtain ⟨y47_, hy47_⟩ : ∃ y, (perms k).getD i [] = y := ⟨_, rfl⟩
              rw [hy47_] at c45_ F46_ rm48_
              have Hy47_ := Lib.hid hy47_
              clear hy47_
              have HLy47_ : Hid (y47_.length = k) := by show _ = _; rw [← Hy47_.out]; exact perms_at (by omega) (by omega)
              rw [HLy47_.out] at c45_ rm48_
              have c45_ : w33.cell? ⟨go, i, none⟩ = some (.slice (some ⟨b49_, f50_, none⟩) k d44_) := c45_
              have c45_i : (i : Int) < (((perms k).length) : Int) := by omega
              have c45_j : (0 : Int) ≤ (i : Int) := by omega
              go_wp2
              go_roundw
              case rel => exact ⟨i + 1, ga, ca, by go_num, (slice_n (by first | rfl | omega | (rw [Nat.add_mul]; omega))), by omega, (by omega), (show Rows w33 true w10.heap.size w33.heap.size ga ca (insAll (k : Int) (perms k) (i + 1)) from (by simp only [insAll, perms_at (show k ≤ 4 by omega) (show i < (perms k).length by omega)]; exact G34_)).more (by omega) (by first | omega | (simp; omega) | simp) (Nat.le_refl _), k35_, (by first | omega | (simp; omega) | simp), k37_, k38_, k39_⟩
              case measure => simp [intOf] <;> omega
        · obtain rfl : i = (perms k).length := by omega
          go_wp2
          go_roundw
          case rel => exact ⟨k + 1, gn, cn, by go_num, (slice_n (by first | rfl | omega | exact perms_step k (by omega))), by omega, (by omega), (show Rows w23 true w10.heap.size w23.heap.size gn cn (perms (k + 1)) from (by rw [← insAll_perms k (by omega)]; exact G24_)).more (by omega) (by first | omega | (simp; omega) | simp) (Nat.le_refl _), k25_, (by first | omega | (simp; omega) | simp), k27_, k29_⟩
          case measure => simp [intOf] <;> omega
    · obtain rfl : k = n := by omega
      go_wp2
      go_ret
      exact ⟨go, co, rfl, G11_.more (by omega) (by first | omega | (simp; omega) | simp) (Nat.le_refl _), k12_⟩


end Go.Proofs.Ytbegdcnljafloaa
