/-
  The program's functions risesInOrder and meanOfRises: the mean over all orders of what an amount of sets rises. Premises: how many people there are, and what the function value that gives the amount does.
-/
import Derived.Test.YtbegdcnljafloaaRise
import Derived.Test.YtbegdcnljafloaaMeanC
import Derived.BigQuiet
import Derived.Deep.Cut
namespace Go.Proofs.Ytbegdcnljafloaa
open Go.RowKit

set_option maxRecDepth 10000 in
set_option maxHeartbeats 2000000 in
theorem risesIn_any {n : Nat} {K : FuncId} {vs : Array Value} {M : Nat → Int} (D : Option Addr) (d : Nat) (os : List Int) (w : World) (lo' hi' : Nat) (hE : Enters Try.prog K) (hF : AmtOf K vs n M w) (hA : AmtOk M n) (h4 : n ≤ 4) (hO : Ints w lo' hi' D os) (hh' : hi' ≤ w.heap.size) (ho : orderB n os = true) :
    Calls Try.prog 74 #[.slice D n d, .func (.func K) #[] vs] w (RetInts w (risesR M n os)) := by
  have HOB := Lib.hid ho
  have HF := Lib.hid hF
  have HA := Lib.hid hA
  have hpn := amt_pow h4
  obtain ⟨hpn1, hpn2⟩ := hpn
  have hEn : ∀ (args : Array Value) (w : World), (callFunc K args).run Try.prog w = .ok (.enter K args) w := hE
  have hol1 : os.length ≤ n := by have e := (order_iff ho).1; omega
  have hol2 : n ≤ os.length := by have e := (order_iff ho).1; omega
  clear ho hF hA hE
  go_enter Try.func74, Try.ntmps74
  go_upto_region 2 with (at_make; (refine make_gr (by rfl) _ _ (by rfl) (n := n) (x := (n : Int)) (by omega) (by rfl) (by rfl) (by omega) ?_; intro w1 G1_ hb2_))
  have o4_ := hO.below hb2_ (by first | omega | (simp; omega) | simp)
  have z5_ := hb2_.size
  have B6_ := (Below.refl w.heap.size w).trans (hb2_.mono (by first | omega | (simp; omega) | simp))
  clear hb2_
  have l7_ := G1_.lt
  have HL8_ : Hid ((List.replicate n 0).length = n) := List.length_replicate
  go_wp2
  go_loopw [15, 6] (fun i uu wr => ∃ q : Nat, ∃ u : Nat, i = .int .i64 q ∧ uu = .int .i64 (u : Int) ∧ (q ≤ n) ∧ (u = comeTo os q) ∧ Grow wr w.heap.size n (fnRow n (fun i => riseTo M os i q)) ∧ Below w.heap.size w wr ∧ w1.heap.size ≤ wr.heap.size ∧ Ints wr (lo') (hi') D os) (fun i uu _ => n - (intOf i).toNat)
  case atStart => exact ⟨0, 0, rfl, rfl, Nat.zero_le _, rfl, (by rw [rise_start]; exact G1_), B6_, (by first | omega | (simp; omega) | simp), o4_⟩
  case round =>
    obtain ⟨q, u, rfl, rfl, hq, hu, G10_, k11_, k12_, k13_⟩ := hrel
    obtain ⟨w9, rfl⟩ : ∃ x, x = wr := ⟨_, rfl⟩
    have HL14_ : Hid ((fnRow n (fun i => riseTo M os i q)).length = n) := (fnRow_length _ _)
    have l15_ := G10_.lt
    have hub : u < 2 ^ n := by rw [hu]; exact comeR_lt HOB.out (by omega)
    have HU := Lib.hid hu
    clear hu
    by_cases hlt0 : q < n
    · obtain ⟨b16_, f17_, rfl, _, b16_h, -⟩ := k13_ (by omega)
      have c18_ : w9.cell? ⟨b16_, f17_ + q, none⟩ = some (.int .i64 (os.getD q 0)) := k13_.at2 q (by first | omega | (simp; omega) | simp)
      have c18_i : (q : Int) < (n : Int) := by omega
      have c18_j : (0 : Int) ≤ (q : Int) := by omega
      have v19_g := (show 0 ≤ os.getD q 0 ∧ os.getD q 0 < (n : Int) from ⟨(order_at HOB.out (by omega)).1, (order_at HOB.out (by omega)).2.1⟩)
      obtain ⟨v19_, hv19_⟩ : ∃ v, v = os.getD q 0 := ⟨_, rfl⟩
      rw [← hv19_] at c18_ v19_g
      have Hv19_ := Lib.hid hv19_
      clear hv19_
      obtain ⟨v19_g1, v19_g2⟩ := v19_g
      obtain ⟨x20_, hx20_⟩ : ∃ x : Nat, v19_ = (x : Int) := ⟨(v19_).toNat, by omega⟩
      have Hx20_ := Lib.hid hx20_
      have x20_b : x20_ < n := by omega
      obtain ⟨hsh1, hsh2⟩ := pow_bd (n := x20_) (by omega)
      obtain ⟨u2, hu2⟩ : ∃ u2 : Nat, u2 = comeTo os (q + 1) := ⟨_, rfl⟩
      have hor : bits .or .i64 (u : Int) (2 ^ x20_) = (u2 : Int) := by rw [hu2]; exact comeR_bit h4 (by rw [← Hx20_.out]; exact Hv19_.out) x20_b HU.out hub
      have hub2 : u2 < 2 ^ n := by rw [hu2]; exact comeR_lt HOB.out (by omega)
      have HU2 := Lib.hid hu2
      clear hu2
      go_wp2_with fail
      refine (HF.out u2 _ (by omega) k11_).mono ?_
      rintro e w21 ⟨he, hb21_⟩
      obtain ⟨v22_, hv22_⟩ : ∃ v, M u2 = v := ⟨_, rfl⟩
      rw [hv22_] at he
      subst he
      have v22_g := HA.out.1 u2 (by omega)
      rw [hv22_] at v22_g
      obtain ⟨v22_g1, v22_g2⟩ := v22_g
      have Hv22_ := Lib.hid hv22_
      clear hv22_
      have o23_ := k13_.below hb21_ (by first | omega | (simp; omega) | simp)
      have o24_ := G10_.below hb21_ (by first | omega | (simp; omega) | simp)
      have z25_ := hb21_.size
      have B26_ := k11_.trans (hb21_.mono (by first | omega | (simp; omega) | simp))
      clear hb21_
      go_wp2_with fail
      refine (HF.out u _ (by omega) B26_).mono ?_
      rintro e w27 ⟨he, hb27_⟩
      obtain ⟨v28_, hv28_⟩ : ∃ v, M u = v := ⟨_, rfl⟩
      rw [hv28_] at he
      subst he
      have v28_g := HA.out.1 u (by omega)
      rw [hv28_] at v28_g
      obtain ⟨v28_g1, v28_g2⟩ := v28_g
      have Hv28_ := Lib.hid hv28_
      clear hv28_
      have o29_ := o23_.below hb27_ (by first | omega | (simp; omega) | simp)
      have o30_ := o24_.below hb27_ (by first | omega | (simp; omega) | simp)
      have z31_ := hb27_.size
      have B32_ := B26_.trans (hb27_.mono (by first | omega | (simp; omega) | simp))
      clear hb27_
      have c34_ := o30_.at_ x20_ (by rw [fnRow_length]; omega)
      have c34_f := o30_.soft x20_ (by rw [fnRow_length]; omega)
      have c34_i : (x20_ : Int) < (n : Int) := by omega
      have c34_j : (0 : Int) ≤ (x20_ : Int) := by omega
      have hC33_ := Chg.setCell (lo := w.heap.size) (hi := w.heap.size + 1) w27 (p := ⟨w.heap.size, x20_, none⟩) ⟨Nat.le_refl _, Nat.lt_succ_self _⟩ (.int .i64 (48 * (v22_ - v28_)))
      have G35_ := o30_.store x20_ (48 * (v22_ - v28_))
      have o36_ := o29_.chg hC33_ (by first | omega | (simp; omega) | simp) (by omega)
      have z37_ := hC33_.size
      try simp at z37_
      have B38_ := B32_.trans (hC33_.below (by omega) (by first | omega | (simp; omega) | simp))
      clear hC33_
      go_wp2
      go_roundw
      case rel => exact ⟨q + 1, u2, by go_num, by go_num, by omega, HU2.out, (by rw [← rise_step (x := x20_) (U := v22_) (L := v28_) HOB.out (by omega) (by rw [← Hx20_.out]; exact Hv19_.out) (by rw [← Hv28_.out, HU.out]) (by rw [← Hv22_.out, HU2.out])]; exact G35_), B38_, (by first | omega | (simp; omega) | simp), o36_⟩
      case measure => simp [intOf] <;> omega
    · have HQE : Hid (q = n) := by show _ = _; omega
      have hfin : risesR M n os = fnRow n (fun i => riseTo M os i q) := by rw [risesR_yes M HOB.out, HQE.out]
      have HFIN := Lib.hid hfin
      clear hfin
      go_wp2
      go_ret
      rw [HFIN.out]
      (refine retInts_grow G10_ (by omega) ?_ k11_; rw [fnRow_length])

theorem risesRow_of {n : Nat} {K : FuncId} {vs : Array Value} {M : Nat → Int} {w1 : World} {Bc : Nat} (hE : Enters Try.prog K) (hF : AmtOf K vs n M w1) (hc : w1.cell? ⟨Bc, 0, none⟩ = some (.func (.func K) #[] vs)) (hbc : Bc < w1.heap.size) (hA : AmtOk M n) (h4 : n ≤ 4) :
    RowOf 73 (.pointer (some ⟨Bc, 0, none⟩)) n (risesR M n) w1 := by
  intro D d os w lo' hi' hB hO hh' ho
  have o2 := (hB.cell (p := ⟨Bc, 0, none⟩) hbc).trans hc
  have e := risesIn_any D d os w lo' hi' hE (hF.on hB) hA h4 hO hh' ho
  clear hF hE
  go_enter Try.func73, Try.ntmps73
  go_wp2_with (go_at_call 74; refine e.mono ?_; rintro e9 w2 ⟨A2, c2, rfl, ho2, hb2⟩)
  go_ret
  exact ⟨A2, c2, rfl, ho2, hb2⟩
theorem meanRises_any {n : Nat} {K : FuncId} {vs : Array Value} {M : Nat → Int} {w : World} (hE : Enters Try.prog K) (hF : AmtOf K vs n M w) (hA : AmtOk M n) (h1 : 1 ≤ n) (h4 : n ≤ 4) :
    Calls Try.prog 61 #[.int .i64 (n : Int), .func (.func K) #[] vs] w (RetInts w (meanRow (risesR M n) n)) := by
  have c1 : (w.alloc (.cells #[.func (.func K) #[] vs] 52)).cell? ⟨w.heap.size, 0, none⟩ = some (.func (.func K) #[] vs) := by simp [go_sem]
  have b1 : Below w.heap.size w (w.alloc (.cells #[.func (.func K) #[] vs] 52)) := (Below.refl _ w).alloc (Nat.le_refl _) _
  have z1 : (w.alloc (.cells #[.func (.func K) #[] vs] 52)).heap.size = w.heap.size + 1 := by simp
  have hE1 : Enters Try.prog 73 := enters_of Try.func73 (by kernel_rfl) rfl
  have e := meanOf_any (n := n) (F := risesR M n) (w := w.alloc (.cells #[.func (.func K) #[] vs] 52)) hE1 (risesRow_of (Bc := w.heap.size) hE (hF.on b1) c1 (by omega) hA h4) (risesR_length M n) (risesR_rg hA h4) h1 h4
  have hmf : ∀ (fn : Fn) (first cap : Array Value) (w : World), (Instr.makeFunc fn first cap).run Try.prog w = .ok (.func fn first cap) w := fun _ _ _ _ => rfl
  have E1 := Lib.hid e
  clear e hE hE1 hF
  go_enter Try.func61, Try.ntmps61
  go_wp2_with fail
  refine E1.out.mono ?_
  rintro e w2 ⟨A2, c2, rfl, ho2, hb2⟩
  have ho3 : Own w2 w.heap.size w2.heap.size A2 (meanRow (risesR M n) n) := ho2.more (by omega) (Nat.le_refl _)
  have hb3 := b1.trans (hb2.mono (by omega))
  clear hmf
  go_wp2
  go_ret
  exact ⟨A2, c2, rfl, ho3, hb3⟩


end Go.Proofs.Ytbegdcnljafloaa
