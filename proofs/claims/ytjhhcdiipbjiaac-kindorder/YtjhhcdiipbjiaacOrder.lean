/- For every type, KindOrder returns true and leaves its argument as it was: of a good type, what can be compared can be told, and what can be told can be copied and kept. No condition. -/
import Derived.Test.YtjhhcdiipbjiaacRows
import Derived.Test.YtjhhcdiipbjiaacNames
import Derived.Test.YtjhhcdiipbjiaacOpenT
namespace Go.Proofs.Ytjhhcdiipbjiaac.kindOrder
open Go.ChangeShapes Go.WideShapes Go.ChangeAt Go.RowKit
set_option linter.unusedVariables false

set_option maxHeartbeats 1000000 in
theorem walk {w : World} {T : Ty} {v : Value} (hL : LiesT (· < w.heap.size) w T v) :
    Calls Try.prog 3 #[v] w fun e w' => e = .returned (.bool true) ∧ w.grownBy w' none := by
  obtain ⟨a, c, V, rfl, it, hR⟩ := hL.inv
  have hA : ∀ w3, w.grownBy w3 none → Calls Try.prog 4 #[tyV T.t a T.args.length c] w3 fun e w' => e = .returned (.bool (goodTy T)) ∧ w3.grownBy w' none := fun w3 hg => kgood_any (hL.grow hg)
  cases hgd : goodTy T with
  | false =>
    rw [hgd] at hA
    have HA := Lf.hide hA
    clear hA hgd hL hR it
    unfold tyV at HA ⊢
    have HG0 := Lf.hide (Lf.gb (w := w) (.cells #[.int .i64 T.t, .slice a T.args.length c] 24))
    have HB0 := Lf.hide (heap_alloc_new w (.cells #[.int .i64 T.t, .slice a T.args.length c] 24))
    go_enter Try.func3, Try.ntmps3
    go_wp2_with fail
    refine (HA.out _ HG0.out).mono ?_; rintro e w1 ⟨rfl, hg1⟩
    have HB1 := Lf.hide ((hg1.block _ (lt_of_block HB0.out) (by simp)).trans HB0.out)
    have x1 := cell0_of HB1.out
    have y1 := cell1_of HB1.out
    have HG1 := Lf.hide (Lf.gbt HG0.out hg1)
    clear hg1
    go_wp2_with fail
    refine (names_any _).mono ?_; rintro e w2 ⟨rfl, hg2⟩
    have HG2 := Lf.hide (Lf.gbt HG1.out hg2)
    clear hg2
    go_wp2_with fail
    go_ret
    exact ⟨rfl, HG2.out⟩
  | true =>
    have hz : T.size ≤ 50000000 := by have := (goodTy_formed hgd).2.1; omega
    have hC : ∀ w3, w.grownBy w3 none → Calls Try.prog 6 #[tyV T.t a T.args.length c] w3 fun e w' => e = .returned (.bool (compT T)) ∧ w3.grownBy w' none := fun w3 hg => comparable_any (hL.grow hg) hz
    have hP : ∀ w3, w.grownBy w3 none → Calls Try.prog 7 #[tyV T.t a T.args.length c] w3 fun e w' => e = .returned (.bool (packT T)) ∧ w3.grownBy w' none := fun w3 hg => packed_any (hL.grow hg) hz
    have hD : ∀ w3, w.grownBy w3 none → Calls Try.prog 8 #[tyV T.t a T.args.length c] w3 fun e w' => e = .returned (.bool (copyT T)) ∧ w3.grownBy w' none := fun w3 hg => copied_any (hL.grow hg) hz
    have hS : ∀ w3, w.grownBy w3 none → Calls Try.prog 9 #[tyV T.t a T.args.length c] w3 fun e w' => e = .returned (.bool (storeT T)) ∧ w3.grownBy w' none := fun w3 hg => stored_any (hL.grow hg) hz
    rw [hgd] at hA
    have HA := Lf.hide hA
    have h1 := comp_pack T
    have h2 := pack_copy T
    have h3 := pack_store T
    clear hA hgd hL hR it hz
    unfold tyV at HA hC hP hD hS ⊢
    cases hc : compT T with
    | true =>
      have hp := h1 hc
      rw [hc] at hC
      rw [hp] at hP
      rw [h2 hp] at hD
      rw [h3 hp] at hS
      have HC := Lf.hide hC
      have HP := Lf.hide hP
      have HD := Lf.hide hD
      have HS := Lf.hide hS
      clear hC hP hD hS hc hp h1 h2 h3
      have HG0 := Lf.hide (Lf.gb (w := w) (.cells #[.int .i64 T.t, .slice a T.args.length c] 24))
      have HB0 := Lf.hide (heap_alloc_new w (.cells #[.int .i64 T.t, .slice a T.args.length c] 24))
      go_enter Try.func3, Try.ntmps3
      go_wp2_with fail
      refine (HA.out _ HG0.out).mono ?_; rintro e w1 ⟨rfl, hg1⟩
      have HB1 := Lf.hide ((hg1.block _ (lt_of_block HB0.out) (by simp)).trans HB0.out)
      have x1 := cell0_of HB1.out
      have y1 := cell1_of HB1.out
      have HG1 := Lf.hide (Lf.gbt HG0.out hg1)
      clear hg1
      go_wp2_with fail
      refine (HC.out _ HG1.out).mono ?_; rintro e w2 ⟨rfl, hg2⟩
      have HB2 := Lf.hide ((hg2.block _ (lt_of_block HB1.out) (by simp)).trans HB1.out)
      have x2 := cell0_of HB2.out
      have y2 := cell1_of HB2.out
      have HG2 := Lf.hide (Lf.gbt HG1.out hg2)
      clear hg2
      go_wp2_with fail
      refine (HP.out _ HG2.out).mono ?_; rintro e w3 ⟨rfl, hg3⟩
      have HB3 := Lf.hide ((hg3.block _ (lt_of_block HB2.out) (by simp)).trans HB2.out)
      have x3 := cell0_of HB3.out
      have y3 := cell1_of HB3.out
      have HG3 := Lf.hide (Lf.gbt HG2.out hg3)
      clear hg3
      go_wp2_with fail
      refine (HP.out _ HG3.out).mono ?_; rintro e w4 ⟨rfl, hg4⟩
      have HB4 := Lf.hide ((hg4.block _ (lt_of_block HB3.out) (by simp)).trans HB3.out)
      have x4 := cell0_of HB4.out
      have y4 := cell1_of HB4.out
      have HG4 := Lf.hide (Lf.gbt HG3.out hg4)
      clear hg4
      go_wp2_with fail
      refine (HD.out _ HG4.out).mono ?_; rintro e w5 ⟨rfl, hg5⟩
      have HB5 := Lf.hide ((hg5.block _ (lt_of_block HB4.out) (by simp)).trans HB4.out)
      have x5 := cell0_of HB5.out
      have y5 := cell1_of HB5.out
      have HG5 := Lf.hide (Lf.gbt HG4.out hg5)
      clear hg5
      go_wp2_with fail
      refine (HS.out _ HG5.out).mono ?_; rintro e w6 ⟨rfl, hg6⟩
      have HB6 := Lf.hide ((hg6.block _ (lt_of_block HB5.out) (by simp)).trans HB5.out)
      have x6 := cell0_of HB6.out
      have y6 := cell1_of HB6.out
      have HG6 := Lf.hide (Lf.gbt HG5.out hg6)
      clear hg6
      go_wp2_with fail
      refine (names_any _).mono ?_; rintro e w7 ⟨rfl, hg7⟩
      have HG7 := Lf.hide (Lf.gbt HG6.out hg7)
      clear hg7
      go_wp2_with fail
      go_ret
      exact ⟨rfl, HG7.out⟩
    | false =>
      cases hp : packT T with
      | true =>
        rw [hc] at hC
        rw [hp] at hP
        rw [h2 hp] at hD
        rw [h3 hp] at hS
        have HC := Lf.hide hC
        have HP := Lf.hide hP
        have HD := Lf.hide hD
        have HS := Lf.hide hS
        clear hC hP hD hS hc hp h1 h2 h3
        have HG0 := Lf.hide (Lf.gb (w := w) (.cells #[.int .i64 T.t, .slice a T.args.length c] 24))
        have HB0 := Lf.hide (heap_alloc_new w (.cells #[.int .i64 T.t, .slice a T.args.length c] 24))
        go_enter Try.func3, Try.ntmps3
        go_wp2_with fail
        refine (HA.out _ HG0.out).mono ?_; rintro e w1 ⟨rfl, hg1⟩
        have HB1 := Lf.hide ((hg1.block _ (lt_of_block HB0.out) (by simp)).trans HB0.out)
        have x1 := cell0_of HB1.out
        have y1 := cell1_of HB1.out
        have HG1 := Lf.hide (Lf.gbt HG0.out hg1)
        clear hg1
        go_wp2_with fail
        refine (HC.out _ HG1.out).mono ?_; rintro e w2 ⟨rfl, hg2⟩
        have HB2 := Lf.hide ((hg2.block _ (lt_of_block HB1.out) (by simp)).trans HB1.out)
        have x2 := cell0_of HB2.out
        have y2 := cell1_of HB2.out
        have HG2 := Lf.hide (Lf.gbt HG1.out hg2)
        clear hg2
        go_wp2_with fail
        refine (HP.out _ HG2.out).mono ?_; rintro e w3 ⟨rfl, hg3⟩
        have HB3 := Lf.hide ((hg3.block _ (lt_of_block HB2.out) (by simp)).trans HB2.out)
        have x3 := cell0_of HB3.out
        have y3 := cell1_of HB3.out
        have HG3 := Lf.hide (Lf.gbt HG2.out hg3)
        clear hg3
        go_wp2_with fail
        refine (HD.out _ HG3.out).mono ?_; rintro e w4 ⟨rfl, hg4⟩
        have HB4 := Lf.hide ((hg4.block _ (lt_of_block HB3.out) (by simp)).trans HB3.out)
        have x4 := cell0_of HB4.out
        have y4 := cell1_of HB4.out
        have HG4 := Lf.hide (Lf.gbt HG3.out hg4)
        clear hg4
        go_wp2_with fail
        refine (HS.out _ HG4.out).mono ?_; rintro e w5 ⟨rfl, hg5⟩
        have HB5 := Lf.hide ((hg5.block _ (lt_of_block HB4.out) (by simp)).trans HB4.out)
        have x5 := cell0_of HB5.out
        have y5 := cell1_of HB5.out
        have HG5 := Lf.hide (Lf.gbt HG4.out hg5)
        clear hg5
        go_wp2_with fail
        refine (names_any _).mono ?_; rintro e w6 ⟨rfl, hg6⟩
        have HG6 := Lf.hide (Lf.gbt HG5.out hg6)
        clear hg6
        go_wp2_with fail
        go_ret
        exact ⟨rfl, HG6.out⟩
      | false =>
        rw [hc] at hC
        rw [hp] at hP
        have HC := Lf.hide hC
        have HP := Lf.hide hP
        clear hC hP hD hS hc hp h1 h2 h3
        have HG0 := Lf.hide (Lf.gb (w := w) (.cells #[.int .i64 T.t, .slice a T.args.length c] 24))
        have HB0 := Lf.hide (heap_alloc_new w (.cells #[.int .i64 T.t, .slice a T.args.length c] 24))
        go_enter Try.func3, Try.ntmps3
        go_wp2_with fail
        refine (HA.out _ HG0.out).mono ?_; rintro e w1 ⟨rfl, hg1⟩
        have HB1 := Lf.hide ((hg1.block _ (lt_of_block HB0.out) (by simp)).trans HB0.out)
        have x1 := cell0_of HB1.out
        have y1 := cell1_of HB1.out
        have HG1 := Lf.hide (Lf.gbt HG0.out hg1)
        clear hg1
        go_wp2_with fail
        refine (HC.out _ HG1.out).mono ?_; rintro e w2 ⟨rfl, hg2⟩
        have HB2 := Lf.hide ((hg2.block _ (lt_of_block HB1.out) (by simp)).trans HB1.out)
        have x2 := cell0_of HB2.out
        have y2 := cell1_of HB2.out
        have HG2 := Lf.hide (Lf.gbt HG1.out hg2)
        clear hg2
        go_wp2_with fail
        refine (HP.out _ HG2.out).mono ?_; rintro e w3 ⟨rfl, hg3⟩
        have HB3 := Lf.hide ((hg3.block _ (lt_of_block HB2.out) (by simp)).trans HB2.out)
        have x3 := cell0_of HB3.out
        have y3 := cell1_of HB3.out
        have HG3 := Lf.hide (Lf.gbt HG2.out hg3)
        clear hg3
        go_wp2_with fail
        refine (names_any _).mono ?_; rintro e w4 ⟨rfl, hg4⟩
        have HG4 := Lf.hide (Lf.gbt HG3.out hg4)
        clear hg4
        go_wp2_with fail
        go_ret
        exact ⟨rfl, HG4.out⟩

theorem own : ownKnob Try.prog.godebug = none := by kernel_rfl
theorem laidOut : laidOutB Try.prog = true := by kernel_rfl

theorem below_of {w w' : World} (h : w.grownBy w' none) : Below w.heap.size w w' := ⟨h.os, h.tape, h.output, h.size, fun k hk => h.block k hk (by simp)⟩

set_option maxRecDepth 100000 in
theorem lifted (os : Os) (started : os.Started) (H : Type) (enc : TypeId × Value → H) :
    ReturnsInHanded {} Try.checked os 3 .any (Rows.kindOrderSpec.pre6 enc Try.prog Try.f3 Rows.kindOrderRow.domain false) (Rows.kindOrderSpec.post enc Try.prog Try.f3 false true false false) := by
  refine returnsInHanded_of_change (C := Try.checked) own started (by kernel_rfl) Try.func3
    (ChangeSpec.witness6 (enc := enc) (C := Try.checked) false ⟨#[], #[.agg #[.int .i64 0, .slice none 0 0]], []⟩ 8 (by kernel_rfl) (by kernel_rfl) (by kernel_rfl) (by kernel_rfl)) ?_
  intro W base args ds gs before hval0 hW hcnd _
  have hval : ∀ (j : Nat) t v, Try.f3.params[j]? = some t → args[j]? = some v → Value.okWide Try.prog W .any base t v := hval0
  have hW' := hW
  obtain ⟨p, q, hA0, hV, rfl, hfz, hnd⟩ := hW
  have hA : DataW.TrodAll enc Try.prog W 0 (fun _ => true) true Try.f3.params.toList args.toList ds p := hA0
  rw [Try.params3] at hA hval
  obtain ⟨v0, vs0, d0, ds0, p0, q0, hargs, rfl, rfl, h0, r0⟩ := trodAll_cons hA
  obtain ⟨rfl, rfl, rfl⟩ := trodAll_nil r0
  obtain rfl : args = #[v0] := by cases args; simp_all
  obtain ⟨rfl, rfl⟩ := trodVars_none hV
  obtain ⟨t, hL, _⟩ := open_argT (hval 0 24 v0 rfl rfl) h0
  clear hA0 hval0
  simp only [List.append_nil] at hW'
  have hlt : ∀ x ∈ p0, x.block < W.heap.size := fun x hx => by simpa using hW'.lt x hx
  refine (walk hL).mono fun e W' ⟨he, hg⟩ => ?_
  subst he
  have hB := below_of hg
  exact ⟨_, rfl, _, _, _, [], p0 ++ [], [], hW', trodAll_cons_mk (shut_bool Try.underlying4 _) trodAll_mk0, trodAll_cons_mk (Below.trod laidOut (by kernel_rfl) (of_decide_eq_true (by kernel_rfl)) h0 hB hlt) trodAll_mk0, rfl, hB.frame _, fun h => by cases h⟩

theorem over : Rows.kindOrderRow.holds Try.pinned (OpenSpec.ofChange Rows.kindOrderSpec) :=
  OpenClaim.holds_of_wide 3 Try.f3 rfl rfl rfl rfl rfl rfl rfl ⟨rfl, rfl, rfl, rfl, rfl⟩ rfl rfl rfl rfl rfl (by kernel_rfl) Try.func3 (by kernel_rfl)
    (of_decide_eq_true (by kernel_rfl)) (by unfold Func.isWrapper; first | (rw [if_pos (by decide +kernel)]; kernel_rfl) | (rw [if_neg (by decide +kernel)]; exact ⟨rfl, rfl⟩))
    (fun os started H enc _ => lifted os started H enc)

end Go.Proofs.Ytjhhcdiipbjiaac.kindOrder

namespace Go.Proofs.Ytjhhcdiipbjiaac
theorem kindOrder_holds : Rows.KindOrderSaid := kindOrder.over
#print axioms kindOrder_holds
end Go.Proofs.Ytjhhcdiipbjiaac
