/- For all numbers a and b of 64 bits, NumDivides returns true and leaves its arguments as they were: a quotient and its rest make the number again, the rest is from 0 to less than the divisor, and where there is no quotient both answers are 0. No condition. -/
import Derived.Test.YtlambneopjecbaaRows
import Derived.WalkKit
import Derived.ProofKit
import Derived.OpenShut
import Derived.Test.YtlambneopjecbaaNum
namespace Go.Proofs.Ytlambneopjecbaa.numDivides
open Go.ChangeShapes Go.WideShapes Go.ChangeAt Go.RowKit
set_option linter.unusedVariables false

theorem own : ownKnob Try.prog.godebug = none := by kernel_rfl

theorem grownN {W w' : World} (h : Grown W w') (n : Nat) : Grown W (w'.drewN n) := h

/-! The walk: the law returns true, and nothing that was there has turned. -/
theorem walk (a0 : Int) (a1 : Int) (w0 : (Lit.int .i64 a0).wf = true) (w1 : (Lit.int .i64 a1).wf = true) (w : World) :
    Calls Try.prog 5 #[.int .i64 a0, .int .i64 a1] w fun e w' => e = .returned (.bool true) ∧ Grown w w' := by
  rcases Ar.ediv_cases a0 a1 with ⟨ha, hb, hn, e⟩ | ⟨ha, hb, hn, e⟩ | ⟨hn, e⟩
  · have ha' := Ar.inB_true ha
    have hb' := Ar.inB_true hb
    have hC : Hid (∀ w, Calls Try.prog 15 #[.int .i64 a0, .int .i64 a1] w fun e w' => e = .returned (.tuple #[.int .i64 (a0 / a1), .int .i64 (a0 % a1), .int .i64 0]) ∧ ∃ n, w' = w.drewN n) := fun w => Nu.ediv_in a0 a1 w ha' hb' hn
    obtain ⟨hq1, hq2⟩ := Ar.quo_bd (b := a1) ha'
    obtain ⟨hr1, hr2⟩ := Ar.rest_bd (a := a0) hn
    have hqr := Ar.quo_rest a0 a1
    generalize a0 / a1 = q at *
    generalize a0 % a1 = r at *
    have hS : Hid (∀ w, Calls Try.prog 13 #[.int .i64 a1] w fun e w' => e = .returned (.tuple #[.int .i64 (a1.natAbs : Int), .int .i64 0]) ∧ w' = w) := by
      intro w
      have h := Nu.abs_any a1 w
      have e1 : Ar.absF a1 = ((a1.natAbs : Int), 0) := by unfold Ar.absF; rw [if_pos hb]
      rw [e1] at h
      exact h
    have hp1 : -2305843009213693953 ≤ q * a1 := by omega
    have hp2 : q * a1 ≤ 2305843009213693953 := by omega
    have hr3 : r ≤ 1152921504606846976 := by omega
    have hfin : (q * a1 + r == a0) = true := beq_iff_eq.2 hqr
    clear hqr ha hb e hn ha' hb'
    go_enter Try.func5, Try.ntmps5
    go_wp2_with fail
    refine (hC _).mono ?_; rintro e w' ⟨rfl, n1, rfl⟩
    go_wp2_with fail
    refine (Nu.reckons_keep _).mono ?_; rintro e w' ⟨rfl, n2, rfl⟩
    go_wp2_with fail
    refine (hS _).mono ?_; rintro e w' ⟨rfl, rfl⟩
    go_wp2_with fail
    refine (Nu.in_yes _ _ ⟨hq1, hq2⟩).mono ?_; rintro e w' ⟨rfl, rfl⟩
    go_wp2
    go_ret
    exact ⟨rfl, grownN (Grown.refl _) _⟩
  · subst hn
    have hC : Hid (∀ w, Calls Try.prog 15 #[.int .i64 a0, .int .i64 0] w fun e w' => e = .returned (.tuple #[.int .i64 0, .int .i64 0, .int .i64 6]) ∧ ∃ n, w' = w.drewN n) := by
      intro w
      have h := Nu.ediv_any a0 0 w
      rw [e] at h
      exact h
    clear e ha hb
    go_enter Try.func5, Try.ntmps5
    go_wp2_with fail
    refine (hC _).mono ?_; rintro e w' ⟨rfl, n1, rfl⟩
    go_wp2_with fail
    refine (Nu.reckons_keep _).mono ?_; rintro e w' ⟨rfl, n2, rfl⟩
    go_wp2
    go_ret
    exact ⟨rfl, grownN (Grown.refl _) _⟩
  · have hC : Hid (∀ w, Calls Try.prog 15 #[.int .i64 a0, .int .i64 a1] w fun e w' => e = .returned (.tuple #[.int .i64 0, .int .i64 0, .int .i64 2]) ∧ ∃ n, w' = w.drewN n) := by
      intro w
      have h := Nu.ediv_any a0 a1 w
      rw [e] at h
      exact h
    clear e hn
    go_enter Try.func5, Try.ntmps5
    go_wp2_with fail
    refine (hC _).mono ?_; rintro e w' ⟨rfl, n1, rfl⟩
    go_wp2_with fail
    refine (Nu.reckons_keep _).mono ?_; rintro e w' ⟨rfl, n2, rfl⟩
    go_wp2
    go_ret
    exact ⟨rfl, grownN (Grown.refl _) _⟩

/-! From the walk to the row. -/
set_option maxRecDepth 100000 in
theorem lifted (os : Os) (started : os.Started) (H : Type) (enc : TypeId × Value → H) :
    ReturnsInHanded {} Try.checked os 5 .any (Rows.numDividesSpec.pre6 enc Try.prog Try.f5 Rows.numDividesRow.domain false) (Rows.numDividesSpec.post enc Try.prog Try.f5 false true false false) := by
  refine returnsInHanded_of_change (C := Try.checked) own started (by kernel_rfl) Try.func5
    (ChangeSpec.witness6 (enc := enc) (C := Try.checked) false ⟨#[], #[.int .i64 0, .int .i64 0], []⟩ 8 (by kernel_rfl) (by kernel_rfl) (by kernel_rfl) (by kernel_rfl)) ?_
  intro W base args ds gs before hval0 hW hcnd _
  have hval : ∀ (j : Nat) t v, Try.f5.params[j]? = some t → args[j]? = some v → Value.okWide Try.prog W .any base t v := hval0
  have hW' := hW
  obtain ⟨p, q, hA0, hV, rfl, hfz, hnd⟩ := hW
  have hA : DataW.TrodAll enc Try.prog W 0 (fun _ => true) true Try.f5.params.toList args.toList ds p := hA0
  rw [Try.params5] at hA hval
  obtain ⟨v0, vs0, d0, ds0, p0, q0, hargs, rfl, rfl, h0, r0⟩ := trodAll_cons hA
  obtain ⟨v1, vs1, d1, ds1, p1, q1, rfl, rfl, rfl, h1, r1⟩ := trodAll_cons r0
  obtain ⟨rfl, rfl, rfl⟩ := trodAll_nil r1
  obtain rfl : args = #[v0, v1] := by cases args; simp_all
  obtain ⟨rfl, rfl⟩ := trodVars_none hV
  obtain ⟨a0, rfl, rfl, rfl, w0⟩ := open_int Try.underlying3 (hval 0 3 v0 rfl rfl) h0
  obtain ⟨a1, rfl, rfl, rfl, w1⟩ := open_int Try.underlying3 (hval 1 3 v1 rfl rfl) h1
  clear hA0 hval0
  simp only [List.append_nil] at hW'
  refine (walk a0 a1 w0 w1 W).mono fun e W' ⟨he, hg⟩ => ?_
  subst he
  exact ⟨_, rfl, post_of_same (pa := []) (pv := []) hW' (fun _ _ _ => (trodAll_cons_mk (shut_bool Try.underlying4 _) trodAll_mk0)) (fun sp _ => (trodAll_cons_mk (shut_int Try.underlying3 w0) (trodAll_cons_mk (shut_int Try.underlying3 w1) trodAll_mk0))) (fun _ _ => rfl) rfl
    (hg.frame _) hg.2.1 (ok_one (by kernel_rfl) rfl (okWide_bool_mk Try.underlying4 _))⟩

theorem over : Rows.numDividesRow.holds Try.pinned (OpenSpec.ofChange Rows.numDividesSpec) :=
  OpenClaim.holds_of_wide 5 Try.f5 rfl rfl rfl rfl rfl rfl rfl ⟨rfl, rfl, rfl, rfl, rfl⟩ rfl rfl rfl rfl rfl (by kernel_rfl) Try.func5 (by kernel_rfl)
    (of_decide_eq_true (by kernel_rfl)) (by unfold Func.isWrapper; first | (rw [if_pos (by decide +kernel)]; kernel_rfl) | (rw [if_neg (by decide +kernel)]; exact ⟨rfl, rfl⟩))
    (fun os started H enc _ => lifted os started H enc)

/-- The given statement. -/
theorem proved : Rows.NumDividesSaid :=
  over
#print axioms proved
end Go.Proofs.Ytlambneopjecbaa.numDivides
namespace Go.Proofs.Ytlambneopjecbaa
theorem numDivides_holds : Rows.NumDividesSaid := numDivides.proved
end Go.Proofs.Ytlambneopjecbaa
