/- For all numbers a and b of 64 bits, NumBounds returns true and leaves its arguments as they were: whatever Add, Sub and Mul answer is within the bounds, and where a number is not, all three say ErrRange. No condition. -/
import Derived.Test.YtlambneopjecbaaRows
import Derived.WalkKit
import Derived.ProofKit
import Derived.OpenShut
import Derived.Test.YtlambneopjecbaaMul
namespace Go.Proofs.Ytlambneopjecbaa.numBounds
open Go.ChangeShapes Go.WideShapes Go.ChangeAt Go.RowKit
set_option linter.unusedVariables false

theorem own : ownKnob Try.prog.godebug = none := by kernel_rfl

theorem grownN {W w' : World} (h : Grown W w') (n : Nat) : Grown W (w'.drewN n) := h

/-! The walk: the law returns true, and nothing that was there has turned. -/
theorem walk (a0 : Int) (a1 : Int) (w0 : (Lit.int .i64 a0).wf = true) (w1 : (Lit.int .i64 a1).wf = true) (w : World) :
    Calls Try.prog 6 #[.int .i64 a0, .int .i64 a1] w fun e w' => e = .returned (.bool true) ∧ Grown w w' := by
  by_cases h : (-1152921504606846976 ≤ a0 ∧ a0 ≤ 1152921504606846976) ∧ (-1152921504606846976 ≤ a1 ∧ a1 ≤ 1152921504606846976)
  · obtain ⟨ha, hb⟩ := h
    have hA : Hid (∀ w, Calls Try.prog 7 #[.int .i64 a0, .int .i64 a1] w fun e w' => e = .returned (.tuple #[.int .i64 (Ar.addF a0 a1).1, .int .i64 (Ar.addF a0 a1).2]) ∧ w' = w) := fun w => Nu.add_any a0 a1 w
    have hS : Hid (∀ w, Calls Try.prog 9 #[.int .i64 a0, .int .i64 a1] w fun e w' => e = .returned (.tuple #[.int .i64 (Ar.subF a0 a1).1, .int .i64 (Ar.subF a0 a1).2]) ∧ w' = w) := fun w => Nu.sub_any a0 a1 w
    have hM : Hid (∀ w, Calls Try.prog 11 #[.int .i64 a0, .int .i64 a1] w fun e w' => e = .returned (.tuple #[.int .i64 (Ar.mulF a0 a1).1, .int .i64 (Ar.mulF a0 a1).2]) ∧ w' = w) := fun w => Nu.mul_any a0 a1 w
    have bx := Ar.inB_true (Ar.pairF_in a0 a1 (a0 + a1))
    have bY := Ar.inB_true (Ar.pairF_in a0 a1 (a0 - a1))
    have bz := Ar.inB_true (Ar.pairF_in a0 a1 (a0 * a1))
    change -1152921504606846976 ≤ (Ar.addF a0 a1).1 ∧ (Ar.addF a0 a1).1 ≤ 1152921504606846976 at bx
    change -1152921504606846976 ≤ (Ar.subF a0 a1).1 ∧ (Ar.subF a0 a1).1 ≤ 1152921504606846976 at bY
    change -1152921504606846976 ≤ (Ar.mulF a0 a1).1 ∧ (Ar.mulF a0 a1).1 ≤ 1152921504606846976 at bz
    generalize (Ar.addF a0 a1).1 = x at *
    generalize (Ar.addF a0 a1).2 = xe at *
    generalize (Ar.subF a0 a1).1 = y at *
    generalize (Ar.subF a0 a1).2 = ye at *
    generalize (Ar.mulF a0 a1).1 = z at *
    generalize (Ar.mulF a0 a1).2 = ze at *
    go_enter Try.func6, Try.ntmps6
    go_wp2_with fail
    refine (hA _).mono ?_; rintro e w' ⟨rfl, rfl⟩
    go_wp2_with fail
    refine (hS _).mono ?_; rintro e w' ⟨rfl, rfl⟩
    go_wp2_with fail
    refine (hM _).mono ?_; rintro e w' ⟨rfl, rfl⟩
    go_wp2_with fail
    refine (Nu.in_yes _ _ bx).mono ?_; rintro e w' ⟨rfl, rfl⟩
    go_wp2_with fail
    refine (Nu.in_yes _ _ bY).mono ?_; rintro e w' ⟨rfl, rfl⟩
    go_wp2_with fail
    refine (Nu.in_yes _ _ bz).mono ?_; rintro e w' ⟨rfl, rfl⟩
    go_wp2_with fail
    refine (Nu.reckons_keep _).mono ?_; rintro e w' ⟨rfl, n, rfl⟩
    go_wp2_with fail
    refine (Nu.in_yes _ _ ha).mono ?_; rintro e w' ⟨rfl, rfl⟩
    go_wp2_with fail
    refine (Nu.in_yes _ _ hb).mono ?_; rintro e w' ⟨rfl, rfl⟩
    go_wp2
    go_ret
    exact ⟨rfl, grownN (Grown.refl _) _⟩
  · have hn : ¬ (Ar.inB a0 = true ∧ Ar.inB a1 = true) := fun c => h ⟨Ar.inB_true c.1, Ar.inB_true c.2⟩
    have hA : Hid (∀ w, Calls Try.prog 7 #[.int .i64 a0, .int .i64 a1] w fun e w' => e = .returned (.tuple #[.int .i64 0, .int .i64 2]) ∧ w' = w) := by intro w; have k := Nu.add_any a0 a1 w; rw [show Ar.addF a0 a1 = (0, 2) from Ar.pairF_out hn] at k; exact k
    have hS : Hid (∀ w, Calls Try.prog 9 #[.int .i64 a0, .int .i64 a1] w fun e w' => e = .returned (.tuple #[.int .i64 0, .int .i64 2]) ∧ w' = w) := by intro w; have k := Nu.sub_any a0 a1 w; rw [show Ar.subF a0 a1 = (0, 2) from Ar.pairF_out hn] at k; exact k
    have hM : Hid (∀ w, Calls Try.prog 11 #[.int .i64 a0, .int .i64 a1] w fun e w' => e = .returned (.tuple #[.int .i64 0, .int .i64 2]) ∧ w' = w) := by intro w; have k := Nu.mul_any a0 a1 w; rw [show Ar.mulF a0 a1 = (0, 2) from Ar.pairF_out hn] at k; exact k
    clear hn
    by_cases ha : -1152921504606846976 ≤ a0 ∧ a0 ≤ 1152921504606846976
    · have hb : ¬ (-1152921504606846976 ≤ a1 ∧ a1 ≤ 1152921504606846976) := fun c => h ⟨ha, c⟩
      clear h
      go_enter Try.func6, Try.ntmps6
      go_wp2_with fail
      refine (hA _).mono ?_; rintro e w' ⟨rfl, rfl⟩
      go_wp2_with fail
      refine (hS _).mono ?_; rintro e w' ⟨rfl, rfl⟩
      go_wp2_with fail
      refine (hM _).mono ?_; rintro e w' ⟨rfl, rfl⟩
      go_wp2_with fail
      refine (Nu.in_yes _ _ ⟨by omega, by omega⟩).mono ?_; rintro e w' ⟨rfl, rfl⟩
      go_wp2_with fail
      refine (Nu.in_yes _ _ ⟨by omega, by omega⟩).mono ?_; rintro e w' ⟨rfl, rfl⟩
      go_wp2_with fail
      refine (Nu.in_yes _ _ ⟨by omega, by omega⟩).mono ?_; rintro e w' ⟨rfl, rfl⟩
      go_wp2_with fail
      refine (Nu.reckons_keep _).mono ?_; rintro e w' ⟨rfl, n, rfl⟩
      go_wp2_with fail
      refine (Nu.in_yes _ _ ha).mono ?_; rintro e w' ⟨rfl, rfl⟩
      go_wp2_with fail
      refine (Nu.in_no _ _ hb).mono ?_; rintro e w' ⟨rfl, rfl⟩
      go_wp2
      go_ret
      exact ⟨rfl, grownN (Grown.refl _) _⟩
    · clear h
      go_enter Try.func6, Try.ntmps6
      go_wp2_with fail
      refine (hA _).mono ?_; rintro e w' ⟨rfl, rfl⟩
      go_wp2_with fail
      refine (hS _).mono ?_; rintro e w' ⟨rfl, rfl⟩
      go_wp2_with fail
      refine (hM _).mono ?_; rintro e w' ⟨rfl, rfl⟩
      go_wp2_with fail
      refine (Nu.in_yes _ _ ⟨by omega, by omega⟩).mono ?_; rintro e w' ⟨rfl, rfl⟩
      go_wp2_with fail
      refine (Nu.in_yes _ _ ⟨by omega, by omega⟩).mono ?_; rintro e w' ⟨rfl, rfl⟩
      go_wp2_with fail
      refine (Nu.in_yes _ _ ⟨by omega, by omega⟩).mono ?_; rintro e w' ⟨rfl, rfl⟩
      go_wp2_with fail
      refine (Nu.reckons_keep _).mono ?_; rintro e w' ⟨rfl, n, rfl⟩
      go_wp2_with fail
      refine (Nu.in_no _ _ ha).mono ?_; rintro e w' ⟨rfl, rfl⟩
      go_wp2
      go_ret
      exact ⟨rfl, grownN (Grown.refl _) _⟩

/-! From the walk to the row. -/
set_option maxRecDepth 100000 in
theorem lifted (os : Os) (started : os.Started) (H : Type) (enc : TypeId × Value → H) :
    ReturnsInHanded {} Try.checked os 6 .any (Rows.numBoundsSpec.pre6 enc Try.prog Try.f6 Rows.numBoundsRow.domain false) (Rows.numBoundsSpec.post enc Try.prog Try.f6 false true false false) := by
  refine returnsInHanded_of_change (C := Try.checked) own started (by kernel_rfl) Try.func6
    (ChangeSpec.witness6 (enc := enc) (C := Try.checked) false ⟨#[], #[.int .i64 0, .int .i64 0], []⟩ 8 (by kernel_rfl) (by kernel_rfl) (by kernel_rfl) (by kernel_rfl)) ?_
  intro W base args ds gs before hval0 hW hcnd _
  have hval : ∀ (j : Nat) t v, Try.f6.params[j]? = some t → args[j]? = some v → Value.okWide Try.prog W .any base t v := hval0
  have hW' := hW
  obtain ⟨p, q, hA0, hV, rfl, hfz, hnd⟩ := hW
  have hA : DataW.TrodAll enc Try.prog W 0 (fun _ => true) true Try.f6.params.toList args.toList ds p := hA0
  rw [Try.params6] at hA hval
  obtain ⟨v0, vs0, d0, ds0, p0, q0, hargs, rfl, rfl, h0, r0⟩ := trodAll_cons hA
  obtain ⟨v1, vs1, d1, ds1, p1, q1, rfl, rfl, rfl, h1, r1⟩ := trodAll_cons r0
  obtain ⟨rfl, rfl, rfl⟩ := trodAll_nil r1
  obtain rfl : args = #[v0, v1] := by cases args; simp_all
  obtain ⟨rfl, rfl⟩ := trodVars_none hV
  obtain ⟨a0, rfl, rfl, rfl, w0⟩ := open_int Try.underlying3 (hval 0 3 v0 rfl rfl) h0
  obtain ⟨a1, rfl, rfl, rfl, w1⟩ := open_int Try.underlying3 (hval 1 3 v1 rfl rfl) h1
  clear hA0 hval0
  simp only [List.append_nil] at hW'
  refine (walk a0 a1 w0 w1 W).mono fun e W' ⟨he, hg⟩ => ?_
  subst he
  exact ⟨_, rfl, post_of_same (pa := []) (pv := []) hW' (fun _ _ _ => (trodAll_cons_mk (shut_bool Try.underlying4 _) trodAll_mk0)) (fun sp _ => (trodAll_cons_mk (shut_int Try.underlying3 w0) (trodAll_cons_mk (shut_int Try.underlying3 w1) trodAll_mk0))) (fun _ _ => rfl) rfl
    (hg.frame _) hg.2.1 (ok_one (by kernel_rfl) rfl (okWide_bool_mk Try.underlying4 _))⟩

theorem over : Rows.numBoundsRow.holds Try.pinned (OpenSpec.ofChange Rows.numBoundsSpec) :=
  OpenClaim.holds_of_wide 6 Try.f6 rfl rfl rfl rfl rfl rfl rfl ⟨rfl, rfl, rfl, rfl, rfl⟩ rfl rfl rfl rfl rfl (by kernel_rfl) Try.func6 (by kernel_rfl)
    (of_decide_eq_true (by kernel_rfl)) (by unfold Func.isWrapper; first | (rw [if_pos (by decide +kernel)]; kernel_rfl) | (rw [if_neg (by decide +kernel)]; exact ⟨rfl, rfl⟩))
    (fun os started H enc _ => lifted os started H enc)

/-- The given statement. -/
theorem proved : Rows.NumBoundsSaid :=
  over
#print axioms proved
end Go.Proofs.Ytlambneopjecbaa.numBounds
namespace Go.Proofs.Ytlambneopjecbaa
theorem numBounds_holds : Rows.NumBoundsSaid := numBounds.proved
end Go.Proofs.Ytlambneopjecbaa
