/- For all numbers a and b of 64 bits, NumReckons returns true and leaves its arguments as they were: In, Abs, Add, Sub, Mul and Ediv answer exactly what the document's own functions answer, errors too. No condition. -/
import Derived.Test.YtlambneopjecbaaRows
import Derived.WalkKit
import Derived.ProofKit
import Derived.OpenShut
import Derived.Test.YtlambneopjecbaaMul
import Derived.Test.YtlambneopjecbaaRefDiv
import Derived.Test.YtlambneopjecbaaRefMul
namespace Go.Proofs.Ytlambneopjecbaa.numReckons
open Go.ChangeShapes Go.WideShapes Go.ChangeAt Go.RowKit
set_option linter.unusedVariables false

theorem own : ownKnob Try.prog.godebug = none := by kernel_rfl

theorem grownN {W w' : World} (h : Grown W w') (n : Nat) : Grown W (w'.drewN n) := h
/-! The walk: the law returns true, and nothing that was there has turned. -/
theorem walk (a0 : Int) (a1 : Int) (w0 : (Lit.int .i64 a0).wf = true) (w1 : (Lit.int .i64 a1).wf = true) (w : World) :
    Calls Try.prog 3 #[.int .i64 a0, .int .i64 a1] w fun e w' => e = .returned (.bool true) ∧ Grown w w' := by
  have wa := bounds_i64 w0
  have wb := bounds_i64 w1
  have hA : Hid (∀ w, Calls Try.prog 7 #[.int .i64 a0, .int .i64 a1] w fun e w' => e = .returned (.tuple #[.int .i64 (Ar.addF a0 a1).1, .int .i64 (Ar.addF a0 a1).2]) ∧ w' = w) := fun w => Nu.add_any a0 a1 w
  have hA' : Hid (∀ w, Calls Try.prog 8 #[.int .i64 a0, .int .i64 a1] w fun e w' => e = .returned (.tuple #[.int .i64 (Ar.addF a0 a1).1, .int .i64 (Ar.addF a0 a1).2]) ∧ w' = w) := fun w => Re.add_any a0 a1 w wa wb
  have hS : Hid (∀ w, Calls Try.prog 9 #[.int .i64 a0, .int .i64 a1] w fun e w' => e = .returned (.tuple #[.int .i64 (Ar.subF a0 a1).1, .int .i64 (Ar.subF a0 a1).2]) ∧ w' = w) := fun w => Nu.sub_any a0 a1 w
  have hS' : Hid (∀ w, Calls Try.prog 10 #[.int .i64 a0, .int .i64 a1] w fun e w' => e = .returned (.tuple #[.int .i64 (Ar.subF a0 a1).1, .int .i64 (Ar.subF a0 a1).2]) ∧ w' = w) := fun w => Re.sub_any a0 a1 w wa wb
  have hM : Hid (∀ w, Calls Try.prog 11 #[.int .i64 a0, .int .i64 a1] w fun e w' => e = .returned (.tuple #[.int .i64 (Ar.mulF a0 a1).1, .int .i64 (Ar.mulF a0 a1).2]) ∧ w' = w) := fun w => Nu.mul_any a0 a1 w
  have hM' : Hid (∀ w, Calls Try.prog 12 #[.int .i64 a0, .int .i64 a1] w fun e w' => e = .returned (.tuple #[.int .i64 (Ar.mulF a0 a1).1, .int .i64 (Ar.mulF a0 a1).2]) ∧ w' = w) := fun w => Re.mul_any a0 a1 w wa wb
  have hB : Hid (∀ w, Calls Try.prog 13 #[.int .i64 a0] w fun e w' => e = .returned (.tuple #[.int .i64 (Ar.absF a0).1, .int .i64 (Ar.absF a0).2]) ∧ w' = w) := fun w => Nu.abs_any a0 w
  have hB' : Hid (∀ w, Calls Try.prog 14 #[.int .i64 a0] w fun e w' => e = .returned (.tuple #[.int .i64 (Ar.absF a0).1, .int .i64 (Ar.absF a0).2]) ∧ w' = w) := fun w => Re.abs_any a0 w wa
  have hE : Hid (∀ w, Calls Try.prog 15 #[.int .i64 a0, .int .i64 a1] w fun e w' => e = .returned (.tuple #[.int .i64 (Ar.edivF a0 a1).1, .int .i64 (Ar.edivF a0 a1).2.1, .int .i64 (Ar.edivF a0 a1).2.2]) ∧ ∃ n, w' = w.drewN n) := fun w => Nu.ediv_any a0 a1 w
  have hE' : Hid (∀ w, Calls Try.prog 16 #[.int .i64 a0, .int .i64 a1] w fun e w' => e = .returned (.tuple #[.int .i64 (Ar.edivF a0 a1).1, .int .i64 (Ar.edivF a0 a1).2.1, .int .i64 (Ar.edivF a0 a1).2.2]) ∧ w' = w) := fun w => Re.ediv_any a0 a1 w wa wb
  generalize (Ar.addF a0 a1).1 = x1 at *
  generalize (Ar.addF a0 a1).2 = e1 at *
  generalize (Ar.subF a0 a1).1 = x2 at *
  generalize (Ar.subF a0 a1).2 = e2 at *
  generalize (Ar.mulF a0 a1).1 = x3 at *
  generalize (Ar.mulF a0 a1).2 = e3 at *
  generalize (Ar.absF a0).1 = x4 at *
  generalize (Ar.absF a0).2 = e4 at *
  generalize (Ar.edivF a0 a1).1 = x5 at *
  generalize (Ar.edivF a0 a1).2.1 = y5 at *
  generalize (Ar.edivF a0 a1).2.2 = e5 at *
  clear w0 w1 wb
  by_cases ha : -1152921504606846976 ≤ a0 ∧ a0 ≤ 1152921504606846976
  · clear wa
    go_enter Try.func3, Try.ntmps3
    go_wp2_with fail
    refine (hA _).mono ?_; rintro e w' ⟨rfl, rfl⟩
    go_wp2_with fail
    refine (hA' _).mono ?_; rintro e w' ⟨rfl, rfl⟩
    go_wp2_with fail
    refine (hS _).mono ?_; rintro e w' ⟨rfl, rfl⟩
    go_wp2_with fail
    refine (hS' _).mono ?_; rintro e w' ⟨rfl, rfl⟩
    go_wp2_with fail
    refine (hM _).mono ?_; rintro e w' ⟨rfl, rfl⟩
    go_wp2_with fail
    refine (hM' _).mono ?_; rintro e w' ⟨rfl, rfl⟩
    go_wp2_with fail
    refine (hB _).mono ?_; rintro e w' ⟨rfl, rfl⟩
    go_wp2_with fail
    refine (hB' _).mono ?_; rintro e w' ⟨rfl, rfl⟩
    go_wp2_with fail
    refine (hE _).mono ?_; rintro e w' ⟨rfl, n1, rfl⟩
    go_wp2_with fail
    refine (hE' _).mono ?_; rintro e w' ⟨rfl, rfl⟩
    go_wp2_with fail
    refine (Nu.in_yes _ _ ha).mono ?_; rintro e w' ⟨rfl, rfl⟩
    go_wp2_with fail
    refine (Re.in_yes _ _ ha).mono ?_; rintro e w' ⟨rfl, rfl⟩
    go_wp2_with fail
    refine (Nu.reckons_law _).mono ?_; rintro e w' ⟨rfl, n2, rfl⟩
    go_wp2
    go_ret
    exact ⟨rfl, grownN (Grown.refl _) _⟩
  · go_enter Try.func3, Try.ntmps3
    go_wp2_with fail
    refine (hA _).mono ?_; rintro e w' ⟨rfl, rfl⟩
    go_wp2_with fail
    refine (hA' _).mono ?_; rintro e w' ⟨rfl, rfl⟩
    go_wp2_with fail
    refine (hS _).mono ?_; rintro e w' ⟨rfl, rfl⟩
    go_wp2_with fail
    refine (hS' _).mono ?_; rintro e w' ⟨rfl, rfl⟩
    go_wp2_with fail
    refine (hM _).mono ?_; rintro e w' ⟨rfl, rfl⟩
    go_wp2_with fail
    refine (hM' _).mono ?_; rintro e w' ⟨rfl, rfl⟩
    go_wp2_with fail
    refine (hB _).mono ?_; rintro e w' ⟨rfl, rfl⟩
    go_wp2_with fail
    refine (hB' _).mono ?_; rintro e w' ⟨rfl, rfl⟩
    go_wp2_with fail
    refine (hE _).mono ?_; rintro e w' ⟨rfl, n1, rfl⟩
    go_wp2_with fail
    refine (hE' _).mono ?_; rintro e w' ⟨rfl, rfl⟩
    go_wp2_with fail
    refine (Nu.in_no _ _ ha).mono ?_; rintro e w' ⟨rfl, rfl⟩
    go_wp2_with fail
    refine (Re.in_no _ _ wa ha).mono ?_; rintro e w' ⟨rfl, rfl⟩
    go_wp2_with fail
    refine (Nu.reckons_law _).mono ?_; rintro e w' ⟨rfl, n2, rfl⟩
    go_wp2
    go_ret
    exact ⟨rfl, grownN (Grown.refl _) _⟩

/-! From the walk to the row. -/
set_option maxRecDepth 100000 in
theorem lifted (os : Os) (started : os.Started) (H : Type) (enc : TypeId × Value → H) :
    ReturnsInHanded {} Try.checked os 3 .any (Rows.numReckonsSpec.pre6 enc Try.prog Try.f3 Rows.numReckonsRow.domain false) (Rows.numReckonsSpec.post enc Try.prog Try.f3 false true false false) := by
  refine returnsInHanded_of_change (C := Try.checked) own started (by kernel_rfl) Try.func3
    (ChangeSpec.witness6 (enc := enc) (C := Try.checked) false ⟨#[], #[.int .i64 0, .int .i64 0], []⟩ 8 (by kernel_rfl) (by kernel_rfl) (by kernel_rfl) (by kernel_rfl)) ?_
  intro W base args ds gs before hval0 hW hcnd _
  have hval : ∀ (j : Nat) t v, Try.f3.params[j]? = some t → args[j]? = some v → Value.okWide Try.prog W .any base t v := hval0
  have hW' := hW
  obtain ⟨p, q, hA0, hV, rfl, hfz, hnd⟩ := hW
  have hA : DataW.TrodAll enc Try.prog W 0 (fun _ => true) true Try.f3.params.toList args.toList ds p := hA0
  rw [Try.params3] at hA hval
  obtain ⟨v0, vs0, d0, ds0, p0, q0, hargs, rfl, rfl, h0, r0⟩ := trodAll_cons hA
  obtain ⟨v1, vs1, d1, ds1, p1, q1, rfl, rfl, rfl, h1, r1⟩ := trodAll_cons r0
  obtain ⟨rfl, rfl, rfl⟩ := trodAll_nil r1
  obtain rfl : args = #[v0, v1] := by cases args; simp_all
  obtain ⟨rfl, rfl⟩ := trodVars_none hV
  obtain ⟨a0, rfl, rfl, rfl, w0⟩ := open_int Try.underlying3 (hval 0 3 v0 rfl rfl) h0
  obtain ⟨a1, rfl, rfl, rfl, w1⟩ := open_int Try.underlying3 (hval 1 3 v1 rfl rfl) h1
  clear hA0 hval0
  simp only [List.append_nil] at hW'
  refine (walk a0 a1 w0 w1 W).mono fun e W' ⟨he, hg⟩ => ?_
  subst he
  exact ⟨_, rfl, post_of_same (pa := []) (pv := []) hW' (fun _ _ _ => (trodAll_cons_mk (shut_bool Try.underlying4 _) trodAll_mk0)) (fun sp _ => (trodAll_cons_mk (shut_int Try.underlying3 w0) (trodAll_cons_mk (shut_int Try.underlying3 w1) trodAll_mk0))) (fun _ _ => rfl) rfl
    (hg.frame _) hg.2.1 (ok_one (by kernel_rfl) rfl (okWide_bool_mk Try.underlying4 _))⟩

theorem over : Rows.numReckonsRow.holds Try.pinned (OpenSpec.ofChange Rows.numReckonsSpec) :=
  OpenClaim.holds_of_wide 3 Try.f3 rfl rfl rfl rfl rfl rfl rfl ⟨rfl, rfl, rfl, rfl, rfl⟩ rfl rfl rfl rfl rfl (by kernel_rfl) Try.func3 (by kernel_rfl)
    (of_decide_eq_true (by kernel_rfl)) (by unfold Func.isWrapper; first | (rw [if_pos (by decide +kernel)]; kernel_rfl) | (rw [if_neg (by decide +kernel)]; exact ⟨rfl, rfl⟩))
    (fun os started H enc _ => lifted os started H enc)

/-- The given statement. -/
theorem proved : Rows.NumReckonsSaid :=
  over
#print axioms proved
end Go.Proofs.Ytlambneopjecbaa.numReckons
namespace Go.Proofs.Ytlambneopjecbaa
theorem numReckons_holds : Rows.NumReckonsSaid := numReckons.proved
end Go.Proofs.Ytlambneopjecbaa
