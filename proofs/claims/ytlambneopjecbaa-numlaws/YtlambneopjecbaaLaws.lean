/- For all numbers a, b and c of 64 bits, NumLaws returns true and leaves its arguments as they were: sums and products may be swapped, a difference undoes a sum, and a product of a sum is the sum of the products where all of it is within the bounds. No condition. -/
import Derived.Test.YtlambneopjecbaaRows
import Derived.WalkKit
import Derived.ProofKit
import Derived.OpenShut
import Derived.Test.YtlambneopjecbaaMul
namespace Go.Proofs.Ytlambneopjecbaa.numLaws
open Go.ChangeShapes Go.WideShapes Go.ChangeAt Go.RowKit
set_option linter.unusedVariables false

theorem own : ownKnob Try.prog.godebug = none := by kernel_rfl

theorem grownN {W w' : World} (h : Grown W w') (n : Nat) : Grown W (w'.drewN n) := h

/-! The walk: the law returns true, and nothing that was there has turned. -/
theorem walk (a0 : Int) (a1 : Int) (a2 : Int) (w0 : (Lit.int .i64 a0).wf = true) (w1 : (Lit.int .i64 a1).wf = true) (w2 : (Lit.int .i64 a2).wf = true) (w : World) :
    Calls Try.prog 4 #[.int .i64 a0, .int .i64 a1, .int .i64 a2] w fun e w' => e = .returned (.bool true) ∧ Grown w w' := by
  have hA : Hid (∀ w, Calls Try.prog 7 #[.int .i64 a0, .int .i64 a1] w fun e w' => e = .returned (.tuple #[.int .i64 (Ar.addF a0 a1).1, .int .i64 (Ar.addF a0 a1).2]) ∧ w' = w) := fun w => Nu.add_any a0 a1 w
  have hA' : Hid (∀ w, Calls Try.prog 7 #[.int .i64 a1, .int .i64 a0] w fun e w' => e = .returned (.tuple #[.int .i64 (Ar.addF a0 a1).1, .int .i64 (Ar.addF a0 a1).2]) ∧ w' = w) := by intro w; have k := Nu.add_any a1 a0 w; rw [Ar.add_swap a1 a0] at k; exact k
  have hM : Hid (∀ w, Calls Try.prog 11 #[.int .i64 a0, .int .i64 a1] w fun e w' => e = .returned (.tuple #[.int .i64 (Ar.mulF a0 a1).1, .int .i64 (Ar.mulF a0 a1).2]) ∧ w' = w) := fun w => Nu.mul_any a0 a1 w
  have hM' : Hid (∀ w, Calls Try.prog 11 #[.int .i64 a1, .int .i64 a0] w fun e w' => e = .returned (.tuple #[.int .i64 (Ar.mulF a0 a1).1, .int .i64 (Ar.mulF a0 a1).2]) ∧ w' = w) := by intro w; have k := Nu.mul_any a1 a0 w; rw [Ar.mul_swap a1 a0] at k; exact k
  have hL : Hid (∀ w, Calls Try.prog 11 #[.int .i64 (Ar.addF a0 a1).1, .int .i64 a2] w fun e w' => e = .returned (.tuple #[.int .i64 (Ar.mulF (Ar.addF a0 a1).1 a2).1, .int .i64 (Ar.mulF (Ar.addF a0 a1).1 a2).2]) ∧ w' = w) := fun w => Nu.mul_any _ a2 w
  have hP : Hid (∀ w, Calls Try.prog 11 #[.int .i64 a0, .int .i64 a2] w fun e w' => e = .returned (.tuple #[.int .i64 (Ar.mulF a0 a2).1, .int .i64 (Ar.mulF a0 a2).2]) ∧ w' = w) := fun w => Nu.mul_any a0 a2 w
  have hQ : Hid (∀ w, Calls Try.prog 11 #[.int .i64 a1, .int .i64 a2] w fun e w' => e = .returned (.tuple #[.int .i64 (Ar.mulF a1 a2).1, .int .i64 (Ar.mulF a1 a2).2]) ∧ w' = w) := fun w => Nu.mul_any a1 a2 w
  have hS : Hid ((Ar.addF a0 a1).2 = 0 → ∀ w, Calls Try.prog 9 #[.int .i64 (Ar.addF a0 a1).1, .int .i64 a1] w fun e w' => e = .returned (.tuple #[.int .i64 a0, .int .i64 0]) ∧ w' = w) := by
    intro h w; have k := Nu.sub_any (Ar.addF a0 a1).1 a1 w; rw [Ar.sub_add h] at k; exact k
  have hD : Hid ((Ar.addF a0 a1).2 = 0 → (Ar.mulF (Ar.addF a0 a1).1 a2).2 = 0 → (Ar.mulF a0 a2).2 = 0 → (Ar.mulF a1 a2).2 = 0 → ∀ w, Calls Try.prog 7 #[.int .i64 (Ar.mulF a0 a2).1, .int .i64 (Ar.mulF a1 a2).1] w fun e w' => e = .returned (.tuple #[.int .i64 (Ar.mulF (Ar.addF a0 a1).1 a2).1, .int .i64 0]) ∧ w' = w) := by
    intro h h1 h2 h3 w; have k := Nu.add_any (Ar.mulF a0 a2).1 (Ar.mulF a1 a2).1 w; rw [Ar.dist h h1 h2 h3] at k; exact k
  generalize (Ar.mulF (Ar.addF a0 a1).1 a2).1 = l at *
  generalize (Ar.mulF (Ar.addF a0 a1).1 a2).2 = le at *
  generalize (Ar.addF a0 a1).1 = x at *
  generalize (Ar.addF a0 a1).2 = xe at *
  generalize (Ar.mulF a0 a1).1 = m at *
  generalize (Ar.mulF a0 a1).2 = me at *
  generalize (Ar.mulF a0 a2).1 = p at *
  generalize (Ar.mulF a0 a2).2 = pe at *
  generalize (Ar.mulF a1 a2).1 = q at *
  generalize (Ar.mulF a1 a2).2 = qe at *
  by_cases h0 : xe = 0
  · subst h0
    have hS2 : Hid (∀ w, Calls Try.prog 9 #[.int .i64 x, .int .i64 a1] w fun e w' => e = .returned (.tuple #[.int .i64 a0, .int .i64 0]) ∧ w' = w) := hS rfl
    clear hS
    by_cases h1 : le = 0
    · subst h1
      by_cases h2 : pe = 0
      · subst h2
        by_cases h3 : qe = 0
        · subst h3
          have hD2 : Hid (∀ w, Calls Try.prog 7 #[.int .i64 p, .int .i64 q] w fun e w' => e = .returned (.tuple #[.int .i64 l, .int .i64 0]) ∧ w' = w) := hD rfl rfl rfl rfl
          clear hD
          go_enter Try.func4, Try.ntmps4
          go_wp2_with fail
          refine (hA _).mono ?_; rintro e w' ⟨rfl, rfl⟩
          go_wp2_with fail
          refine (hA' _).mono ?_; rintro e w' ⟨rfl, rfl⟩
          go_wp2_with fail
          refine (hM _).mono ?_; rintro e w' ⟨rfl, rfl⟩
          go_wp2_with fail
          refine (hM' _).mono ?_; rintro e w' ⟨rfl, rfl⟩
          go_wp2_with fail
          refine (Nu.reckons_keep _).mono ?_; rintro e w' ⟨rfl, n, rfl⟩
          go_wp2_with fail
          refine (hS2 _).mono ?_; rintro e w' ⟨rfl, rfl⟩
          go_wp2_with fail
          refine (hL _).mono ?_; rintro e w' ⟨rfl, rfl⟩
          go_wp2_with fail
          refine (hP _).mono ?_; rintro e w' ⟨rfl, rfl⟩
          go_wp2_with fail
          refine (hQ _).mono ?_; rintro e w' ⟨rfl, rfl⟩
          go_wp2_with fail
          refine (hD2 _).mono ?_; rintro e w' ⟨rfl, rfl⟩
          go_wp2
          go_ret
          exact ⟨rfl, grownN (Grown.refl _) _⟩
        · have h3' : (qe != 0) = true := bne_iff_ne.2 h3
          clear h3 hD
          go_enter Try.func4, Try.ntmps4
          go_wp2_with fail
          refine (hA _).mono ?_; rintro e w' ⟨rfl, rfl⟩
          go_wp2_with fail
          refine (hA' _).mono ?_; rintro e w' ⟨rfl, rfl⟩
          go_wp2_with fail
          refine (hM _).mono ?_; rintro e w' ⟨rfl, rfl⟩
          go_wp2_with fail
          refine (hM' _).mono ?_; rintro e w' ⟨rfl, rfl⟩
          go_wp2_with fail
          refine (Nu.reckons_keep _).mono ?_; rintro e w' ⟨rfl, n, rfl⟩
          go_wp2_with fail
          refine (hS2 _).mono ?_; rintro e w' ⟨rfl, rfl⟩
          go_wp2_with fail
          refine (hL _).mono ?_; rintro e w' ⟨rfl, rfl⟩
          go_wp2_with fail
          refine (hP _).mono ?_; rintro e w' ⟨rfl, rfl⟩
          go_wp2_with fail
          refine (hQ _).mono ?_; rintro e w' ⟨rfl, rfl⟩
          go_wp2
          go_ret
          exact ⟨rfl, grownN (Grown.refl _) _⟩
      · have h2' : (pe != 0) = true := bne_iff_ne.2 h2
        clear h2 hD
        go_enter Try.func4, Try.ntmps4
        go_wp2_with fail
        refine (hA _).mono ?_; rintro e w' ⟨rfl, rfl⟩
        go_wp2_with fail
        refine (hA' _).mono ?_; rintro e w' ⟨rfl, rfl⟩
        go_wp2_with fail
        refine (hM _).mono ?_; rintro e w' ⟨rfl, rfl⟩
        go_wp2_with fail
        refine (hM' _).mono ?_; rintro e w' ⟨rfl, rfl⟩
        go_wp2_with fail
        refine (Nu.reckons_keep _).mono ?_; rintro e w' ⟨rfl, n, rfl⟩
        go_wp2_with fail
        refine (hS2 _).mono ?_; rintro e w' ⟨rfl, rfl⟩
        go_wp2_with fail
        refine (hL _).mono ?_; rintro e w' ⟨rfl, rfl⟩
        go_wp2_with fail
        refine (hP _).mono ?_; rintro e w' ⟨rfl, rfl⟩
        go_wp2_with fail
        refine (hQ _).mono ?_; rintro e w' ⟨rfl, rfl⟩
        go_wp2
        go_ret
        exact ⟨rfl, grownN (Grown.refl _) _⟩
    · have h1' : (le != 0) = true := bne_iff_ne.2 h1
      clear h1 hD
      go_enter Try.func4, Try.ntmps4
      go_wp2_with fail
      refine (hA _).mono ?_; rintro e w' ⟨rfl, rfl⟩
      go_wp2_with fail
      refine (hA' _).mono ?_; rintro e w' ⟨rfl, rfl⟩
      go_wp2_with fail
      refine (hM _).mono ?_; rintro e w' ⟨rfl, rfl⟩
      go_wp2_with fail
      refine (hM' _).mono ?_; rintro e w' ⟨rfl, rfl⟩
      go_wp2_with fail
      refine (Nu.reckons_keep _).mono ?_; rintro e w' ⟨rfl, n, rfl⟩
      go_wp2_with fail
      refine (hS2 _).mono ?_; rintro e w' ⟨rfl, rfl⟩
      go_wp2_with fail
      refine (hL _).mono ?_; rintro e w' ⟨rfl, rfl⟩
      go_wp2_with fail
      refine (hP _).mono ?_; rintro e w' ⟨rfl, rfl⟩
      go_wp2_with fail
      refine (hQ _).mono ?_; rintro e w' ⟨rfl, rfl⟩
      go_wp2
      go_ret
      exact ⟨rfl, grownN (Grown.refl _) _⟩
  · have h0' : (xe != 0) = true := bne_iff_ne.2 h0
    have h0'' : (xe == 0) = false := beq_eq_false_iff_ne.2 h0
    clear h0 hD hS
    go_enter Try.func4, Try.ntmps4
    go_wp2_with fail
    refine (hA _).mono ?_; rintro e w' ⟨rfl, rfl⟩
    go_wp2_with fail
    refine (hA' _).mono ?_; rintro e w' ⟨rfl, rfl⟩
    go_wp2_with fail
    refine (hM _).mono ?_; rintro e w' ⟨rfl, rfl⟩
    go_wp2_with fail
    refine (hM' _).mono ?_; rintro e w' ⟨rfl, rfl⟩
    go_wp2_with fail
    refine (Nu.reckons_keep _).mono ?_; rintro e w' ⟨rfl, n, rfl⟩
    go_wp2_with fail
    refine (hL _).mono ?_; rintro e w' ⟨rfl, rfl⟩
    go_wp2_with fail
    refine (hP _).mono ?_; rintro e w' ⟨rfl, rfl⟩
    go_wp2_with fail
    refine (hQ _).mono ?_; rintro e w' ⟨rfl, rfl⟩
    go_wp2
    go_ret
    exact ⟨rfl, grownN (Grown.refl _) _⟩

/-! From the walk to the row. -/
set_option maxRecDepth 100000 in
theorem lifted (os : Os) (started : os.Started) (H : Type) (enc : TypeId × Value → H) :
    ReturnsInHanded {} Try.checked os 4 .any (Rows.numLawsSpec.pre6 enc Try.prog Try.f4 Rows.numLawsRow.domain false) (Rows.numLawsSpec.post enc Try.prog Try.f4 false true false false) := by
  refine returnsInHanded_of_change (C := Try.checked) own started (by kernel_rfl) Try.func4
    (ChangeSpec.witness6 (enc := enc) (C := Try.checked) false ⟨#[], #[.int .i64 0, .int .i64 0, .int .i64 0], []⟩ 8 (by kernel_rfl) (by kernel_rfl) (by kernel_rfl) (by kernel_rfl)) ?_
  intro W base args ds gs before hval0 hW hcnd _
  have hval : ∀ (j : Nat) t v, Try.f4.params[j]? = some t → args[j]? = some v → Value.okWide Try.prog W .any base t v := hval0
  have hW' := hW
  obtain ⟨p, q, hA0, hV, rfl, hfz, hnd⟩ := hW
  have hA : DataW.TrodAll enc Try.prog W 0 (fun _ => true) true Try.f4.params.toList args.toList ds p := hA0
  rw [Try.params4] at hA hval
  obtain ⟨v0, vs0, d0, ds0, p0, q0, hargs, rfl, rfl, h0, r0⟩ := trodAll_cons hA
  obtain ⟨v1, vs1, d1, ds1, p1, q1, rfl, rfl, rfl, h1, r1⟩ := trodAll_cons r0
  obtain ⟨v2, vs2, d2, ds2, p2, q2, rfl, rfl, rfl, h2, r2⟩ := trodAll_cons r1
  obtain ⟨rfl, rfl, rfl⟩ := trodAll_nil r2
  obtain rfl : args = #[v0, v1, v2] := by cases args; simp_all
  obtain ⟨rfl, rfl⟩ := trodVars_none hV
  obtain ⟨a0, rfl, rfl, rfl, w0⟩ := open_int Try.underlying3 (hval 0 3 v0 rfl rfl) h0
  obtain ⟨a1, rfl, rfl, rfl, w1⟩ := open_int Try.underlying3 (hval 1 3 v1 rfl rfl) h1
  obtain ⟨a2, rfl, rfl, rfl, w2⟩ := open_int Try.underlying3 (hval 2 3 v2 rfl rfl) h2
  clear hA0 hval0
  simp only [List.append_nil] at hW'
  refine (walk a0 a1 a2 w0 w1 w2 W).mono fun e W' ⟨he, hg⟩ => ?_
  subst he
  exact ⟨_, rfl, post_of_same (pa := []) (pv := []) hW' (fun _ _ _ => (trodAll_cons_mk (shut_bool Try.underlying4 _) trodAll_mk0)) (fun sp _ => (trodAll_cons_mk (shut_int Try.underlying3 w0) (trodAll_cons_mk (shut_int Try.underlying3 w1) (trodAll_cons_mk (shut_int Try.underlying3 w2) trodAll_mk0)))) (fun _ _ => rfl) rfl
    (hg.frame _) hg.2.1 (ok_one (by kernel_rfl) rfl (okWide_bool_mk Try.underlying4 _))⟩

theorem over : Rows.numLawsRow.holds Try.pinned (OpenSpec.ofChange Rows.numLawsSpec) :=
  OpenClaim.holds_of_wide 4 Try.f4 rfl rfl rfl rfl rfl rfl rfl ⟨rfl, rfl, rfl, rfl, rfl⟩ rfl rfl rfl rfl rfl (by kernel_rfl) Try.func4 (by kernel_rfl)
    (of_decide_eq_true (by kernel_rfl)) (by unfold Func.isWrapper; first | (rw [if_pos (by decide +kernel)]; kernel_rfl) | (rw [if_neg (by decide +kernel)]; exact ⟨rfl, rfl⟩))
    (fun os started H enc _ => lifted os started H enc)

/-- The given statement. -/
theorem proved : Rows.NumLawsSaid :=
  over
#print axioms proved
end Go.Proofs.Ytlambneopjecbaa.numLaws
namespace Go.Proofs.Ytlambneopjecbaa
theorem numLaws_holds : Rows.NumLawsSaid := numLaws.proved
end Go.Proofs.Ytlambneopjecbaa
