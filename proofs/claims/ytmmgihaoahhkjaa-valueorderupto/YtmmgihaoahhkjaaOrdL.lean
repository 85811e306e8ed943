/- For every type and three values whose reading holds at most 1048576 values and letters, ValueOrder returns true and leaves its arguments as they were: the order of values that can be compared goes one way, on from one to the next, and is even just for like ones. Condition: that bound on the reading. -/
import Derived.Test.YtmmgihaoahhkjaaRows
import Derived.Test.YtmmgihaoahhkjaaOrdW
import Derived.Test.YtmmgihaoahhkjaaSameV
import Derived.Test.YtmmgihaoahhkjaaOpenA
import Derived.JoinedCond
namespace Go.Proofs.Ytmmgihaoahhkjaa.valueOrder
open Go.ChangeShapes Go.WideShapes Go.ChangeAt Go.RowKit
set_option linter.unusedVariables false

theorem good_of {T : Ty} {x : Va} (h : hasF T x = true) : goodTy T = true ∧ hasV x T = true := by
  unfold hasF at h; simpa using h

theorem walk {w : World} {T : Ty} {x1 x2 x3 : Va} {t v1 v2 v3 : Value} (hT0 : LiesT (· < w.heap.size) w T t) (h10 : LiesV (· < w.heap.size) w x1 v1) (h20 : LiesV (· < w.heap.size) w x2 v2) (h30 : LiesV (· < w.heap.size) w x3 v3) (z1 : x1.size ≤ 20000000) (z2 : x2.size ≤ 20000000) (z3 : x3.size ≤ 20000000) :
    Calls Try.prog 4 #[t, v1, v2, v3] w fun e w' => e = .returned (.bool true) ∧ w.grownBy w' none := by
  have hT : LiesT (fun _ => True) w T t := hT0.okMono fun _ _ _ => trivial
  have h1 : LiesV (fun _ => True) w x1 v1 := h10.okMono fun _ _ _ => trivial
  have h2 : LiesV (fun _ => True) w x2 v2 := h20.okMono fun _ _ _ => trivial
  have h3 : LiesV (fun _ => True) w x3 v3 := h30.okMono fun _ _ _ => trivial
  have hs : Says w t v1 v2 v3 (cmpR T x1 x2) (cmpE T x1 x2) (cmpR T x2 x3) (cmpE T x2 x3) (cmpR T x1 x3) (cmpE T x1 x3) (cmpR T x2 x1) (cmpE T x2 x1) (decide (sbsV sameC x1 x2 = 0)) := by
    refine ⟨fun W2 g => compare_any hT h1 h2 z1 z2 W2 g, fun W2 g => compare_any hT h2 h3 z2 z3 W2 g, fun W2 g => compare_any hT h1 h3 z1 z3 W2 g, fun W2 g => compare_any hT h2 h1 z2 z1 W2 g, fun he W2 g => ?_, fun W2 g => worth_any W2⟩
    have hok : hasF T x1 = true ∧ hasF T x2 = true ∧ compT T = true := by
      unfold cmpE at he
      split at he
      · assumption
      · cases he
    obtain ⟨o1, o2, o3⟩ := hok
    have hf := (goodTy_formed (good_of o1).1).1
    exact sameV_any h1 h2 (plain_of x1 T 1 (good_of o1).2 o3 hf) (plain_of x2 T 1 (good_of o2).2 o3 hf) z1 W2 g
  obtain ⟨a, c, V, rfl, it, hRT⟩ := hT.inv
  obtain ⟨k1, n1, d1, s1, pa1, pl1, pc1, qa1, ql1, qc1, ra1, rl1, rc1, rfl⟩ := h1.vaV
  obtain ⟨k2, n2, d2, s2, pa2, pl2, pc2, qa2, ql2, qc2, ra2, rl2, rc2, rfl⟩ := h2.vaV
  obtain ⟨k3, n3, d3, s3, pa3, pl3, pc3, qa3, ql3, qc3, ra3, rl3, rc3, rfl⟩ := h3.vaV
  unfold tyV vaV at *
  by_cases hab : hasF T x1 = true ∧ hasF T x2 = true ∧ compT T = true
  · have e1 : cmpE T x1 x2 = 0 := by unfold cmpE; rw [if_pos hab]
    rw [e1] at hs
    by_cases hc : hasF T x3 = true
    · obtain ⟨o1, o2, o4⟩ := hab
      have r1 : cmpR T x1 x2 = ordV x1 x2 := by unfold cmpR; rw [if_pos ⟨o1, o2, o4⟩]
      have r2 : cmpR T x2 x3 = ordV x2 x3 := by unfold cmpR; rw [if_pos ⟨o2, hc, o4⟩]
      have r3 : cmpR T x1 x3 = ordV x1 x3 := by unfold cmpR; rw [if_pos ⟨o1, hc, o4⟩]
      have r4 : cmpR T x2 x1 = -ordV x1 x2 := by unfold cmpR; rw [if_pos ⟨o2, o1, o4⟩, ordV_neg]
      have e2 : cmpE T x2 x3 = 0 := by unfold cmpE; rw [if_pos ⟨o2, hc, o4⟩]
      have e3 : cmpE T x1 x3 = 0 := by unfold cmpE; rw [if_pos ⟨o1, hc, o4⟩]
      have e4 : cmpE T x2 x1 = 0 := by unfold cmpE; rw [if_pos ⟨o2, o1, o4⟩]
      have hq : (ordV x1 x2 = 0) ↔ (sbsV sameC x1 x2 = 0) := ord_same x1 x2 T 1 (good_of o1).2 (good_of o2).2 o4 (goodTy_formed (good_of o1).1).1
      rw [r1, r2, r3, r4, e2, e3, e4] at hs
      have hy := ordV_sgn x2 x3
      have hz := ordV_sgn x1 x3
      have h3' := ordV_on3 x1 x2 x3
      rcases ordV_sgn x1 x2 with hx | hx | hx
      · rw [hx] at hs h3' hq
        rw [decide_eq_false (fun e => by have := hq.2 e; omega)] at hs
        exact ok_lt hy hz h3' hs
      · rw [hx] at hs h3' hq
        rw [decide_eq_true (hq.1 rfl)] at hs
        exact ok_eq hy hz h3' hs
      · rw [hx] at hs h3' hq
        rw [decide_eq_false (fun e => by have := hq.2 e; omega)] at hs
        exact ok_gt hy hz h3' hs
    · have e2 : cmpE T x2 x3 = 5 := by unfold cmpE; rw [if_neg (fun h => hc h.2.1)]
      exact no2 e2 hs
  · have e1 : cmpE T x1 x2 = 5 := by unfold cmpE; rw [if_neg hab]
    exact no1 e1 hs

theorem own : ownKnob Try.prog.godebug = none := by kernel_rfl
theorem laidOut : laidOutB Try.prog = true := by kernel_rfl

theorem below_of {w w' : World} (h : w.grownBy w' none) : Below w.heap.size w w' := ⟨h.os, h.tape, h.output, h.size, fun k hk => h.block k hk (by simp)⟩

set_option maxRecDepth 100000 in
theorem contract (H : Type) (enc : TypeId × Value → H) (W : World) (base : Nat) (args : Array Value) (ds gs : List (DataW H)) (before : List MemPlace)
    (hval : ∀ (j : Nat) t v, Try.f4.params[j]? = some t → args[j]? = some v → Value.okWide Try.prog W .any base t v)
    (hW : DataW.Whole enc Try.prog Try.f4.params.toList Rows.valueOrderSpec.vars false W args.toList ds gs before) (hk : Rows.uptoSmall H (ds ++ gs) = true) :
    Calls Try.prog 4 args W fun e W' => ∃ v, e = .returned v ∧ Rows.valueOrderSpec.post enc Try.prog Try.f4 false true false false W args v W' := by
  have hW' := hW
  obtain ⟨p, q, hA0, hV, rfl, hfz, hnd⟩ := hW
  have hA : DataW.TrodAll enc Try.prog W 0 (fun _ => true) true Try.f4.params.toList args.toList ds p := hA0
  rw [Try.params4] at hA hval
  obtain ⟨v0, vs0, d0, ds0, p0, q0, hargs, rfl, rfl, h0, r0⟩ := trodAll_cons hA
  obtain ⟨v1, vs1, d1, ds1, p1, q1, hargs1, rfl, rfl, h1, r1⟩ := trodAll_cons r0
  obtain ⟨v2, vs2, d2, ds2, p2, q2, hargs2, rfl, rfl, h2, r2⟩ := trodAll_cons r1
  obtain ⟨v3, vs3, d3, ds3, p3, q3, hargs3, rfl, rfl, h3, r3⟩ := trodAll_cons r2
  obtain ⟨rfl, rfl, rfl⟩ := trodAll_nil r3
  obtain rfl : args = #[v0, v1, v2, v3] := by cases args; simp_all
  obtain ⟨rfl, rfl⟩ := trodVars_none hV
  have hb := of_decide_eq_true hk
  simp only [List.append_nil, Rows.uptoBulkAll] at hb
  obtain ⟨t, hL, hs⟩ := open_argT (hval 0 24 v0 rfl rfl) h0
  obtain ⟨x1, hL1, hs1⟩ := open_argV (hval 1 28 v1 rfl rfl) h1
  obtain ⟨x2, hL2, hs2⟩ := open_argV (hval 2 28 v2 rfl rfl) h2
  obtain ⟨x3, hL3, hs3⟩ := open_argV (hval 3 28 v3 rfl rfl) h3
  clear hA0
  simp only [List.append_nil] at hW'
  have hlt0 : ∀ x ∈ p0, x.block < W.heap.size := fun x hx => hW'.lt x (by simp [hx])
  have hlt1 : ∀ x ∈ p1, x.block < W.heap.size := fun x hx => hW'.lt x (by simp [hx])
  have hlt2 : ∀ x ∈ p2, x.block < W.heap.size := fun x hx => hW'.lt x (by simp [hx])
  have hlt3 : ∀ x ∈ p3, x.block < W.heap.size := fun x hx => hW'.lt x (by simp [hx])
  refine (walk hL hL1 hL2 hL3 (by omega) (by omega) (by omega)).mono fun e W' ⟨he, hg⟩ => ?_
  subst he
  have hB := below_of hg
  exact ⟨_, rfl, _, _, _, [], p0 ++ (p1 ++ (p2 ++ (p3 ++ []))), [], hW', trodAll_cons_mk (shut_bool Try.underlying4 _) trodAll_mk0, trodAll_cons_mk (Below.trod laidOut (by kernel_rfl) (of_decide_eq_true (by kernel_rfl)) h0 hB hlt0) (trodAll_cons_mk (Below.trod laidOut (by kernel_rfl) (of_decide_eq_true (by kernel_rfl)) h1 hB hlt1) (trodAll_cons_mk (Below.trod laidOut (by kernel_rfl) (of_decide_eq_true (by kernel_rfl)) h2 hB hlt2) (trodAll_cons_mk (Below.trod laidOut (by kernel_rfl) (of_decide_eq_true (by kernel_rfl)) h3 hB hlt3) trodAll_mk0))), rfl, hB.frame _, fun h => by cases h⟩

set_option maxRecDepth 100000 in
theorem lifted (os : Os) (started : os.Started) (H : Type) (enc : TypeId × Value → H) (F : Stop.Interp) :
    ReturnsInHanded {} Try.checked os 4 .any ((Rows.OpenSpec.upto Rows.valueOrderSpec).pre6 enc Try.prog Try.f4 Rows.valueOrderUptoRow.domain false) (((Rows.OpenSpec.upto Rows.valueOrderSpec).at F).post enc Try.prog Try.f4 false true false false) := by
  refine returnsInHanded_of_cond (C := Try.checked) (s := Rows.OpenSpec.upto Rows.valueOrderSpec) (k := Rows.uptoSmall) rfl own started (by kernel_rfl) Try.func4
    (OpenSpec.witness (enc := enc) (C := Try.checked) (s := Rows.OpenSpec.upto Rows.valueOrderSpec) (k := Rows.uptoSmall) rfl false ⟨#[], #[.agg #[.int .i64 0, .slice none 0 0], .agg #[.int .i64 0, .int .i64 0, .int .i64 0, .string .empty, .slice none 0 0, .slice none 0 0, .slice none 0 0], .agg #[.int .i64 0, .int .i64 0, .int .i64 0, .string .empty, .slice none 0 0, .slice none 0 0, .slice none 0 0], .agg #[.int .i64 0, .int .i64 0, .int .i64 0, .string .empty, .slice none 0 0, .slice none 0 0, .slice none 0 0]], []⟩ 8 (by kernel_rfl) (by kernel_rfl) (by kernel_rfl)
      (x := ([.agg [.lit (.int .i64 0), .nil], .agg [.lit (.int .i64 0), .lit (.int .i64 0), .lit (.int .i64 0), .lit (.string []), .nil, .nil, .nil], .agg [.lit (.int .i64 0), .lit (.int .i64 0), .lit (.int .i64 0), .lit (.string []), .nil, .nil, .nil], .agg [.lit (.int .i64 0), .lit (.int .i64 0), .lit (.int .i64 0), .lit (.string []), .nil, .nil, .nil]], [], [])) (by kernel_rfl) rfl (by kernel_rfl)) ?_
  intro W base args ds gs before hval hW _ hk _
  exact contract H enc W base args ds gs before hval hW hk

theorem over : Rows.valueOrderUptoRow.holds Try.pinned (Rows.OpenSpec.upto Rows.valueOrderSpec) :=
  OpenClaim.holds_of_cond 4 Try.f4 rfl rfl rfl rfl rfl rfl rfl ⟨rfl, rfl, rfl, rfl, rfl⟩ rfl rfl rfl rfl rfl (by kernel_rfl) Try.func4 (by kernel_rfl)
    (of_decide_eq_true (by kernel_rfl)) (by unfold Func.isWrapper; first | (rw [if_pos (by decide +kernel)]; kernel_rfl) | (rw [if_neg (by decide +kernel)]; exact ⟨rfl, rfl⟩))
    (fun os started H enc _ F => lifted os started H enc F)

end Go.Proofs.Ytmmgihaoahhkjaa.valueOrder

namespace Go.Proofs.Ytmmgihaoahhkjaa
theorem valueOrder_holds : Rows.ValueOrderUptoSaid := valueOrder.over
#print axioms valueOrder_holds
end Go.Proofs.Ytmmgihaoahhkjaa
