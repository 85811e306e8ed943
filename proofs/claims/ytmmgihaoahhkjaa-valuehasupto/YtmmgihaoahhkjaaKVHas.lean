/- For every type and two values whose reading holds at most 1048576 values and letters, ValueHas returns true and leaves its arguments as they were: Size, Has, Compare and Same answer as the document's own do, errors too. Condition: that bound on the reading. -/
import Derived.Test.YtmmgihaoahhkjaaRows
import Derived.Test.YtmmgihaoahhkjaaKRSameG
import Derived.Test.YtmmgihaoahhkjaaKRSizeV
import Derived.Test.YtmmgihaoahhkjaaKRCmp
import Derived.Test.YtmmgihaoahhkjaaKOpenA
import Derived.JoinedCond
namespace Go.Proofs.Ytmmgihaoahhkjaa.valueHas
open Go.ChangeShapes Go.WideShapes Go.ChangeAt Go.RowKit
set_option linter.unusedVariables false

set_option maxRecDepth 100000 in
set_option maxHeartbeats 1000000 in
theorem worthL_any (W : World) : Calls Try.prog 16 #[] W fun e w' => e = .returned (.bool true) ∧ W.grownBy w' none := by
  have HP := Lf.hide parse5_any
  have HS := Lf.hide size1_any
  unfold tyV nodeV vaV at *
  go_enter Try.func16, Try.ntmps16
  go_wp2_with fail
  refine (HP.out _).mono ?_; rintro e w1 ⟨rfl, hg⟩
  have HG := Lf.hide hg
  clear hg
  go_wp2_with fail
  refine (HS.out _).mono ?_; rintro e w2 ⟨rfl, hg⟩
  have HG2 := Lf.hide (Lf.gbt (Lf.gbt HG.out (Lf.gb _)) hg)
  clear hg
  go_wp2_with fail
  go_ret
  exact ⟨rfl, HG2.out⟩

theorem up9 {f : Nat} {args : Array Value} {v : Value} {w wb : World} (hg : w.grownBy wb none) (h : ∀ W2, w.grownBy W2 none → Calls Try.prog f args W2 fun e w' => e = .returned v ∧ W2.grownBy w' none) :
    ∀ W, wb.grownBy W none → Calls Try.prog f args W fun e w' => e = .returned v ∧ wb.grownBy w' none := fun W h2 => (h W (Lf.gbt hg h2)).mono fun e w' q => ⟨q.1, Lf.gbt h2 q.2⟩

set_option maxRecDepth 100000 in
set_option maxHeartbeats 8000000 in
theorem walk {w : World} {T : Ty} {x y : Va} {t u v : Value} (hT0 : LiesT (· < w.heap.size) w T t) (hx0 : LiesV (· < w.heap.size) w x u) (hy0 : LiesV (· < w.heap.size) w y v) (z1 : x.size ≤ 20000000) (z2 : y.size ≤ 20000000) :
    Calls Try.prog 3 #[t, u, v] w fun e w' => e = .returned (.bool true) ∧ w.grownBy w' none := by
  have hT : LiesT (fun _ => True) w T t := hT0.okMono fun _ _ _ => trivial
  have hx : LiesV (fun _ => True) w x u := hx0.okMono fun _ _ _ => trivial
  have hy : LiesV (fun _ => True) w y v := hy0.okMono fun _ _ _ => trivial
  have H1 := Lf.hide (fun W2 (h2 : w.grownBy W2 none) => compare_any hT hx hy z1 z2 W2 h2)
  have H2 := Lf.hide (fun W2 (h2 : w.grownBy W2 none) => rcompare_any hT hx hy W2 h2)
  have H3 := Lf.hide (fun W2 (h2 : w.grownBy W2 none) => has_any hT hx z1 W2 h2)
  have H4 := Lf.hide (fun W2 (h2 : w.grownBy W2 none) => (rhas_any hx).2 T t W2 hT h2)
  have H5 := Lf.hide (fun W2 (h2 : w.grownBy W2 none) => size_any hx z1 W2 h2)
  have H6 := Lf.hide (fun W2 (h2 : w.grownBy W2 none) => rsize_any hx W2 h2)
  have H7 := Lf.hide (fun W2 (h2 : w.grownBy W2 none) => sameG_any hx hy z1 W2 h2)
  have H8 := Lf.hide (fun W2 (h2 : w.grownBy W2 none) => rsameG_any hx y v W2 hy h2)
  have H9 := Lf.hide worthL_any
  obtain ⟨k1, n1, a1, s1, aa1, al1, ac1, ta1, tl1, tc1, na1, nl1, nc1, rfl⟩ := hx.vaV
  obtain ⟨k2, n2, a2, s2, aa2, al2, ac2, ta2, tl2, tc2, na2, nl2, nc2, rfl⟩ := hy.vaV
  obtain ⟨a, c, V, rfl, it, hRT⟩ := hT.inv
  clear hT0 hx0 hy0 hT hx hy it hRT z1 z2
  generalize cmpR T x y = rr at *
  generalize cmpE T x y = re at *
  generalize hasF T x = hb at *
  generalize wrap64 (vsum x : Nat) = sz at *
  generalize decide (sbsV sameGC x y = 0) = sm at *
  unfold tyV vaV at *
  obtain ⟨g0, g1, g2, g3⟩ := three_new w (.cells #[.int .i64 T.t, .slice a T.args.length c] 24) (.cells #[.int .i64 k1, .int .i64 n1, .int .i64 a1, .string s1, .slice aa1 al1 ac1, .slice ta1 tl1 tc1, .slice na1 nl1 nc1] 28) (.cells #[.int .i64 k2, .int .i64 n2, .int .i64 a2, .string s2, .slice aa2 al2 ac2, .slice ta2 tl2 tc2, .slice na2 nl2 nc2] 28)
  have HG := Lf.hide g0
  have HA := Lf.hide g1
  have HB := Lf.hide g2
  have HC := Lf.hide g3
  clear g0 g1 g2 g3
  go_enter Try.func3, Try.ntmps3
  go_wp2_with fail
  refine (H1.out _ HG.out).mono ?_; rintro e w1 ⟨rfl, hg⟩
  replace HG := Lf.hide (Lf.gbt HG.out hg)
  replace HA := Lf.hide (keepB HA.out hg)
  replace HB := Lf.hide (keepB HB.out hg)
  replace HC := Lf.hide (keepB HC.out hg)
  clear hg
  have t0 := cell0_of HA.out
  have t1 := cell1_of HA.out
  obtain ⟨u0, u1, u2, u3, u4, u5, u6⟩ := box7 HB.out
  obtain ⟨v0, v1, v2, v3, v4, v5, v6⟩ := box7 HC.out
  go_wp2_with fail
  refine (H2.out _ HG.out).mono ?_; rintro e wb ⟨rfl, hg⟩
  clear t0 t1 u0 u1 u2 u3 u4 u5 u6 v0 v1 v2 v3 v4 v5 v6
  replace HG := Lf.hide (Lf.gbt HG.out hg)
  replace HA := Lf.hide (keepB HA.out hg)
  replace HB := Lf.hide (keepB HB.out hg)
  replace HC := Lf.hide (keepB HC.out hg)
  clear hg
  replace H3 := Lf.hide (up9 HG.out H3.out)
  replace H4 := Lf.hide (up9 HG.out H4.out)
  replace H5 := Lf.hide (up9 HG.out H5.out)
  replace H6 := Lf.hide (up9 HG.out H6.out)
  replace H7 := Lf.hide (up9 HG.out H7.out)
  replace H8 := Lf.hide (up9 HG.out H8.out)
  replace H9 := Lf.hide (up9 HG.out (fun W _ => H9.out W))
  have ct0 := fun W (hW : wb.grownBy W none) => cell0_of (keepB HA.out hW)
  have ct1 := fun W (hW : wb.grownBy W none) => cell1_of (keepB HA.out hW)
  have cu0 := fun W (hW : wb.grownBy W none) => (box7 (keepB HB.out hW)).1
  have cu1 := fun W (hW : wb.grownBy W none) => (box7 (keepB HB.out hW)).2.1
  have cu2 := fun W (hW : wb.grownBy W none) => (box7 (keepB HB.out hW)).2.2.1
  have cu3 := fun W (hW : wb.grownBy W none) => (box7 (keepB HB.out hW)).2.2.2.1
  have cu4 := fun W (hW : wb.grownBy W none) => (box7 (keepB HB.out hW)).2.2.2.2.1
  have cu5 := fun W (hW : wb.grownBy W none) => (box7 (keepB HB.out hW)).2.2.2.2.2.1
  have cu6 := fun W (hW : wb.grownBy W none) => (box7 (keepB HB.out hW)).2.2.2.2.2.2
  have cv0 := fun W (hW : wb.grownBy W none) => (box7 (keepB HC.out hW)).1
  have cv1 := fun W (hW : wb.grownBy W none) => (box7 (keepB HC.out hW)).2.1
  have cv2 := fun W (hW : wb.grownBy W none) => (box7 (keepB HC.out hW)).2.2.1
  have cv3 := fun W (hW : wb.grownBy W none) => (box7 (keepB HC.out hW)).2.2.2.1
  have cv4 := fun W (hW : wb.grownBy W none) => (box7 (keepB HC.out hW)).2.2.2.2.1
  have cv5 := fun W (hW : wb.grownBy W none) => (box7 (keepB HC.out hW)).2.2.2.2.2.1
  have cv6 := fun W (hW : wb.grownBy W none) => (box7 (keepB HC.out hW)).2.2.2.2.2.2
  clear H1 H2
  go_wp2_with fail
  go_region_held3 (fun w' => wb.grownBy w' none) (first | with_reducible assumption | with_reducible exact grow_drew (grow_refl _ _)) (first
    | (go_at_call 10; refine (H3.out _ (by assumption)).mono ?_; rintro e w' ⟨rfl, hg⟩)
    | (go_at_call 11; refine (H4.out _ (by assumption)).mono ?_; rintro e w' ⟨rfl, hg⟩)
    | (go_at_call 12; refine (H5.out _ (by assumption)).mono ?_; rintro e w' ⟨rfl, hg⟩)
    | (go_at_call 13; refine (H6.out _ (by assumption)).mono ?_; rintro e w' ⟨rfl, hg⟩)
    | (go_at_call 14; refine (H7.out _ (by assumption)).mono ?_; rintro e w' ⟨rfl, hg⟩)
    | (go_at_call 15; refine (H8.out _ (by assumption)).mono ?_; rintro e w' ⟨rfl, hg⟩)
    | (go_at_call 16; refine (H9.out _ (by assumption)).mono ?_; rintro e w' ⟨rfl, hg⟩))
  all_goals
    go_wp2_with fail
    go_ret
    exact ⟨rfl, Lf.gbt HG.out (by assumption)⟩

theorem own : ownKnob Try.prog.godebug = none := by kernel_rfl
theorem laidOut : laidOutB Try.prog = true := by kernel_rfl

theorem below_of {w w' : World} (h : w.grownBy w' none) : Below w.heap.size w w' := ⟨h.os, h.tape, h.output, h.size, fun k hk => h.block k hk (by simp)⟩

set_option maxRecDepth 100000 in
theorem contract (H : Type) (enc : TypeId × Value → H) (W : World) (base : Nat) (args : Array Value) (ds gs : List (DataW H)) (before : List MemPlace)
    (hval : ∀ (j : Nat) t v, Try.f3.params[j]? = some t → args[j]? = some v → Value.okWide Try.prog W .any base t v)
    (hW : DataW.Whole enc Try.prog Try.f3.params.toList Rows.valueHasSpec.vars false W args.toList ds gs before) (hk : Rows.uptoSmall H (ds ++ gs) = true) :
    Calls Try.prog 3 args W fun e W' => ∃ v, e = .returned v ∧ Rows.valueHasSpec.post enc Try.prog Try.f3 false true false false W args v W' := by
  have hW' := hW
  obtain ⟨p, q, hA0, hV, rfl, hfz, hnd⟩ := hW
  have hA : DataW.TrodAll enc Try.prog W 0 (fun _ => true) true Try.f3.params.toList args.toList ds p := hA0
  rw [Try.params3] at hA hval
  obtain ⟨v0, vs0, d0, ds0, p0, q0, hargs, rfl, rfl, h0, r0⟩ := trodAll_cons hA
  obtain ⟨v1, vs1, d1, ds1, p1, q1, hargs1, rfl, rfl, h1, r1⟩ := trodAll_cons r0
  obtain ⟨v2, vs2, d2, ds2, p2, q2, hargs2, rfl, rfl, h2, r2⟩ := trodAll_cons r1
  obtain ⟨rfl, rfl, rfl⟩ := trodAll_nil r2
  obtain rfl : args = #[v0, v1, v2] := by cases args; simp_all
  obtain ⟨rfl, rfl⟩ := trodVars_none hV
  have hb := of_decide_eq_true hk
  simp only [List.append_nil, Rows.uptoBulkAll] at hb
  obtain ⟨t, hL, hs⟩ := open_argT (hval 0 24 v0 rfl rfl) h0
  obtain ⟨x1, hL1, hs1⟩ := open_argV (hval 1 28 v1 rfl rfl) h1
  obtain ⟨x2, hL2, hs2⟩ := open_argV (hval 2 28 v2 rfl rfl) h2
  clear hA0
  simp only [List.append_nil] at hW'
  have hlt0 : ∀ x ∈ p0, x.block < W.heap.size := fun x hx => hW'.lt x (by simp [hx])
  have hlt1 : ∀ x ∈ p1, x.block < W.heap.size := fun x hx => hW'.lt x (by simp [hx])
  have hlt2 : ∀ x ∈ p2, x.block < W.heap.size := fun x hx => hW'.lt x (by simp [hx])
  refine (walk hL hL1 hL2 (by omega) (by omega)).mono fun e W' ⟨he, hg⟩ => ?_
  subst he
  have hB := below_of hg
  exact ⟨_, rfl, _, _, _, [], p0 ++ (p1 ++ (p2 ++ [])), [], hW', trodAll_cons_mk (shut_bool Try.underlying4 _) trodAll_mk0, trodAll_cons_mk (Below.trod laidOut (by kernel_rfl) (of_decide_eq_true (by kernel_rfl)) h0 hB hlt0) (trodAll_cons_mk (Below.trod laidOut (by kernel_rfl) (of_decide_eq_true (by kernel_rfl)) h1 hB hlt1) (trodAll_cons_mk (Below.trod laidOut (by kernel_rfl) (of_decide_eq_true (by kernel_rfl)) h2 hB hlt2) trodAll_mk0)), rfl, hB.frame _, fun h => by cases h⟩

set_option maxRecDepth 100000 in
theorem lifted (os : Os) (started : os.Started) (H : Type) (enc : TypeId × Value → H) (F : Stop.Interp) :
    ReturnsInHanded {} Try.checked os 3 .any ((Rows.OpenSpec.upto Rows.valueHasSpec).pre6 enc Try.prog Try.f3 Rows.valueHasUptoRow.domain false) (((Rows.OpenSpec.upto Rows.valueHasSpec).at F).post enc Try.prog Try.f3 false true false false) := by
  refine returnsInHanded_of_cond (C := Try.checked) (s := Rows.OpenSpec.upto Rows.valueHasSpec) (k := Rows.uptoSmall) rfl own started (by kernel_rfl) Try.func3
    (OpenSpec.witness (enc := enc) (C := Try.checked) (s := Rows.OpenSpec.upto Rows.valueHasSpec) (k := Rows.uptoSmall) rfl false ⟨#[], #[.agg #[.int .i64 0, .slice none 0 0], .agg #[.int .i64 0, .int .i64 0, .int .i64 0, .string .empty, .slice none 0 0, .slice none 0 0, .slice none 0 0], .agg #[.int .i64 0, .int .i64 0, .int .i64 0, .string .empty, .slice none 0 0, .slice none 0 0, .slice none 0 0]], []⟩ 8 (by kernel_rfl) (by kernel_rfl) (by kernel_rfl)
      (x := ([.agg [.lit (.int .i64 0), .nil], .agg [.lit (.int .i64 0), .lit (.int .i64 0), .lit (.int .i64 0), .lit (.string []), .nil, .nil, .nil], .agg [.lit (.int .i64 0), .lit (.int .i64 0), .lit (.int .i64 0), .lit (.string []), .nil, .nil, .nil]], [], [])) (by kernel_rfl) rfl (by kernel_rfl)) ?_
  intro W base args ds gs before hval hW _ hk _
  exact contract H enc W base args ds gs before hval hW hk

theorem over : Rows.valueHasUptoRow.holds Try.pinned (Rows.OpenSpec.upto Rows.valueHasSpec) :=
  OpenClaim.holds_of_cond 3 Try.f3 rfl rfl rfl rfl rfl rfl rfl ⟨rfl, rfl, rfl, rfl, rfl⟩ rfl rfl rfl rfl rfl (by kernel_rfl) Try.func3 (by kernel_rfl)
    (of_decide_eq_true (by kernel_rfl)) (by unfold Func.isWrapper; first | (rw [if_pos (by decide +kernel)]; kernel_rfl) | (rw [if_neg (by decide +kernel)]; exact ⟨rfl, rfl⟩))
    (fun os started H enc _ F => lifted os started H enc F)

end Go.Proofs.Ytmmgihaoahhkjaa.valueHas

namespace Go.Proofs.Ytmmgihaoahhkjaa
theorem valueHas_holds : Rows.ValueHasUptoSaid := valueHas.over
#print axioms valueHas_holds
end Go.Proofs.Ytmmgihaoahhkjaa
