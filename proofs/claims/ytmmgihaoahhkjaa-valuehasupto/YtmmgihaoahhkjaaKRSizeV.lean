/- The document's own Size by its contract. -/
import Derived.Test.YtmmgihaoahhkjaaKSizeV
import Derived.Test.YtmmgihaoahhkjaaKROrd
namespace Go.Proofs.Ytmmgihaoahhkjaa
open Go.ChangeShapes Go.WideShapes Go.ChangeAt Go.RowKit
set_option linter.unusedVariables false

theorem vsums_take (l : List Va) (j : Nat) (h : j < l.length) : vsums (l.take (j + 1)) = vsums (l.take j) + vsum l[j] := by
  rw [List.take_succ_eq_append_getElem h]
  generalize l.take j = a
  induction a with
  | nil => simp [vsums]
  | cons y a ih => simp only [List.cons_append, vsums, ih]; omega

set_option maxRecDepth 100000 in
set_option maxHeartbeats 2000000 in
/-- the document's own Size -/
theorem rsize_any {w : World} {x : Va} {u : Value} (hx : LiesV (fun _ => True) w x u) : ∀ (W : World), w.grownBy W none →
    Calls Try.prog 13 #[u] W fun e w' => e = .returned (.int .i64 (wrap64 (vsum x : Nat))) ∧ W.grownBy w' none := by
  induction hx with
  | @mk k n a s args types code aa ta na ac tc nc hnk V VT VN hl hlc hs ik iN ia hT hN hc hr ih =>
    intro W hW
    have hE := vsum_eq (.mk k n a s args types code)
    simp only [Va.s, Va.args] at hE
    generalize vsum (.mk k n a s args types code) = R at *
    have HE := Lf.hide hE
    unfold maxLen at hl hs
    have IH := Lf.hide ih
    have HC := Lf.hide hc
    have HG := Lf.hide hW
    have HA0 := Lf.hide (heap_alloc_new W (.cells #[.int .i64 k, .int .i64 n, .int .i64 a, .string s, .slice aa args.length ac, .slice ta types.length tc, .slice na code.length nc] 28))
    clear ih hc hr hW hT hN ik iN ia hnk hE hlc
    unfold vaV
    go_enter Try.func13, Try.ntmps13
    go_wp2_with fail
    go_loopw [3, 14] (fun sv iv wr => ∃ j : Nat, j ≤ args.length ∧ iv = .int .i64 j ∧ sv = .int .i64 (wrap64 ((s.size / 8 + 1 + vsums (args.take j) : Nat) : Int)) ∧ W.grownBy wr none) (fun _ iv _ => args.length - (intOf iv).toNat)
    case atStart =>
      refine ⟨0, Nat.zero_le _, rfl, ?_, Lf.gb _⟩
      simp only [List.take_zero, vsums, Nat.add_zero, Value.int.injEq, true_and]
      unfold wrap64
      omega
    case round =>
      obtain ⟨j, hj, rfl, rfl, hg⟩ := hrel
      by_cases hlt : j < args.length
      · obtain ⟨b1, o1, rfl, _, k3, n3, a3, s3, aa3, al3, ac3, ta3, tl3, tc3, na3, nl3, nc3, hv1, e0, e1, e2, e3, e4, e5, e6⟩ := (HC.out j hlt).same (sameAll (Lf.gbt HG.out hg))
        have hI := IH.out j hlt (wr.alloc (.cells #[.int .i64 k3, .int .i64 n3, .int .i64 a3, .string s3, .slice aa3 al3 ac3, .slice ta3 tl3 tc3, .slice na3 nl3 nc3] 28)) (Lf.gbt (Lf.gbt HG.out hg) (Lf.gb _))
        rw [hv1] at hI
        unfold vaV at hI
        have HI := Lf.hide hI
        have HGR := Lf.hide (Lf.gbt hg (Lf.gb (.cells #[.int .i64 k3, .int .i64 n3, .int .i64 a3, .string s3, .slice aa3 al3 ac3, .slice ta3 tl3 tc3, .slice na3 nl3 nc3] 28)))
        have HS := Lf.hide (vsums_take args j hlt)
        have w2 : (j : Int) < (args.length : Int) := by omega
        generalize vsum args[j] = q at *
        clear hI hg hv1
        go_wp2_with ((go_at_call 13; refine HI.out.mono ?_; rintro e w' ⟨rfl, hg⟩; have HG9 := Lf.hide (Lf.gbt HGR.out hg); clear hg))
        go_roundw
        case rel =>
          refine ⟨j + 1, by omega, by go_num, ?_, HG9.out⟩
          rw [HS.out]
          simp only [Value.int.injEq, true_and]
          rw [wrap_at, wrap_at2]
          congr 1
          omega
        case measure => simp [intOf]; omega
      · have HGR := Lf.hide hg
        have hj3 : ¬ (j : Int) < (args.length : Int) := by omega
        obtain rfl : j = args.length := by omega
        clear hg
        go_wp2_with fail
        go_ret
        exact Lf.reti (by rw [HE.out]; congr 1) HGR.out

end Go.Proofs.Ytmmgihaoahhkjaa
