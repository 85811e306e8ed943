/- That two nodes are alike, by its contract. -/
import Derived.Test.YtmmgihaoahhkjaaBasis
namespace Go.Proofs.Ytmmgihaoahhkjaa
open Go.ChangeShapes Go.WideShapes Go.ChangeAt Go.RowKit
set_option linter.unusedVariables false

theorem same_none {w w2 : World} (h : w.grownBy w2 none) : Same (fun _ => True) w w2 := fun b o _ hb => Lf.gcell h b o hb

set_option maxHeartbeats 1000000 in
theorem alike_any {w : World} {t : Tr} {va : Value} (hL : Lies (fun _ => True) w t va) : ∀ (vb : Value) (w2 : World), w.grownBy w2 none → Lies (fun _ => True) w t vb →
    Calls Try.prog 23 #[va, vb] w2 fun e w' => e = .returned (.bool true) ∧ w2.grownBy w' none := by
  induction hL with
  | @mk k n p s args a c V hl hS ik iN ip hc hr ih =>
    intro vb w2 hg hLb
    cases hLb with
    | @mk _ _ _ _ _ a2 c2 V2 _ _ _ _ _ hc2 hr2 =>
      have IH : Hid (∀ (i : Nat) (h : i < args.length) (vb : Value) (w2 : World), w.grownBy w2 none → Lies (fun _ => True) w args[i] vb → Calls Try.prog 23 #[V i, vb] w2 fun e w' => e = .returned (.bool true) ∧ w2.grownBy w' none) := ih
      have HC := Lf.hide hc
      have HC2 := Lf.hide hc2
      have HR2 := Lf.hide hr2
      have HG := Lf.hide hg
      clear ih hc hr hc2 hr2 hg
      unfold maxLen at hl
      have hss : (s.toList == s.toList) = true := by simp
      unfold nodeV
      go_enter Try.func23, Try.ntmps23
      go_wp2_with fail
      have hwA := Lf.hide (res_new w2 (.cells #[.int .i64 k, .int .i64 n, .int .i64 p, .string s, .slice a args.length c] 39) (.cells #[.int .i64 k, .int .i64 n, .int .i64 p, .string s, .slice a2 args.length c2] 39))
      have hwB : Hid (((w2.alloc (.cells #[.int .i64 k, .int .i64 n, .int .i64 p, .string s, .slice a args.length c] 39)).alloc (.cells #[.int .i64 k, .int .i64 n, .int .i64 p, .string s, .slice a2 args.length c2] 39)).heap[w2.heap.size + 1]? = some (.cells #[.int .i64 k, .int .i64 n, .int .i64 p, .string s, .slice a2 args.length c2] 39)) := by
        show _ = _
        have h2 := heap_alloc_new (w2.alloc (.cells #[.int .i64 k, .int .i64 n, .int .i64 p, .string s, .slice a args.length c] 39)) (.cells #[.int .i64 k, .int .i64 n, .int .i64 p, .string s, .slice a2 args.length c2] 39)
        rw [show (w2.alloc (.cells #[.int .i64 k, .int .i64 n, .int .i64 p, .string s, .slice a args.length c] 39)).heap.size = w2.heap.size + 1 from by simp] at h2
        exact h2
      have hwG : Hid (w2.grownBy ((w2.alloc (.cells #[.int .i64 k, .int .i64 n, .int .i64 p, .string s, .slice a args.length c] 39)).alloc (.cells #[.int .i64 k, .int .i64 n, .int .i64 p, .string s, .slice a2 args.length c2] 39)) none) := Lf.gbt (Lf.gb _) (Lf.gb _)
      generalize (w2.alloc (.cells #[.int .i64 k, .int .i64 n, .int .i64 p, .string s, .slice a args.length c] 39)).alloc (.cells #[.int .i64 k, .int .i64 n, .int .i64 p, .string s, .slice a2 args.length c2] 39) = wb at *
      go_loopw [44] (fun i wr => ∃ j : Nat, j ≤ args.length ∧ i = .int .i64 j ∧ wb.grownBy wr none) (fun i _ => args.length - (intOf i).toNat)
      case atStart => exact ⟨0, Nat.zero_le _, rfl, grow_refl _ _⟩
      case round =>
        obtain ⟨j, hj, rfl, hgr⟩ := hrel
        have hgw : w.grownBy wr none := Lf.gbt HG.out (Lf.gbt hwG.out hgr)
        obtain ⟨x0, x1, x2, x3, x4⟩ := box5 ((hgr.block _ (Array.getElem?_eq_some_iff.1 hwA.out).1 (by simp)).trans hwA.out)
        obtain ⟨y0, y1, y2, y3, y4⟩ := box5 ((hgr.block _ (Array.getElem?_eq_some_iff.1 hwB.out).1 (by simp)).trans hwB.out)
        by_cases hlt : j < args.length
        · obtain ⟨b1, o1, rfl, _, k1, n1, p1, s1, a1, l1, c1, hv1, e0, e1, e2, e3, e4⟩ := (HC.out j hlt).same (same_none hgw)
          obtain ⟨b2, o2, rfl, _, k2, n2, p2, s2, a3, l2, c3, hv2, f0, f1, f2, f3, f4⟩ := (HC2.out j hlt).same (same_none hgw)
          have hI := IH.out j hlt (V2 j) wr.drew (grow_drew hgw) (HR2.out j hlt)
          rw [hv1, hv2] at hI
          unfold nodeV at hI
          have HI := Lf.hide hI
          have HGR := Lf.hide hgr
          clear hI hgr hgw hv1 hv2 HC HC2 HR2 IH
          go_wp2_with fail
          go_region_with (go_at_call 23; refine HI.out.mono ?_; rintro e w3 ⟨rfl, hg3⟩; have HG3 := Lf.hide hg3; clear hg3)
          all_goals
            go_wp2_with fail
            go_roundw
            case rel => exact ⟨j + 1, by omega, by go_num, Lf.gbt (grow_drew HGR.out) HG3.out⟩
            case measure => simp [intOf]; omega
        · have HGR := Lf.hide hgr
          clear hgr hgw
          go_wp2_with fail
          go_ret
          exact ⟨rfl, Lf.gbt hwG.out HGR.out⟩

end Go.Proofs.Ytmmgihaoahhkjaa

/- That two nodes are alike, by its contract. -/
namespace Go.Proofs.Ytmmgihaoahhkjaa
set_option maxRecDepth 20000
open Go.ChangeShapes Go.WideShapes Go.ChangeAt Go.RowKit
set_option linter.unusedVariables false

set_option maxHeartbeats 1000000 in
theorem alikeR_any {w : World} {t : Tr} {va : Value} (hL : Lies (fun _ => True) w t va) : ∀ (vb : Value) (w2 : World), w.grownBy w2 none → Lies (fun _ => True) w t vb →
    Calls Try.prog 43 #[va, vb] w2 fun e w' => e = .returned (.bool true) ∧ w2.grownBy w' none := by
  induction hL with
  | @mk k n p s args a c V hl hS ik iN ip hc hr ih =>
    intro vb w2 hg hLb
    cases hLb with
    | @mk _ _ _ _ _ a2 c2 V2 _ _ _ _ _ hc2 hr2 =>
      have IH : Hid (∀ (i : Nat) (h : i < args.length) (vb : Value) (w2 : World), w.grownBy w2 none → Lies (fun _ => True) w args[i] vb → Calls Try.prog 43 #[V i, vb] w2 fun e w' => e = .returned (.bool true) ∧ w2.grownBy w' none) := ih
      have HC := Lf.hide hc
      have HC2 := Lf.hide hc2
      have HR2 := Lf.hide hr2
      have HG := Lf.hide hg
      clear ih hc hr hc2 hr2 hg
      unfold maxLen at hl
      have hss : (s.toList == s.toList) = true := by simp
      unfold nodeV
      go_enter Try.func43, Try.ntmps43
      go_wp2_with fail
      have hwA := Lf.hide (res_new w2 (.cells #[.int .i64 k, .int .i64 n, .int .i64 p, .string s, .slice a args.length c] 39) (.cells #[.int .i64 k, .int .i64 n, .int .i64 p, .string s, .slice a2 args.length c2] 39))
      have hwB : Hid (((w2.alloc (.cells #[.int .i64 k, .int .i64 n, .int .i64 p, .string s, .slice a args.length c] 39)).alloc (.cells #[.int .i64 k, .int .i64 n, .int .i64 p, .string s, .slice a2 args.length c2] 39)).heap[w2.heap.size + 1]? = some (.cells #[.int .i64 k, .int .i64 n, .int .i64 p, .string s, .slice a2 args.length c2] 39)) := by
        show _ = _
        have h2 := heap_alloc_new (w2.alloc (.cells #[.int .i64 k, .int .i64 n, .int .i64 p, .string s, .slice a args.length c] 39)) (.cells #[.int .i64 k, .int .i64 n, .int .i64 p, .string s, .slice a2 args.length c2] 39)
        rw [show (w2.alloc (.cells #[.int .i64 k, .int .i64 n, .int .i64 p, .string s, .slice a args.length c] 39)).heap.size = w2.heap.size + 1 from by simp] at h2
        exact h2
      have hwG : Hid (w2.grownBy ((w2.alloc (.cells #[.int .i64 k, .int .i64 n, .int .i64 p, .string s, .slice a args.length c] 39)).alloc (.cells #[.int .i64 k, .int .i64 n, .int .i64 p, .string s, .slice a2 args.length c2] 39)) none) := Lf.gbt (Lf.gb _) (Lf.gb _)
      generalize (w2.alloc (.cells #[.int .i64 k, .int .i64 n, .int .i64 p, .string s, .slice a args.length c] 39)).alloc (.cells #[.int .i64 k, .int .i64 n, .int .i64 p, .string s, .slice a2 args.length c2] 39) = wb at *
      go_loopw [44] (fun i wr => ∃ j : Nat, j ≤ args.length ∧ i = .int .i64 j ∧ wb.grownBy wr none) (fun i _ => args.length - (intOf i).toNat)
      case atStart => exact ⟨0, Nat.zero_le _, rfl, grow_refl _ _⟩
      case round =>
        obtain ⟨j, hj, rfl, hgr⟩ := hrel
        have hgw : w.grownBy wr none := Lf.gbt HG.out (Lf.gbt hwG.out hgr)
        obtain ⟨x0, x1, x2, x3, x4⟩ := box5 ((hgr.block _ (Array.getElem?_eq_some_iff.1 hwA.out).1 (by simp)).trans hwA.out)
        obtain ⟨y0, y1, y2, y3, y4⟩ := box5 ((hgr.block _ (Array.getElem?_eq_some_iff.1 hwB.out).1 (by simp)).trans hwB.out)
        by_cases hlt : j < args.length
        · obtain ⟨b1, o1, rfl, _, k1, n1, p1, s1, a1, l1, c1, hv1, e0, e1, e2, e3, e4⟩ := (HC.out j hlt).same (same_none hgw)
          obtain ⟨b2, o2, rfl, _, k2, n2, p2, s2, a3, l2, c3, hv2, f0, f1, f2, f3, f4⟩ := (HC2.out j hlt).same (same_none hgw)
          have hI := IH.out j hlt (V2 j) wr.drew (grow_drew hgw) (HR2.out j hlt)
          rw [hv1, hv2] at hI
          unfold nodeV at hI
          have HI := Lf.hide hI
          have HGR := Lf.hide hgr
          clear hI hgr hgw hv1 hv2 HC HC2 HR2 IH
          go_wp2_with fail
          go_region_with (go_at_call 43; refine HI.out.mono ?_; rintro e w3 ⟨rfl, hg3⟩; have HG3 := Lf.hide hg3; clear hg3)
          all_goals
            go_wp2_with fail
            go_roundw
            case rel => exact ⟨j + 1, by omega, by go_num, Lf.gbt (grow_drew HGR.out) HG3.out⟩
            case measure => simp [intOf]; omega
        · have HGR := Lf.hide hgr
          clear hgr hgw
          go_wp2_with fail
          go_ret
          exact ⟨rfl, Lf.gbt hwG.out HGR.out⟩

end Go.Proofs.Ytmmgihaoahhkjaa
