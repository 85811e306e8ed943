/- That two nodes are alike, or not: the document's own SameNode by its contract. -/
import Derived.Test.YtmmgihaoahhkjaaKAlikes
namespace Go.Proofs.Ytmmgihaoahhkjaa
set_option maxRecDepth 20000
open Go.ChangeShapes Go.WideShapes Go.ChangeAt Go.RowKit
set_option linter.unusedVariables false

mutual
def eqTr : Tr → Tr → Bool
  | .nd k n p s a, .nd k2 n2 p2 s2 b => decide (k = k2) && decide (n = n2) && decide (p = p2) && decide (s.toList = s2.toList) && eqTrs a b
def eqTrs : List Tr → List Tr → Bool
  | [], [] => true
  | x :: xs, y :: ys => eqTr x y && eqTrs xs ys
  | [], _ :: _ => false
  | _ :: _, [] => false
end

theorem toList_inj {a b : ByteArray} (h : a.toList = b.toList) : a = b := by
  rw [ByteArray.toList_eq, ByteArray.toList_eq] at h
  cases a; cases b
  simp at h
  rw [h]

mutual
theorem eqTr_iff : ∀ a b : Tr, eqTr a b = true ↔ a = b
  | .nd k n p s a, .nd k2 n2 p2 s2 b => by
    rw [eqTr]
    simp only [Bool.and_eq_true, decide_eq_true_eq, Tr.nd.injEq, eqTrs_iff a b]
    constructor
    · rintro ⟨⟨⟨⟨h1, h2⟩, h3⟩, h4⟩, h5⟩; exact ⟨h1, h2, h3, toList_inj h4, h5⟩
    · rintro ⟨h1, h2, h3, h4, h5⟩; exact ⟨⟨⟨⟨h1, h2⟩, h3⟩, by rw [h4]⟩, h5⟩
theorem eqTrs_iff : ∀ a b : List Tr, eqTrs a b = true ↔ a = b
  | [], [] => by simp [eqTrs]
  | x :: xs, y :: ys => by simp [eqTrs, eqTr_iff x y, eqTrs_iff xs ys]
  | [], _ :: _ => by simp [eqTrs]
  | _ :: _, [] => by simp [eqTrs]
end

theorem eqTrs_len : ∀ {a b : List Tr}, eqTrs a b = true → a.length = b.length := fun {a b} h => by rw [(eqTrs_iff a b).1 h]

theorem eqTrs_take_succ : ∀ (x y : List Tr) (j : Nat) (h1 : j < x.length) (h2 : j < y.length), eqTrs (x.take j) (y.take j) = true → eqTrs (x.take (j + 1)) (y.take (j + 1)) = eqTr x[j] y[j]
  | [], _, _, h1, _, _ => by simp at h1
  | _ :: _, [], _, _, h2, _ => by simp at h2
  | a :: xs, b :: ys, 0, _, _, _ => by simp [eqTrs]
  | a :: xs, b :: ys, j + 1, h1, h2, h => by
    simp only [List.take_succ_cons, eqTrs, Bool.and_eq_true] at h
    have ih := eqTrs_take_succ xs ys j (by simpa using h1) (by simpa using h2) h.2
    simp only [List.take_succ_cons, eqTrs, h.1, Bool.true_and] at ih ⊢
    simpa using ih

theorem eqTrs_at_no : ∀ (x y : List Tr) (j : Nat) (h1 : j < x.length) (h2 : j < y.length), eqTr x[j] y[j] = false → eqTrs x y = false
  | [], _, _, h1, _, _ => by simp at h1
  | _ :: _, [], _, _, h2, _ => by simp at h2
  | a :: xs, b :: ys, 0, _, _, h => by
    have : eqTr a b = false := h
    simp [eqTrs, this]
  | a :: xs, b :: ys, j + 1, h1, h2, h => by
    have ih := eqTrs_at_no xs ys j (by simpa using h1) (by simpa using h2) (by simpa using h)
    simp [eqTrs, ih]

set_option maxRecDepth 100000 in
set_option maxHeartbeats 4000000 in
theorem rsameN_any {w : World} {t : Tr} {va : Value} (hL : Lies (fun _ => True) w t va) : ∀ (u : Tr) (vb : Value) (w2 : World), w.grownBy w2 none → Lies (fun _ => True) w u vb →
    Calls Try.prog 43 #[va, vb] w2 fun e w' => e = .returned (.bool (eqTr t u)) ∧ w2.grownBy w' none := by
  induction hL with
  | @mk k n p s args a c _ V hl hS ik iN ip hc hr ih =>
    intro u vb w2 hg hLb
    cases hLb with
    | @mk k2 n2 p2 s2 args2 a2 c2 _ V2 hl2 hS2 ik2 iN2 ip2 hc2 hr2 =>
      have hsm : eqTr (.nd k n p s args) (.nd k2 n2 p2 s2 args2) = (decide (k = k2) && decide (n = n2) && decide (p = p2) && decide (s.toList = s2.toList) && eqTrs args args2) := by rw [eqTr]
      have HSM := Lf.hide hsm
      have HGA : Hid (w2.grownBy ((w2.alloc (.cells #[.int .i64 k, .int .i64 n, .int .i64 p, .string s, .slice a args.length c] 39)).alloc (.cells #[.int .i64 k2, .int .i64 n2, .int .i64 p2, .string s2, .slice a2 args2.length c2] 39)) none) := Lf.gbt (Lf.gb _) (Lf.gb _)
      have IH := Lf.hide ih
      have HC := Lf.hide hc
      have HC2 := Lf.hide hc2
      have HR2 := Lf.hide hr2
      have HG := Lf.hide hg
      clear ih hc hr hc2 hr2 hg hsm ik iN ip ik2 iN2 ip2
      unfold maxLen at hl hl2
      unfold nodeV
      by_cases h1 : k = k2
      case neg =>
        have g1 : (k == k2) = false := by simpa using h1
        have g2 : (k != k2) = true := by simpa using h1
        have HN := Lf.hide h1
        clear h1 IH HC HC2 HR2
        go_enter Try.func43, Try.ntmps43
        go_wp2_with fail
        go_ret
        exact Lf.retb (by rw [HSM.out, decide_eq_false HN.out]; simp) HGA.out
      by_cases h2 : n = n2
      case neg =>
        have e1 : (k == k2) = true := by simpa using h1
        have e2 : (k != k2) = false := by simpa using h1
        have g1 : (n == n2) = false := by simpa using h2
        have g2 : (n != n2) = true := by simpa using h2
        have HN := Lf.hide h2
        clear h1 h2 IH HC HC2 HR2
        go_enter Try.func43, Try.ntmps43
        go_wp2_with fail
        go_ret
        exact Lf.retb (by rw [HSM.out, decide_eq_false HN.out]; simp) HGA.out
      by_cases h3 : p = p2
      case neg =>
        have e1 : (k == k2) = true := by simpa using h1
        have e2 : (k != k2) = false := by simpa using h1
        have e3 : (n == n2) = true := by simpa using h2
        have e4 : (n != n2) = false := by simpa using h2
        have g1 : (p == p2) = false := by simpa using h3
        have g2 : (p != p2) = true := by simpa using h3
        have HN := Lf.hide h3
        clear h1 h2 h3 IH HC HC2 HR2
        go_enter Try.func43, Try.ntmps43
        go_wp2_with fail
        go_ret
        exact Lf.retb (by rw [HSM.out, decide_eq_false HN.out]; simp) HGA.out
      by_cases h4 : s.toList = s2.toList
      case neg =>
        have e1 : (k == k2) = true := by simpa using h1
        have e2 : (k != k2) = false := by simpa using h1
        have e3 : (n == n2) = true := by simpa using h2
        have e4 : (n != n2) = false := by simpa using h2
        have e5 : (p == p2) = true := by simpa using h3
        have e6 : (p != p2) = false := by simpa using h3
        have g1 : (s.toList == s2.toList) = false := by simpa using h4
        have g2 : (s.toList != s2.toList) = true := by simpa using h4
        have HN := Lf.hide h4
        clear h1 h2 h3 h4 IH HC HC2 HR2
        go_enter Try.func43, Try.ntmps43
        go_wp2_with fail
        go_ret
        exact Lf.retb (by rw [HSM.out, decide_eq_false HN.out]; simp) HGA.out
      have HSM2 : Hid (eqTr (.nd k n p s args) (.nd k2 n2 p2 s2 args2) = eqTrs args args2) := by
        have := HSM.out
        rw [decide_eq_true h1, decide_eq_true h2, decide_eq_true h3, decide_eq_true h4] at this
        simp only [Bool.true_and] at this
        exact this
      have e1 : (k == k2) = true := by simpa using h1
      have e2 : (k != k2) = false := by simpa using h1
      have e3 : (n == n2) = true := by simpa using h2
      have e4 : (n != n2) = false := by simpa using h2
      have e5 : (p == p2) = true := by simpa using h3
      have e6 : (p != p2) = false := by simpa using h3
      have e7 : (s.toList == s2.toList) = true := by simpa using h4
      have e8 : (s.toList != s2.toList) = false := by simpa using h4
      generalize eqTr (.nd k n p s args) (.nd k2 n2 p2 s2 args2) = q at *
      by_cases hln : args.length = args2.length
      case neg =>
        have hne : q = false := by
          rw [HSM2.out]
          cases h : eqTrs args args2 with
          | false => rfl
          | true => exact absurd (eqTrs_len h) hln
        have HNE := Lf.hide hne
        have g1 : ((args.length : Int) == (args2.length : Int)) = false := by simp; omega
        have g2 : ((args.length : Int) != (args2.length : Int)) = true := by simp; omega
        clear h1 h2 h3 h4 hne hln IH HC HC2 HR2 HSM HSM2
        go_enter Try.func43, Try.ntmps43
        go_wp2_with fail
        go_ret
        exact Lf.retb HNE.out.symm HGA.out
      have HLN := Lf.hide hln
      have g1 : ((args.length : Int) == (args2.length : Int)) = true := by simp [hln]
      have g2 : ((args.length : Int) != (args2.length : Int)) = false := by simp [hln]
      have g3 : args.length ≤ args2.length := by omega
      have hwA := Lf.hide (res_new w2 (.cells #[.int .i64 k, .int .i64 n, .int .i64 p, .string s, .slice a args.length c] 39) (.cells #[.int .i64 k2, .int .i64 n2, .int .i64 p2, .string s2, .slice a2 args2.length c2] 39))
      have hwB : Hid (((w2.alloc (.cells #[.int .i64 k, .int .i64 n, .int .i64 p, .string s, .slice a args.length c] 39)).alloc (.cells #[.int .i64 k2, .int .i64 n2, .int .i64 p2, .string s2, .slice a2 args2.length c2] 39)).heap[w2.heap.size + 1]? = some (.cells #[.int .i64 k2, .int .i64 n2, .int .i64 p2, .string s2, .slice a2 args2.length c2] 39)) := by
        have h5 := heap_alloc_new (w2.alloc (.cells #[.int .i64 k, .int .i64 n, .int .i64 p, .string s, .slice a args.length c] 39)) (.cells #[.int .i64 k2, .int .i64 n2, .int .i64 p2, .string s2, .slice a2 args2.length c2] 39)
        rw [World.size_alloc] at h5
        exact h5
      clear h1 h2 h3 h4 hln HSM
      go_enter Try.func43, Try.ntmps43
      go_wp2_with fail
      generalize (w2.alloc (.cells #[.int .i64 k, .int .i64 n, .int .i64 p, .string s, .slice a args.length c] 39)).alloc (.cells #[.int .i64 k2, .int .i64 n2, .int .i64 p2, .string s2, .slice a2 args2.length c2] 39) = wb at *
      go_loopw [44] (fun i wr => ∃ j : Nat, j ≤ args.length ∧ i = .int .i64 j ∧ wb.grownBy wr none ∧ eqTrs (args.take j) (args2.take j) = true) (fun i _ => args.length - (intOf i).toNat)
      case atStart => exact ⟨0, Nat.zero_le _, rfl, grow_refl _ _, by simp [eqTrs]⟩
      case round =>
        obtain ⟨j, hj, rfl, hgr, hF⟩ := hrel
        have hgw : w.grownBy wr none := Lf.gbt HG.out (Lf.gbt HGA.out hgr)
        obtain ⟨x0, x1, x2, x3, x4⟩ := box5 ((hgr.block _ (Array.getElem?_eq_some_iff.1 hwA.out).1 (by simp)).trans hwA.out)
        obtain ⟨y0, y1, y2, y3, y4⟩ := box5 ((hgr.block _ (Array.getElem?_eq_some_iff.1 hwB.out).1 (by simp)).trans hwB.out)
        by_cases hlt : j < args.length
        · have hlt2 : j < args2.length := by have := HLN.out; omega
          obtain ⟨b1, o1, rfl, _, k3, n3, p3, s3, a3, l3, c3, hv1, u0, u1, u2, u3, u4⟩ := (HC.out j hlt).same (same_none hgw)
          obtain ⟨b2, o2, rfl, _, k4, n4, p4, s4, a4, l4, c4, hv2, f0, f1, f2, f3, f4⟩ := (HC2.out j hlt2).same (same_none hgw)
          have hI := IH.out j hlt args2[j] (V2 j) wr.drew (grow_drew hgw) (HR2.out j hlt2)
          rw [hv1, hv2] at hI
          unfold nodeV at hI
          have HGR := Lf.hide hgr
          have HSUC := Lf.hide (eqTrs_take_succ args args2 j hlt hlt2 hF)
          have HNO := Lf.hide (eqTrs_at_no args args2 j hlt hlt2)
          generalize eqTr args[j] args2[j] = r at *
          have HI := Lf.hide hI
          clear hI hgr hgw hv1 hv2 hF HC HC2 HR2 IH
          cases r with
          | true =>
            go_wp2_with fail
            go_region_with (go_at_call 43; refine HI.out.mono ?_; rintro e w3 ⟨rfl, hg3⟩; have HG3 := Lf.hide hg3; clear hg3)
            all_goals
              go_wp2_with fail
              go_roundw
              case rel => exact ⟨j + 1, by omega, by go_num, Lf.gbt (grow_drew HGR.out) HG3.out, HSUC.out⟩
              case measure => simp [intOf]; omega
          | false =>
            go_wp2_with fail
            go_region_with (go_at_call 43; refine HI.out.mono ?_; rintro e w3 ⟨rfl, hg3⟩; have HG3 := Lf.hide hg3; clear hg3)
            all_goals
              go_wp2_with fail
              go_ret
              exact Lf.retb (by rw [HSM2.out]; exact (HNO.out (by first | rfl | trivial)).symm) (Lf.gbt HGA.out (Lf.gbt (grow_drew HGR.out) HG3.out))
        · have hje : j = args.length := by omega
          have hz : q = true := by
            rw [HSM2.out, ← hF, hje, List.take_length, HLN.out, List.take_length]
          have HZ := Lf.hide hz
          have HGR := Lf.hide hgr
          clear hgr hgw hz hF hje
          go_wp2_with fail
          go_ret
          exact Lf.retb HZ.out.symm (Lf.gbt HGA.out HGR.out)

end Go.Proofs.Ytmmgihaoahhkjaa
