/- The document's own SameValue and Size by their contracts. -/
import Derived.Test.YtmmgihaoahhkjaaKSameG
import Derived.Test.YtmmgihaoahhkjaaKSizeV
import Derived.Test.YtmmgihaoahhkjaaKROrd
import Derived.Test.YtmmgihaoahhkjaaKRefSame
import Derived.Test.YtmmgihaoahhkjaaKRSameN
namespace Go.Proofs.Ytmmgihaoahhkjaa
set_option maxRecDepth 20000
open Go.ChangeShapes Go.WideShapes Go.ChangeAt Go.RowKit
set_option linter.unusedVariables false

mutual
theorem sbsN_zero : ∀ a b : Tr, (sbsN sameCN a b = 0 ↔ eqTr a b = true)
  | .nd k n p s args, .nd k2 n2 p2 s2 args2 => by
    have ih := sbsNs_zero args args2
    rw [sbsN_eq, eqTr]
    by_cases h : k = k2 ∧ n = n2 ∧ p = p2 ∧ s.toList = s2.toList
    · rw [show sameCN (.nd k n p s args) (.nd k2 n2 p2 s2 args2) = 0 from if_pos h]
      obtain ⟨h1, h2, h3, h4⟩ := h
      simp [h1, h2, h3, h4, ih, argsN]
    · rw [show sameCN (.nd k n p s args) (.nd k2 n2 p2 s2 args2) = 1 from if_neg h]
      constructor
      · intro e; simp at e
      · intro e
        simp only [Bool.and_eq_true, decide_eq_true_eq] at e
        exact absurd ⟨e.1.1.1.1, e.1.1.1.2, e.1.1.2, e.1.2⟩ h
theorem sbsNs_zero : ∀ a b : List Tr, (sbsNs sameCN a b = 0 ↔ eqTrs a b = true)
  | [], [] => by simp [sbsNs, eqTrs]
  | [], _ :: _ => by simp [sbsNs, eqTrs]
  | _ :: _, [] => by simp [sbsNs, eqTrs]
  | x :: xs, y :: ys => by
    have h1 := sbsN_zero x y
    have h2 := sbsNs_zero xs ys
    rw [sbsNs, eqTrs]
    by_cases h : sbsN sameCN x y = 0
    · simp [h, h1.1 h, h2]
    · have h3 : eqTr x y = false := by
        cases hq : eqTr x y with
        | false => rfl
        | true => exact absurd (h1.2 hq) h
      simp [h, h3]
end

theorem sbsVs_zero {c : Va → Va → Int} : ∀ (xs ys : List Va), sbsVs c xs ys = 0 ↔ xs.length = ys.length ∧ ∀ i (h1 : i < xs.length) (h2 : i < ys.length), sbsV c xs[i] ys[i] = 0
  | [], [] => by simp [sbsVs]
  | [], _ :: _ => by simp [sbsVs]
  | _ :: _, [] => by simp [sbsVs]
  | x :: xs, y :: ys => by
    have ih := sbsVs_zero (c := c) xs ys
    rw [sbsVs_cons, lexI_zero, ih]
    constructor
    · rintro ⟨h1, h2, h3⟩
      refine ⟨by simp [h2], fun i h4 h5 => ?_⟩
      cases i with
      | zero => exact h1
      | succ i => exact h3 i (Nat.lt_of_succ_lt_succ h4) (Nat.lt_of_succ_lt_succ h5)
    · rintro ⟨h1, h2⟩
      exact ⟨h2 0 (Nat.zero_lt_succ _) (Nat.zero_lt_succ _), by simpa using h1, fun i h4 h5 => h2 (i + 1) (Nat.succ_lt_succ h4) (Nat.succ_lt_succ h5)⟩

theorem lies_codesK {w : World} {code : List Tr} {na : Option Addr} {nc : Nat} {V : Nat → Value} (hk : code.length ≤ nc) (h : RowN (fun _ => True) w code na V) : Lies (fun _ => True) w (.nd 0 0 0 ⟨#[]⟩ code) (nodeV 0 0 0 ⟨#[]⟩ na code.length nc) :=
  .mk (hk := hk) V h.1 (Nat.zero_le _) ⟨by decide, by decide⟩ ⟨by decide, by decide⟩ ⟨by decide, by decide⟩ h.2.1 h.2.2

theorem sameGC_no {x y : Va} (h : ¬ ((x.k = y.k ∧ x.n = y.n ∧ x.a = y.a ∧ x.s.toList = y.s.toList) ∧ sameTs x.types y.types = true ∧ sbsNs sameCN x.code y.code = 0)) : decide (sbsV sameGC x y = 0) = false := by
  apply decide_eq_false
  rw [sbsV_lex, lexI_zero]
  intro e
  have := e.1
  unfold sameGC at this
  rw [if_neg h] at this
  cases this

set_option maxRecDepth 100000 in
set_option maxHeartbeats 4000000 in
theorem rsameG_any {w : World} {x : Va} {u : Value} (hx : LiesV (fun _ => True) w x u) : ∀ (y : Va) (v : Value) (W : World), LiesV (fun _ => True) w y v → w.grownBy W none →
    Calls Try.prog 15 #[u, v] W fun e w' => e = .returned (.bool (decide (sbsV sameGC x y = 0))) ∧ W.grownBy w' none := by
  induction hx with
  | @mk k n a s args types code aa ta na ac tc nc hnk V VT VN hl hlc hs ik iN ia hT hN hc hr ih =>
    intro y v W hy hW
    cases hy with
    | @mk k2 n2 a2 s2 args2 types2 code2 aa2 ta2 na2 ac2 tc2 nc2 hnk2 V2 VT2 VN2 hl2 hlc2 hs2 ik2 iN2 ia2 hT2 hN2 hc2 hr2 =>
      have HNO := Lf.hide (sameGC_no (x := .mk k n a s args types code) (y := .mk k2 n2 a2 s2 args2 types2 code2))
      simp only [Va.k, Va.n, Va.a, Va.s, Va.types, Va.code] at HNO
      have HZ : Hid (sbsV sameGC (.mk k n a s args types code) (.mk k2 n2 a2 s2 args2 types2 code2) = 0 ↔ sameGC (.mk k n a s args types code) (.mk k2 n2 a2 s2 args2 types2 code2) = 0 ∧ sbsVs sameGC args args2 = 0) := by
        show _ ↔ _
        rw [sbsV_lex, lexI_zero]; rfl
      have HYES : Hid (sameGC (.mk k n a s args types code) (.mk k2 n2 a2 s2 args2 types2 code2) = if (k = k2 ∧ n = n2 ∧ a = a2 ∧ s.toList = s2.toList) ∧ sameTs types types2 = true ∧ sbsNs sameCN code code2 = 0 then 0 else 1) := rfl
      generalize sameGC (.mk k n a s args types code) (.mk k2 n2 a2 s2 args2 types2 code2) = qc at *
      generalize sbsV sameGC (.mk k n a s args types code) (.mk k2 n2 a2 s2 args2 types2 code2) = qq at *
      unfold maxLen at hl hl2
      have IH := Lf.hide ih
      have HC := Lf.hide hc
      have HC2 := Lf.hide hc2
      have HR2 := Lf.hide hr2
      have HG := Lf.hide hW
      have HST := Lf.hide (fun W2 (h : W.grownBy W2 none) => rsames_any (c := tc) (c2 := tc2) hT hT2 W2 (Lf.gbt hW h))
      have HSN : Hid (∀ W2, W.grownBy W2 none → Calls Try.prog 43 #[.agg #[.int .i64 0, .int .i64 0, .int .i64 0, .string ⟨#[]⟩, .slice na code.length nc], .agg #[.int .i64 0, .int .i64 0, .int .i64 0, .string ⟨#[]⟩, .slice na2 code2.length nc2]] W2 fun e w' => e = .returned (.bool (decide (sbsNs sameCN code code2 = 0))) ∧ W2.grownBy w' none) := fun W2 h => by
        have q := rsameN_any (lies_codesK hnk hN) _ _ W2 (Lf.gbt hW h) (lies_codesK hnk2 hN2)
        have e : eqTr (.nd 0 0 0 ⟨#[]⟩ code) (.nd 0 0 0 ⟨#[]⟩ code2) = decide (sbsNs sameCN code code2 = 0) := by
          rw [eqTr, Bool.eq_iff_iff]
          simp only [Bool.and_eq_true, decide_eq_true_eq, true_and]
          exact (sbsNs_zero code code2).symm
        rw [e] at q
        exact q
      have hl2' := hN.1
      have hl3' := hT.1
      unfold maxLen at hl2' hl3'
      clear ih hc hr hc2 hr2 hW hT hN hT2 hN2 ik iN ia ik2 iN2 ia2 hnk hnk2
      unfold vaV
      by_cases h1 : k = k2
      case neg =>
        have g1 : (k == k2) = false := by simpa using h1
        have g2 : (k != k2) = true := by simpa using h1
        have HQ := Lf.hide (HNO.out (fun e => h1 e.1.1))
        clear h1 IH HC HC2 HR2 HST HSN HNO HZ HYES
        go_enter Try.func15, Try.ntmps15
        go_wp2_with fail
        go_ret
        exact Lf.retb HQ.out.symm (Lf.gbt (Lf.gb _) (Lf.gb _))
      subst h1
      by_cases h2 : n = n2
      case neg =>
        have g1 : (n == n2) = false := by simpa using h2
        have g2 : (n != n2) = true := by simpa using h2
        have HQ := Lf.hide (HNO.out (fun e => h2 e.1.2.1))
        clear h2 IH HC HC2 HR2 HST HSN HNO HZ HYES
        go_enter Try.func15, Try.ntmps15
        go_wp2_with fail
        go_ret
        exact Lf.retb HQ.out.symm (Lf.gbt (Lf.gb _) (Lf.gb _))
      subst h2
      by_cases h3 : a = a2
      case neg =>
        have g1 : (a == a2) = false := by simpa using h3
        have g2 : (a != a2) = true := by simpa using h3
        have HQ := Lf.hide (HNO.out (fun e => h3 e.1.2.2.1))
        clear h3 IH HC HC2 HR2 HST HSN HNO HZ HYES
        go_enter Try.func15, Try.ntmps15
        go_wp2_with fail
        go_ret
        exact Lf.retb HQ.out.symm (Lf.gbt (Lf.gb _) (Lf.gb _))
      subst h3
      by_cases h4 : s.toList = s2.toList
      case neg =>
        have g1 : (s.toList == s2.toList) = false := by simpa using h4
        have g2 : (s.toList != s2.toList) = true := by simpa using h4
        have HQ := Lf.hide (HNO.out (fun e => h4 e.1.2.2.2))
        clear IH HC HC2 HR2 HST HSN HNO HZ HYES
        go_enter Try.func15, Try.ntmps15
        go_wp2_with fail
        go_ret
        exact Lf.retb HQ.out.symm (Lf.gbt (Lf.gb _) (Lf.gb _))
      obtain rfl := toListI h4
      have hss : (s.toList == s.toList) = true := by simp
      have hsn : (s.toList != s.toList) = false := by simp
      clear h4
      by_cases hln : args.length = args2.length
      case neg =>
        have HQ : Hid (decide (qq = 0) = false) := by
          show decide (qq = 0) = false
          exact decide_eq_false fun e => hln ((sbsVs_zero args args2).1 (HZ.out.1 e).2).1
        have g1 : ((args.length : Int) == (args2.length : Int)) = false := by simp; omega
        have g2 : ((args.length : Int) != (args2.length : Int)) = true := by simp; omega
        clear hln IH HC HC2 HR2 HST HSN HNO HZ HYES
        go_enter Try.func15, Try.ntmps15
        go_wp2_with fail
        go_ret
        exact Lf.retb HQ.out.symm (Lf.gbt (Lf.gb _) (Lf.gb _))
      have HLN := Lf.hide hln
      have g1 : ((args.length : Int) == (args2.length : Int)) = true := by simp [hln]
      have g2 : ((args.length : Int) != (args2.length : Int)) = false := by simp [hln]
      have HA0 := Lf.hide (res_new W (.cells #[.int .i64 k, .int .i64 n, .int .i64 a, .string s, .slice aa args.length ac, .slice ta types.length tc, .slice na code.length nc] 28) (.cells #[.int .i64 k, .int .i64 n, .int .i64 a, .string s, .slice aa2 args2.length ac2, .slice ta2 types2.length tc2, .slice na2 code2.length nc2] 28))
      have HB0 := Lf.hide (rnew_two W (.cells #[.int .i64 k, .int .i64 n, .int .i64 a, .string s, .slice aa args.length ac, .slice ta types.length tc, .slice na code.length nc] 28) (.cells #[.int .i64 k, .int .i64 n, .int .i64 a, .string s, .slice aa2 args2.length ac2, .slice ta2 types2.length tc2, .slice na2 code2.length nc2] 28))
      have HG0 := Lf.hide (Lf.gbt (Lf.gb (w := W) (.cells #[.int .i64 k, .int .i64 n, .int .i64 a, .string s, .slice aa args.length ac, .slice ta types.length tc, .slice na code.length nc] 28)) (Lf.gb (.cells #[.int .i64 k, .int .i64 n, .int .i64 a, .string s, .slice aa2 args2.length ac2, .slice ta2 types2.length tc2, .slice na2 code2.length nc2] 28)))
      clear hln
      cases hst : sameTs types types2 with
      | false =>
        rw [hst] at HST
        have HQ := Lf.hide (HNO.out (fun e => by have := e.2.1; rw [hst] at this; cases this))
        clear hst IH HC HC2 HR2 HSN HNO HZ HYES HLN
        go_enter Try.func15, Try.ntmps15
        go_wp2_with fail
        refine (HST.out _ HG0.out).mono ?_; rintro e w1 ⟨rfl, hg⟩
        have HG1 := Lf.hide (Lf.gbt HG0.out hg)
        clear hg
        go_wp2_with fail
        go_ret
        exact Lf.retb HQ.out.symm HG1.out
      | true =>
        rw [hst] at HST
        have HSTT := Lf.hide hst
        clear hst
        by_cases hcd : sbsNs sameCN code code2 = 0
        case neg =>
          rw [decide_eq_false hcd] at HSN
          have HQ := Lf.hide (HNO.out (fun e => hcd e.2.2))
          clear hcd IH HC HC2 HR2 HNO HZ HYES HLN HSTT
          go_enter Try.func15, Try.ntmps15
          go_wp2_with fail
          refine (HST.out _ HG0.out).mono ?_; rintro e w1 ⟨rfl, hg⟩
          have HG1 := Lf.hide (Lf.gbt HG0.out hg)
          have HA1 := Lf.hide (keepB HA0.out hg)
          have HB1 := Lf.hide (keepB HB0.out hg)
          obtain ⟨x0, x1, x2, x3, x4, x5, x6⟩ := box7 HA1.out
          obtain ⟨y0, y1, y2, y3, y4, y5, y6⟩ := box7 HB1.out
          clear hg
          go_wp2_with fail
          refine (HSN.out _ HG1.out).mono ?_; rintro e w3 ⟨rfl, hg⟩
          have HG3 := Lf.hide (Lf.gbt HG1.out hg)
          clear hg
          go_wp2_with fail
          go_ret
          exact Lf.retb HQ.out.symm HG3.out
        rw [decide_eq_true hcd] at HSN
        have HZ2 : Hid (decide (qq = 0) = true ↔ sbsVs sameGC args args2 = 0) := by
          show _ ↔ _
          have h0 : qc = 0 := by rw [HYES.out, if_pos ⟨⟨rfl, rfl, rfl, rfl⟩, HSTT.out, hcd⟩]
          rw [decide_eq_true_eq, HZ.out, h0]; simp
        clear hcd HNO HZ HYES HSTT
        go_enter Try.func15, Try.ntmps15
        go_wp2_with fail
        refine (HST.out _ HG0.out).mono ?_; rintro e w1 ⟨rfl, hg⟩
        have HG1 := Lf.hide (Lf.gbt HG0.out hg)
        have HA1 := Lf.hide (keepB HA0.out hg)
        have HB1 := Lf.hide (keepB HB0.out hg)
        obtain ⟨x0, x1, x2, x3, x4, x5, x6⟩ := box7 HA1.out
        obtain ⟨y0, y1, y2, y3, y4, y5, y6⟩ := box7 HB1.out
        clear hg
        go_wp2_with fail
        refine (HSN.out _ HG1.out).mono ?_; rintro e w3 ⟨rfl, hg⟩
        have HG3 := Lf.hide (Lf.gbt HG1.out hg)
        have HA3 := Lf.hide (keepB HA1.out hg)
        have HB3 := Lf.hide (keepB HB1.out hg)
        clear hg x0 x1 x2 x3 x4 x5 x6 y0 y1 y2 y3 y4 y5 y6
        obtain ⟨x0, x1, x2, x3, x4, x5, x6⟩ := box7 HA3.out
        obtain ⟨y0, y1, y2, y3, y4, y5, y6⟩ := box7 HB3.out
        go_wp2_with fail
        clear x0 x1 x2 x3 x4 x5 x6 y0 y1 y2 y3 y4 y5 y6
        go_loopw [62] (fun i wr => ∃ j : Nat, j ≤ args.length ∧ i = .int .i64 j ∧ (∀ i (h1 : i < args.length) (h2 : i < args2.length), i < j → sbsV sameGC args[i] args2[i] = 0) ∧ W.grownBy wr none ∧ wr.heap[W.heap.size]? = some (.cells #[.int .i64 k, .int .i64 n, .int .i64 a, .string s, .slice aa args.length ac, .slice ta types.length tc, .slice na code.length nc] 28) ∧ wr.heap[W.heap.size + 1]? = some (.cells #[.int .i64 k, .int .i64 n, .int .i64 a, .string s, .slice aa2 args2.length ac2, .slice ta2 types2.length tc2, .slice na2 code2.length nc2] 28)) (fun i _ => args.length - (intOf i).toNat)
        case atStart => exact ⟨0, Nat.zero_le _, rfl, fun i h1 h2 h3 => by omega, HG3.out, HA3.out, HB3.out⟩
        case round =>
          obtain ⟨j, hj, rfl, hall, hgr, hA, hB⟩ := hrel
          have hgw : w.grownBy wr none := Lf.gbt HG.out hgr
          have HALL := Lf.hide hall
          clear hall
          by_cases hlt : j < args.length
          · have hlt2 : j < args2.length := by have := HLN.out; omega
            obtain ⟨b1, o1, rfl, _, k3, n3, a3, s3, aa3, al3, ac3, ta3, tl3, tc3, na3, nl3, nc3, hv1, e0, e1, e2, e3, e4, e5, e6⟩ := (HC.out j hlt).same (sameAll hgw)
            obtain ⟨b2, o2, rfl, _, k4, n4, a4, s4, aa4, al4, ac4, ta4, tl4, tc4, na4, nl4, nc4, hv2, f0, f1, f2, f3, f4, f5, f6⟩ := (HC2.out j hlt2).same (sameAll hgw)
            have hI := fun W3 (h3 : wr.grownBy W3 none) => IH.out j hlt args2[j] (V2 j) W3 (HR2.out j hlt2) (Lf.gbt hgw h3)
            rw [hv1, hv2] at hI
            unfold vaV at hI
            have HI := Lf.hide hI
            have q1 : b1 < wr.heap.size := World.block_lt_of_cell? wr _ e0
            have q2 : b2 < wr.heap.size := World.block_lt_of_cell? wr _ f0
            have xd : ∀ W3 : World, wr.grownBy W3 none → W3.cell? ⟨W.heap.size, 4, none⟩ = some (.slice (some ⟨b1, o1, none⟩) args.length ac) := fun W3 h => (box7 (keepB hA h)).2.2.2.2.1
            have yd : ∀ W3 : World, wr.grownBy W3 none → W3.cell? ⟨W.heap.size + 1, 4, none⟩ = some (.slice (some ⟨b2, o2, none⟩) args2.length ac2) := fun W3 h => (box7 (keepB hB h)).2.2.2.2.1
            have ed0 := fun (W3 : World) (h : wr.grownBy W3 none) => (World.cell?_of_block (h.block b1 q1 (by simp))).trans e0
            have ed1 := fun (W3 : World) (h : wr.grownBy W3 none) => (World.cell?_of_block (h.block b1 q1 (by simp))).trans e1
            have ed2 := fun (W3 : World) (h : wr.grownBy W3 none) => (World.cell?_of_block (h.block b1 q1 (by simp))).trans e2
            have ed3 := fun (W3 : World) (h : wr.grownBy W3 none) => (World.cell?_of_block (h.block b1 q1 (by simp))).trans e3
            have ed4 := fun (W3 : World) (h : wr.grownBy W3 none) => (World.cell?_of_block (h.block b1 q1 (by simp))).trans e4
            have ed5 := fun (W3 : World) (h : wr.grownBy W3 none) => (World.cell?_of_block (h.block b1 q1 (by simp))).trans e5
            have ed6 := fun (W3 : World) (h : wr.grownBy W3 none) => (World.cell?_of_block (h.block b1 q1 (by simp))).trans e6
            have fd0 := fun (W3 : World) (h : wr.grownBy W3 none) => (World.cell?_of_block (h.block b2 q2 (by simp))).trans f0
            have fd1 := fun (W3 : World) (h : wr.grownBy W3 none) => (World.cell?_of_block (h.block b2 q2 (by simp))).trans f1
            have fd2 := fun (W3 : World) (h : wr.grownBy W3 none) => (World.cell?_of_block (h.block b2 q2 (by simp))).trans f2
            have fd3 := fun (W3 : World) (h : wr.grownBy W3 none) => (World.cell?_of_block (h.block b2 q2 (by simp))).trans f3
            have fd4 := fun (W3 : World) (h : wr.grownBy W3 none) => (World.cell?_of_block (h.block b2 q2 (by simp))).trans f4
            have fd5 := fun (W3 : World) (h : wr.grownBy W3 none) => (World.cell?_of_block (h.block b2 q2 (by simp))).trans f5
            have fd6 := fun (W3 : World) (h : wr.grownBy W3 none) => (World.cell?_of_block (h.block b2 q2 (by simp))).trans f6
            have HGR := Lf.hide hgr
            have HA := Lf.hide hA
            have HB := Lf.hide hB
            have w1 : IntKind.i64.wrap (j : Int) = (j : Int) := rwrapN j (by omega)
            have w2 : (j : Int) < (args.length : Int) := by omega
            have w3 : (j : Int) < (args2.length : Int) := by omega
            have HNO2 : Hid (¬ sbsV sameGC args[j] args2[j] = 0 → decide (qq = 0) = false) := fun h => by
              cases hq : decide (qq = 0) with
              | false => rfl
              | true => exact absurd (((sbsVs_zero args args2).1 (HZ2.out.1 hq)).2 j hlt hlt2) h
            have HYE2 : Hid (sbsV sameGC args[j] args2[j] = 0 → ∀ i (h1 : i < args.length) (h2 : i < args2.length), i < j + 1 → sbsV sameGC args[i] args2[i] = 0) := fun h i h1 h2 h3 => by
              by_cases e : i = j
              · subst e; exact h
              · exact HALL.out i h1 h2 (by omega)
            generalize sbsV sameGC args[j] args2[j] = r at *
            clear hI hgr hgw hv1 hv2 hA hB e0 e1 e2 e3 e4 e5 e6 f0 f1 f2 f3 f4 f5 f6
            by_cases hr : r = 0
            · have HRL := Lf.hide (HYE2.out hr)
              rw [decide_eq_true hr] at HI
              clear hr HYE2 HNO2
              go_wp2_with fail
              go_region_held3 (fun w' => wr.grownBy w' none) (first | assumption | exact grow_drew (grow_refl _ _)) (first
                | (go_at_call 15; refine (HI.out _ (by assumption)).mono ?_; rintro e w' ⟨rfl, hg⟩; have hS := Lf.gbt (by assumption) hg))
              have HS9 := Lf.hide (Lf.gbt HGR.out hS)
              have HA9 := Lf.hide (keepB HA.out hS)
              have HB9 := Lf.hide (keepB HB.out hS)
              clear hS
              go_wp2_with fail
              go_roundw
              case rel => exact ⟨j + 1, by omega, by go_num, HRL.out, HS9.out, HA9.out, HB9.out⟩
              case measure => simp [intOf]; omega
            · have HQ := Lf.hide (HNO2.out hr)
              rw [decide_eq_false hr] at HI
              clear hr HYE2 HNO2
              go_wp2_with fail
              go_region_held3 (fun w' => wr.grownBy w' none) (first | assumption | exact grow_drew (grow_refl _ _)) (first
                | (go_at_call 15; refine (HI.out _ (by assumption)).mono ?_; rintro e w' ⟨rfl, hg⟩; have hS := Lf.gbt (by assumption) hg))
              have HS9 := Lf.hide (Lf.gbt HGR.out hS)
              clear hS
              go_wp2_with fail
              go_ret
              exact Lf.retb HQ.out.symm HS9.out
          · have HGR := Lf.hide hgr
            have hj3 : ¬ (j : Int) < (args.length : Int) := by omega
            have HQ : Hid (decide (qq = 0) = true) := HZ2.out.2 ((sbsVs_zero args args2).2 ⟨HLN.out, fun i h1 h2 => HALL.out i h1 h2 (by omega)⟩)
            clear hgr hgw hA hB
            go_wp2_with fail
            go_ret
            exact Lf.retb HQ.out.symm HGR.out

end Go.Proofs.Ytmmgihaoahhkjaa
