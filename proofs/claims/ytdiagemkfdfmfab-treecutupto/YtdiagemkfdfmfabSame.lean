/- That two nodes are alike, and that tree answers at all, by their contracts. -/
import Derived.Test.YtdiagemkfdfmfabDecode
namespace Go.Proofs.Ytdiagemkfdfmfab
open Go.ChangeShapes Go.WideShapes Go.ChangeAt Go.RowKit
set_option linter.unusedVariables false

theorem same_none {w w2 : World} (h : w.grownBy w2 none) : Same (fun _ => True) w w2 := fun b o _ hb => Lf.gcell h b o hb

set_option maxHeartbeats 1000000 in
theorem alike_any {w : World} {t : Tr} {va : Value} (hL : Lies (fun _ => True) w t va) : ∀ (vb : Value) (w2 : World), w.grownBy w2 none → Lies (fun _ => True) w t vb →
    Calls Try.prog 10 #[va, vb] w2 fun e w' => e = .returned (.bool true) ∧ w2.grownBy w' none := by
  induction hL with
  | @mk k n p s args a c V hl hS ik iN ip hc hr ih =>
    intro vb w2 hg hLb
    cases hLb with
    | @mk _ _ _ _ _ a2 c2 V2 _ _ _ _ _ hc2 hr2 =>
      have IH : Hid (∀ (i : Nat) (h : i < args.length) (vb : Value) (w2 : World), w.grownBy w2 none → Lies (fun _ => True) w args[i] vb → Calls Try.prog 10 #[V i, vb] w2 fun e w' => e = .returned (.bool true) ∧ w2.grownBy w' none) := ih
      have HC := Lf.hide hc
      have HC2 := Lf.hide hc2
      have HR2 := Lf.hide hr2
      have HG := Lf.hide hg
      clear ih hc hr hc2 hr2 hg
      unfold maxLen at hl
      have hss : (s.toList == s.toList) = true := by simp
      unfold nodeV
      go_enter Try.func10, Try.ntmps10
      go_wp2_with fail
      have hwA := Lf.hide (res_new w2 (.cells #[.int .i64 k, .int .i64 n, .int .i64 p, .string s, .slice a args.length c] 24) (.cells #[.int .i64 k, .int .i64 n, .int .i64 p, .string s, .slice a2 args.length c2] 24))
      have hwB : Hid (((w2.alloc (.cells #[.int .i64 k, .int .i64 n, .int .i64 p, .string s, .slice a args.length c] 24)).alloc (.cells #[.int .i64 k, .int .i64 n, .int .i64 p, .string s, .slice a2 args.length c2] 24)).heap[w2.heap.size + 1]? = some (.cells #[.int .i64 k, .int .i64 n, .int .i64 p, .string s, .slice a2 args.length c2] 24)) := by
        show _ = _
        have h2 := heap_alloc_new (w2.alloc (.cells #[.int .i64 k, .int .i64 n, .int .i64 p, .string s, .slice a args.length c] 24)) (.cells #[.int .i64 k, .int .i64 n, .int .i64 p, .string s, .slice a2 args.length c2] 24)
        rw [show (w2.alloc (.cells #[.int .i64 k, .int .i64 n, .int .i64 p, .string s, .slice a args.length c] 24)).heap.size = w2.heap.size + 1 from by simp] at h2
        exact h2
      have hwG : Hid (w2.grownBy ((w2.alloc (.cells #[.int .i64 k, .int .i64 n, .int .i64 p, .string s, .slice a args.length c] 24)).alloc (.cells #[.int .i64 k, .int .i64 n, .int .i64 p, .string s, .slice a2 args.length c2] 24)) none) := Lf.gbt (Lf.gb _) (Lf.gb _)
      generalize (w2.alloc (.cells #[.int .i64 k, .int .i64 n, .int .i64 p, .string s, .slice a args.length c] 24)).alloc (.cells #[.int .i64 k, .int .i64 n, .int .i64 p, .string s, .slice a2 args.length c2] 24) = wb at *
      go_loopw [44] (fun i wr => ∃ j : Nat, j ≤ args.length ∧ i = .int .i64 j ∧ wb.grownBy wr none) (fun i _ => args.length - (intOf i).toNat)
      case atStart => exact ⟨0, Nat.zero_le _, rfl, grow_refl _ _⟩
      case round =>
        obtain ⟨j, hj, rfl, hgr⟩ := hrel
        have hgw : w.grownBy wr none := Lf.gbt HG.out (Lf.gbt hwG.out hgr)
        obtain ⟨x0, x1, x2, x3, x4⟩ := box5 ((hgr.block _ (Array.getElem?_eq_some_iff.1 hwA.out).1 (by simp)).trans hwA.out)
        obtain ⟨y0, y1, y2, y3, y4⟩ := box5 ((hgr.block _ (Array.getElem?_eq_some_iff.1 hwB.out).1 (by simp)).trans hwB.out)
        by_cases hlt : j < args.length
        · obtain ⟨b1, o1, rfl, _, k1, n1, p1, s1, a1, l1, c1, hv1, e0, e1, e2, e3, e4⟩ := (HC.out j hlt).same (same_none hgw)
          obtain ⟨b2, o2, rfl, _, k2, n2, p2, s2, a3, l2, c3, hv2, f0, f1, f2, f3, f4⟩ := (HC2.out j hlt).same (same_none hgw)
          have hI := IH.out j hlt (V2 j) wr.drew (grow_drew hgw) (HR2.out j hlt)
          rw [hv1, hv2] at hI
          unfold nodeV at hI
          have HI := Lf.hide hI
          have HGR := Lf.hide hgr
          clear hI hgr hgw hv1 hv2 HC HC2 HR2 IH
          go_wp2_with fail
          go_region_with (go_at_call 10; refine HI.out.mono ?_; rintro e w3 ⟨rfl, hg3⟩; have HG3 := Lf.hide hg3; clear hg3)
          all_goals
            go_wp2_with fail
            go_roundw
            case rel => exact ⟨j + 1, by omega, by go_num, Lf.gbt (grow_drew HGR.out) HG3.out⟩
            case measure => simp [intOf]; omega
        · have HGR := Lf.hide hgr
          clear hgr hgw
          go_wp2_with fail
          go_ret
          exact ⟨rfl, Lf.gbt hwG.out HGR.out⟩

theorem enc_grows : encTr (.nd 0 (-1) 0 (bs []) []) = [0, 65] := by
  rw [encTr, if_pos rfl]
  unfold encN
  rw [show (-1 : Int).natAbs / 64 = 0 from rfl, encT, if_pos rfl]
  rfl

theorem good_leaf {k n p : Int} {s : ByteArray} (h : Lf.wrongF k n p s 0 = 0) : goodF (.nd k n p s []) = 0 := by
  have h1 : firstW 1 (.nd k n p s []) = 0 := by
    rw [firstW, if_neg (show ¬ 24 < 1 by omega), List.length_nil, if_neg (by simpa using h)]; simp [firstWs]
  unfold goodF
  rw [if_neg (by simpa using h1)]
  simp [Tr.size, sizes]

theorem grows_any (w : World) : Calls Try.prog 7 #[] w fun e w' => e = .returned (.bool true) ∧ w.grownBy w' none := by
  have hE := encode_yes (w := w) (t := .nd 0 (-1) 0 (bs []) []) (v := nodeV 0 (-1) 0 (bs []) none 0 0) (lies_leaf (by rw [bs_size]; simp) ⟨by omega, by omega⟩ ⟨by omega, by omega⟩ ⟨by omega, by omega⟩) (good_leaf (wrongF_mk _ _ _ _ _ (by decide) (by decide) (by rfl) (by omega) (by rw [bs_size]; simp)))
  rw [enc_grows] at hE
  have HE := Lf.hide hE
  clear hE
  go_enter Try.func7, Try.ntmps7
  go_wp2_with fail
  refine HE.out.mono ?_; rintro e w1 ⟨rfl, hg⟩
  have HG := Lf.hide hg
  clear hg
  go_wp2_with fail
  go_ret
  exact ⟨rfl, HG.out⟩

/-- what is read as a tree is good, and has just these bytes -/
theorem decode_good {l : List UInt8} {t : Tr} (h : pDecode l = .ok t) : goodF t = 0 ∧ encTr t = l := by
  unfold pDecode at h
  cases hq : pNode 24 0 l with
  | error e => rw [hq] at h; simp at h
  | ok r =>
    obtain ⟨t', n', l'⟩ := r
    rw [hq] at h
    simp only at h
    by_cases hl' : l' = []
    · rw [if_pos hl'] at h
      injection h with h
      subst h; subst hl'
      obtain ⟨a1, a2, a3, a4⟩ := pNode_sound 24 (by omega) 0 l t' n' [] (by omega) hq
      rw [show 25 - 24 = 1 from rfl] at a4
      refine ⟨?_, by rw [a1]; simp⟩
      unfold goodF
      rw [if_neg (by simpa using a4), if_neg (by omega)]
    · rw [if_neg hl'] at h; simp at h

theorem decode_complete {t : Tr} (h : goodF t = 0) : pDecode (encTr t) = .ok t := by
  obtain ⟨h1, h2⟩ := goodF_zero h
  have := pNode_complete 24 (by omega) t 0 [] h1 (by omega)
  rw [List.append_nil] at this
  unfold pDecode
  rw [this]
  simp

theorem decode_more {t : Tr} (h : goodF t = 0) (x : UInt8) : pDecode (encTr t ++ [x]) = .error 1 := by
  obtain ⟨h1, h2⟩ := goodF_zero h
  have := pNode_complete 24 (by omega) t 0 [x] h1 (by omega)
  unfold pDecode
  rw [this]
  simp

theorem decode_cut {t : Tr} (h : goodF t = 0) {a b : List UInt8} (he : encTr t = a ++ b) (hb : b ≠ []) : pDecode a = .error 1 := by
  obtain ⟨h1, h2⟩ := goodF_zero h
  unfold pDecode
  rw [pNode_cut 24 (by omega) t 0 a b h1 (by omega) he hb]

end Go.Proofs.Ytdiagemkfdfmfab
