/- The document's own SameType, by its contract. -/
import Derived.Test.YtmmgihaoahhkjaaKSameA
import Derived.Test.YtmmgihaoahhkjaaKRefK
namespace Go.Proofs.Ytmmgihaoahhkjaa
set_option maxRecDepth 20000
open Go.ChangeShapes Go.WideShapes Go.ChangeAt Go.RowKit
set_option linter.unusedVariables false

theorem sameTs_take_succ : ∀ (x y : List Ty) (j : Nat) (h1 : j < x.length) (h2 : j < y.length), sameTs (x.take j) (y.take j) = true → sameTs (x.take (j + 1)) (y.take (j + 1)) = sameT x[j] y[j]
  | [], _, _, h1, _, _ => by simp at h1
  | _ :: _, [], _, _, h2, _ => by simp at h2
  | a :: xs, b :: ys, 0, _, _, _ => by simp [sameTs]
  | a :: xs, b :: ys, j + 1, h1, h2, h => by
    simp only [List.take_succ_cons, sameTs, Bool.and_eq_true] at h
    have ih := sameTs_take_succ xs ys j (by simpa using h1) (by simpa using h2) h.2
    simp only [List.take_succ_cons, sameTs, h.1, Bool.true_and] at ih ⊢
    simpa using ih

theorem sameTs_at_no : ∀ (x y : List Ty) (j : Nat) (h1 : j < x.length) (h2 : j < y.length), sameT x[j] y[j] = false → sameTs x y = false
  | [], _, _, h1, _, _ => by simp at h1
  | _ :: _, [], _, _, h2, _ => by simp at h2
  | a :: xs, b :: ys, 0, _, _, h => by
    have : sameT a b = false := h
    simp [sameTs, this]
  | a :: xs, b :: ys, j + 1, h1, h2, h => by
    have ih := sameTs_at_no xs ys j (by simpa using h1) (by simpa using h2) (by simpa using h)
    simp [sameTs, ih]

set_option maxRecDepth 100000 in
set_option maxHeartbeats 2000000 in
/-- two types of rows that lie, whatever their room -/
theorem rsame_row {w : World} {t t2 : Int} {args args2 : List Ty} {a a2 : Option Addr} {c c2 : Nat} {V V2 : Nat → Value} (hl : args.length ≤ maxLen) (hl2 : args2.length ≤ maxLen) (hc : ∀ i, i < args.length → TyAt (fun _ => True) w a i (V i)) (hc2 : ∀ i, i < args2.length → TyAt (fun _ => True) w a2 i (V2 i)) (hr2 : ∀ i (h : i < args2.length), LiesT (fun _ => True) w args2[i] (V2 i))
    (ih : ∀ i (h : i < args.length), ∀ (U : Ty) (vb : Value) (w2 : World), w.grownBy w2 none → LiesT (fun _ => True) w U vb → Calls Try.prog 81 #[V i, vb] w2 fun e w' => e = .returned (.bool (sameT args[i] U)) ∧ w2.grownBy w' none) (w2 : World) (hg : w.grownBy w2 none) :
    Calls Try.prog 81 #[tyV t a args.length c, tyV t2 a2 args2.length c2] w2 fun e w' => e = .returned (.bool (sameT (.nd t args) (.nd t2 args2))) ∧ w2.grownBy w' none := by
  have hsm : sameT (.nd t args) (.nd t2 args2) = (decide (t = t2) && sameTs args args2) := by rw [sameT]
  have HSM := Lf.hide hsm
  have IH := Lf.hide ih
  have HC := Lf.hide hc
  have HC2 := Lf.hide hc2
  have HR2 := Lf.hide hr2
  have HG := Lf.hide hg
  clear ih hc hc2 hr2 hg hsm
  unfold maxLen at hl hl2
  unfold tyV
  by_cases ht : t = t2
  · subst ht
    by_cases hln : args.length = args2.length
    · have hwA := Lf.hide (res_new w2 (.cells #[.int .i64 t, .slice a args.length c] 24) (.cells #[.int .i64 t, .slice a2 args2.length c2] 24))
      have hwB : Hid (((w2.alloc (.cells #[.int .i64 t, .slice a args.length c] 24)).alloc (.cells #[.int .i64 t, .slice a2 args2.length c2] 24)).heap[w2.heap.size + 1]? = some (.cells #[.int .i64 t, .slice a2 args2.length c2] 24)) := by
        have h2 := heap_alloc_new (w2.alloc (.cells #[.int .i64 t, .slice a args.length c] 24)) (.cells #[.int .i64 t, .slice a2 args2.length c2] 24)
        rw [World.size_alloc] at h2
        exact h2
      have hwG : Hid (w2.grownBy ((w2.alloc (.cells #[.int .i64 t, .slice a args.length c] 24)).alloc (.cells #[.int .i64 t, .slice a2 args2.length c2] 24)) none) := Lf.gbt (Lf.gb _) (Lf.gb _)
      have HLN := Lf.hide hln
      have hln2 : ((args.length : Int) == (args2.length : Int)) = true := by simp [hln]
      have hln3 : ((args.length : Int) != (args2.length : Int)) = false := by simp [hln]
      have hln4 : args.length ≤ args2.length := by omega
      clear hln
      go_enter Try.func81, Try.ntmps81
      go_wp2_with fail
      generalize (w2.alloc (.cells #[.int .i64 t, .slice a args.length c] 24)).alloc (.cells #[.int .i64 t, .slice a2 args2.length c2] 24) = wb at *
      go_loopw [23] (fun i wr => ∃ j : Nat, j ≤ args.length ∧ i = .int .i64 j ∧ wb.grownBy wr none ∧ sameTs (args.take j) (args2.take j) = true) (fun i _ => args.length - (intOf i).toNat)
      case atStart => exact ⟨0, Nat.zero_le _, rfl, grow_refl _ _, by simp [sameTs]⟩
      case round =>
        obtain ⟨j, hj, rfl, hgr, hF⟩ := hrel
        have hgw : w.grownBy wr none := Lf.gbt HG.out (Lf.gbt hwG.out hgr)
        have hA := (hgr.block _ (lt_of_block hwA.out) (by simp)).trans hwA.out
        have hB := (hgr.block _ (lt_of_block hwB.out) (by simp)).trans hwB.out
        have x1 := cell1_of hA
        have y1 := cell1_of hB
        by_cases hlt : j < args.length
        · have hlt2 : j < args2.length := by omega
          obtain ⟨b1, o1, t1, a1, l1, c1, rfl, _, hv1, e0, e1⟩ := ((HC.out j hlt).same (sameTrue hgw)).cells
          obtain ⟨b2, o2, t2', a3, l2, c3, rfl, _, hv2, f0, f1⟩ := ((HC2.out j hlt2).same (sameTrue hgw)).cells
          have hI := IH.out j hlt args2[j] (V2 j) wr.drew (grow_drew hgw) (HR2.out j hlt2)
          rw [hv1, hv2] at hI
          unfold tyV at hI
          have HI := Lf.hide hI
          have HGR := Lf.hide hgr
          have HF := Lf.hide hF
          clear hI hgr hgw hv1 hv2 hA hB hF HC HC2 HR2 IH
          cases hx : sameT args[j] args2[j] with
          | true =>
            have hI2 := HI.out
            rw [hx] at hI2
            have HI2 := Lf.hide hI2
            have HX := Lf.hide hx
            clear hx hI2 HI
            go_wp2_with fail
            go_region_with (go_at_call 81; refine HI2.out.mono ?_; rintro e w3 ⟨rfl, hg3⟩; have HG3 := Lf.hide hg3; clear hg3)
            all_goals
              go_wp2_with fail
              go_roundw
              case rel => exact ⟨j + 1, by omega, by go_num, Lf.gbt (grow_drew HGR.out) HG3.out, by rw [sameTs_take_succ args args2 j hlt hlt2 HF.out, HX.out]⟩
              case measure => simp [intOf]; omega
          | false =>
            have hI2 := HI.out
            rw [hx] at hI2
            have HI2 := Lf.hide hI2
            have HX := Lf.hide hx
            clear hx hI2 HI
            go_wp2_with fail
            go_region_with (go_at_call 81; refine HI2.out.mono ?_; rintro e w3 ⟨rfl, hg3⟩; have HG3 := Lf.hide hg3; clear hg3)
            all_goals
              go_wp2_with fail
              go_ret
              exact ⟨by rw [HSM.out, sameTs_at_no args args2 j hlt hlt2 HX.out]; simp, Lf.gbt hwG.out (Lf.gbt (grow_drew HGR.out) HG3.out)⟩
        · have hje : j = args.length := by omega
          have HGR := Lf.hide hgr
          have HF := Lf.hide hF
          have HJ := Lf.hide hje
          clear hgr hgw hA hB hF hje
          go_wp2_with fail
          go_ret
          have hf := HF.out
          rw [HJ.out, List.take_length, HLN.out, List.take_length] at hf
          exact ⟨by rw [HSM.out, hf]; simp, Lf.gbt hwG.out HGR.out⟩
    · have hne : sameTs args args2 = false := by
        cases h : sameTs args args2 with
        | false => rfl
        | true => exact absurd (sameTs_len h) hln
      have HNE := Lf.hide hne
      have hln2 : ((args.length : Int) == (args2.length : Int)) = false := by simp; omega
      have hln3 : ((args.length : Int) != (args2.length : Int)) = true := by simp; omega
      clear hne hln
      go_enter Try.func81, Try.ntmps81
      go_wp2_with fail
      go_ret
      exact ⟨by rw [HSM.out, HNE.out]; simp, Lf.gbt (Lf.gb _) (Lf.gb _)⟩
  · have h1 : (t == t2) = false := by simpa using ht
    have h2 : (t != t2) = true := by simpa using ht
    have HT := Lf.hide ht
    clear ht
    go_enter Try.func81, Try.ntmps81
    go_wp2_with fail
    go_ret
    exact ⟨by rw [HSM.out, decide_eq_false HT.out]; simp, Lf.gbt (Lf.gb _) (Lf.gb _)⟩

theorem rsame_any {w : World} {T : Ty} {va : Value} (hL : LiesT (fun _ => True) w T va) : ∀ (U : Ty) (vb : Value) (w2 : World), w.grownBy w2 none → LiesT (fun _ => True) w U vb →
    Calls Try.prog 81 #[va, vb] w2 fun e w' => e = .returned (.bool (sameT T U)) ∧ w2.grownBy w' none := by
  induction hL with
  | @mk t args a c V hl hlc it hc hr ih =>
    intro U vb w2 hg hLb
    cases hLb with
    | @mk t2 args2 a2 c2 V2 hl2 hlc2 it2 hc2 hr2 => exact rsame_row hl hl2 hc hc2 hr2 ih w2 hg

/-- two lists of types -/
theorem rsames_any {w : World} {ts us : List Ty} {a b : Option Addr} {c c2 : Nat} {V V2 : Nat → Value} (hT : RowT (fun _ => True) w ts a V) (hU : RowT (fun _ => True) w us b V2) (w2 : World) (hg : w.grownBy w2 none) :
    Calls Try.prog 42 #[.slice a ts.length c, .slice b us.length c2] w2 fun e w' => e = .returned (.bool (sameTs ts us)) ∧ w2.grownBy w' none := by
  have h := fun W (hW : w.grownBy W none) => rsame_row (t := 0) (t2 := 0) (c := c) (c2 := c2) hT.1 hU.1 hT.2.1 hU.2.1 hU.2.2 (fun i hi U vb w3 h3 hv => rsame_any (hT.2.2 i hi) U vb w3 h3 hv) W hW
  have e : sameT (.nd 0 ts) (.nd 0 us) = sameTs ts us := by rw [sameT]; simp
  rw [e] at h
  have H := Lf.hide h
  have HG := Lf.hide hg
  clear h e hT hU hg
  generalize sameTs ts us = q at *
  unfold tyV at H
  go_enter Try.func42, Try.ntmps42
  go_wp2_with fail
  all_goals first
    | (refine (H.out _ (by first | exact HG.out | exact grow_drew HG.out)).mono ?_; rintro e w' ⟨rfl, hg⟩
       have HG2 := Lf.hide hg
       clear hg
       go_wp2_with fail
       go_ret
       exact ⟨rfl, HG2.out⟩)
    | (go_region_with (go_at_call 81; refine (H.out _ (by first | exact HG.out | exact grow_drew HG.out)).mono ?_; rintro e w' ⟨rfl, hg⟩; have HG2 := Lf.hide hg; clear hg)
       all_goals
         go_wp2_with fail
         go_ret
         exact ⟨rfl, HG2.out⟩)

end Go.Proofs.Ytmmgihaoahhkjaa
