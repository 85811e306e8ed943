/- The document's own goodType and GoodType, by their contracts. -/
import Derived.Test.YtmmgihaoahhkjaaKRefK
namespace Go.Proofs.Ytmmgihaoahhkjaa
set_option maxRecDepth 20000
open Go.ChangeShapes Go.WideShapes Go.ChangeAt Go.RowKit
set_option linter.unusedVariables false

def gtB (d : Nat) (L : Int) (T : Ty) : Bool := formedB d T && decide ((T.size : Int) ≤ L) && keyedF T

def gtBs (d : Nat) (L : Int) (l : List Ty) : Bool := formedBs d l && decide ((tysizes l : Int) ≤ L) && keyedFs l

def GtPost (d : Nat) (L : Int) (T : Ty) (w2 : World) (e : Ending) (w' : World) : Prop :=
  ∃ r : Int, e = .returned (.tuple #[.bool (gtB d L T), .int .i64 r]) ∧ (gtB d L T = true → r = L - T.size) ∧ w2.grownBy w' none

theorem gtBs_snoc {d : Nat} {L : Int} {l : List Ty} {j : Nat} (h : j < l.length) (h0 : gtBs d L (l.take j) = true) (h1 : gtB d (L - tysizes (l.take j)) l[j] = true) : gtBs d L (l.take (j + 1)) = true := by
  simp only [gtBs, gtB, Bool.and_eq_true, decide_eq_true_eq, formedBs_all, keyedFs_all] at h0 h1 ⊢
  have h2 := tysizes_take_succ l j h
  refine ⟨⟨?_, by omega⟩, ?_⟩
  · rw [List.take_succ_eq_append_getElem h, List.all_append, h0.1.1]; simp [h1.1.1]
  · rw [List.take_succ_eq_append_getElem h, List.all_append, h0.2]; simp [h1.2]

theorem gtBs_no {d : Nat} {L : Int} {l : List Ty} {j : Nat} (h : j < l.length) (h1 : gtB d (L - tysizes (l.take j)) l[j] = false) : gtBs d L l = false := by
  cases hq : gtBs d L l with
  | false => rfl
  | true =>
    simp only [gtBs, Bool.and_eq_true, decide_eq_true_eq, formedBs_all, keyedFs_all, List.all_eq_true] at hq
    have a1 := hq.1.1 l[j] (List.getElem_mem h)
    have a2 := hq.2 l[j] (List.getElem_mem h)
    have h2 := tysizes_take_succ l j h
    have h3 := tysizes_take_le l (j + 1)
    simp [gtB, a1, a2] at h1
    omega

theorem gtB_nd {d : Nat} {L : Int} {t : Int} {args : List Ty} (hd : d ≤ 24) (ht : madeF t = args.length) : gtB d L (.nd t args) = (gtBs (d + 1) (L - 1) args && keyHere t args) := by
  have hty : isTypeB t = true ∧ (args.length : Int) = partsF t := by
    by_cases h : 1 ≤ t ∧ t ≤ 15
    · rw [madeF, if_pos h] at ht
      exact ⟨by simp [isTypeB, h], ht.symm⟩
    · rw [madeF, if_neg h] at ht; omega
  have hs : decide ((((Ty.nd t args).size : Nat) : Int) ≤ L) = decide ((tysizes args : Int) ≤ L - 1) := by
    rw [Ty.size]
    by_cases h : (tysizes args : Int) ≤ L - 1
    · rw [decide_eq_true h, decide_eq_true (by omega)]
    · rw [decide_eq_false h, decide_eq_false (by omega)]
  rw [gtB, hs]
  simp only [formedB, gtBs, keyedF, hd, hty.1, hty.2, decide_true, Bool.true_and, Bool.and_assoc]
  cases formedBs (d + 1) args <;> cases keyHere t args <;> simp

theorem gtB_no {d : Nat} {L : Int} {t : Int} {args : List Ty} (h : 24 < d ∨ L = 0 ∨ madeF t ≠ args.length) : gtB d L (.nd t args) = false := by
  rcases h with h | h | h
  · simp [gtB, formedB, show ¬ d ≤ 24 from by omega]
  · have : ¬ (((Ty.nd t args).size : Nat) : Int) ≤ L := by rw [Ty.size]; omega
    simp [gtB, this]
  · by_cases ht : 1 ≤ t ∧ t ≤ 15
    · rw [madeF, if_pos ht] at h
      simp [gtB, formedB, show ¬ (args.length : Int) = partsF t from fun e => h e.symm]
    · have : isTypeB t = false := by simpa [isTypeB] using ht
      simp [gtB, formedB, this]

set_option maxRecDepth 100000 in
set_option maxHeartbeats 2000000 in
theorem rgt_any {w : World} {T : Ty} {v : Value} (hL : LiesT (fun _ => True) w T v) : ∀ (dI L : Int) (w2 : World), 0 ≤ dI → dI ≤ 24 → 0 ≤ L → L ≤ 300 → w.grownBy w2 none →
    Calls Try.prog 73 #[v, .int .i64 dI, .int .i64 L] w2 (GtPost (25 - dI).toNat L T w2) := by
  induction hL with
  | @mk t args a c V hl hlc it hc hr ih =>
    intro dI L w2 hd0 hd1 hL0 hL1 hg
    have hMd := rmade_any t
    have HMD := Lf.hide hMd
    have IH := Lf.hide ih
    have HC := Lf.hide hc
    have HR := Lf.hide hr
    have HG := Lf.hide hg
    unfold maxLen at hl
    clear ih hc hr hg hMd
    by_cases hd : dI = 0
    · subst hd
      have hno : gtB (25 - (0 : Int)).toNat L (.nd t args) = false := gtB_no (.inl (by decide))
      have HN := Lf.hide hno
      clear hno
      unfold tyV
      go_enter Try.func73, Try.ntmps73
      go_wp2_with fail
      go_quiet (fail)
      go_wp2_with fail
      go_ret2
      exact ⟨0, by rw [HN.out]; rfl, fun h => (by rw [HN.out] at h; cases h), grow_drewN (Lf.gb _)⟩
    have hd' : (dI == 0) = false := by simpa using hd
    by_cases hl0 : L = 0
    · subst hl0
      have hno : gtB (25 - dI).toNat 0 (.nd t args) = false := gtB_no (.inr (.inl rfl))
      have HN := Lf.hide hno
      clear hno
      unfold tyV
      go_enter Try.func73, Try.ntmps73
      go_wp2_with fail
      go_quiet (fail)
      go_wp2_with fail
      go_ret2
      exact ⟨0, by rw [HN.out]; rfl, fun h => (by rw [HN.out] at h; cases h), grow_drewN (Lf.gb _)⟩
    have hl' : (L == 0) = false := by simpa using hl0
    by_cases hm : madeF t = args.length
    · have hnd := gtB_nd (d := (25 - dI).toNat) (L := L) (t := t) (args := args) (by omega) hm
      have hm' : (madeF t == (args.length : Int)) = true := by simpa using hm
      have hm2 : (madeF t != (args.length : Int)) = false := by simpa using hm
      have HND := Lf.hide hnd
      have HLEN : Hid (t = 13 ∨ t = 15 → 0 < args.length) := by
        intro hk
        have hma : madeF t = partsF t := by rw [madeF, if_pos (by omega)]
        rw [hma] at hm
        have hq : 1 ≤ partsF t := by rcases hk with rfl | rfl <;> simp [partsF]
        omega
      clear hnd hm
      generalize madeF t = q at *
      unfold tyV
      go_enter Try.func73, Try.ntmps73
      go_wp2_with fail
      go_quiet ((go_at_call 97; exact Calls.quiet_of_same (HMD.out _)))
      go_wp2_with fail
      go_loopw [32, 2] (fun i lf wr => ∃ j : Nat, j ≤ args.length ∧ i = .int .i64 j ∧ lf = .int .i64 (L - 1 - tysizes (args.take j)) ∧ w2.grownBy wr none ∧ wr.heap[w2.heap.size]? = some (.cells #[.int .i64 t, .slice a args.length c] 24 (0, 0)) ∧ gtBs ((25 - dI).toNat + 1) (L - 1) (args.take j) = true) (fun i _ _ => args.length - (intOf i).toNat)
      case atStart => exact ⟨0, Nat.zero_le _, rfl, by simp [tysizes], grow_drewN (Lf.gb _), heap_alloc_new _ _, by simp [gtBs, formedBs, keyedFs, tysizes]; omega⟩
      case round =>
        obtain ⟨j, hj, rfl, rfl, hgr, hbx, hF⟩ := hrel
        have hF2 : (tysizes (args.take j) : Int) ≤ L - 1 := by
          have h := hF
          simp only [gtBs, Bool.and_eq_true, decide_eq_true_eq] at h
          exact h.1.2
        have x0 := cell0_of hbx
        have x1 := cell1_of hbx
        by_cases hlt : j < args.length
        · obtain ⟨b, o, t', a', l', c', rfl, _, hv, e0, e1⟩ := ((HC.out j hlt).same (sameTrue (Lf.gbt HG.out hgr))).cells
          have hI := IH.out j hlt (dI - 1) (L - 1 - tysizes (args.take j)) (wr.alloc (.cells #[.int .i64 t', .slice a' l' c'] 24)) (by omega) (by omega) (by omega) (by omega) (Lf.gbt HG.out (Lf.gbt hgr (Lf.gb _)))
          rw [hv, show (25 - (dI - 1)).toNat = (25 - dI).toNat + 1 from by omega] at hI
          unfold tyV at hI
          have HI := Lf.hide hI
          have HGR := Lf.hide (Lf.gbt hgr (Lf.gb (.cells #[.int .i64 t', .slice a' l' c'] 24)))
          have HBX := Lf.hide (heap_keep (o := .cells #[.int .i64 t', .slice a' l' c'] 24) hbx)
          have HF := Lf.hide hF
          have htz := tysizes_take_succ args j hlt
          have HTZ := Lf.hide htz
          clear hI hgr hF hv hbx htz
          go_wp2_with fail
          refine HI.out.mono ?_; rintro e w3 ⟨r, rfl, hr3, hg3⟩
          have HG3 := Lf.hide (Lf.gbt HGR.out hg3)
          have HB3 := Lf.hide ((hg3.block _ (lt_of_block HBX.out) (by simp)).trans HBX.out)
          clear hg3
          cases hx : gtB ((25 - dI).toNat + 1) (L - 1 - tysizes (args.take j)) args[j] with
          | true =>
            have HR3 := Lf.hide (hr3 hx)
            have HX := Lf.hide hx
            clear hx hr3
            go_wp2_with fail
            have hn : r = L - 1 - tysizes (args.take (j + 1)) := by rw [HR3.out, HTZ.out]; push_cast; omega
            go_roundw
            case rel => exact ⟨j + 1, by omega, by go_num, by rw [hn], HG3.out, HB3.out, gtBs_snoc hlt HF.out HX.out⟩
            case measure => simp [intOf]; omega
          | false =>
            have HX := Lf.hide hx
            clear hx hr3
            go_wp2_with fail
            go_ret2
            have hno : gtB (25 - dI).toNat L (.nd t args) = false := by rw [HND.out, gtBs_no hlt HX.out]; rfl
            exact ⟨0, by rw [hno]; rfl, fun h => (by rw [hno] at h; cases h), HG3.out⟩
        · have hje : j = args.length := by omega
          subst hje
          rw [List.take_length] at hF hF2 ⊢
          have hall : gtB (25 - dI).toNat L (.nd t args) = keyHere t args := by rw [HND.out, hF]; rfl
          have HALL := Lf.hide hall
          have HG3 := Lf.hide hgr
          have HBX := Lf.hide hbx
          have hsz : L - 1 - (tysizes args : Int) = L - ((Ty.nd t args).size : Nat) := by rw [Ty.size]; push_cast; omega
          have HSZ := Lf.hide hsz
          clear hF hgr hbx hall hsz
          by_cases hk : t = 13 ∨ t = 15
          · have hlen : 0 < args.length := HLEN.out hk
            obtain ⟨b0, o0, t0, a0, l0, c0, rfl, _, hv0, e0, e1⟩ := ((HC.out 0 hlen).same (sameTrue (Lf.gbt HG.out HG3.out))).cells
            have hL0' := HR.out 0 hlen
            have hC := rcomp_any hL0' wr (Lf.gbt HG.out HG3.out)
            rw [hv0] at hC
            unfold tyV at hC
            have hkF : keyHere t args = compT args[0] := by
              have e2 : headComp args = compT args[0] := by
                cases args with
                | nil => simp at hlen
                | cons x l => rfl
              simp [keyHere, hk, e2]
            have HKF := Lf.hide hkF
            have HCC := Lf.hide hC
            have hlen' : (0 : Int) < (args.length : Int) := by omega
            rw [Nat.zero_mul, Nat.add_zero] at e0 e1
            clear hC hkF hv0 hL0' IH HC HR
            rcases hk with rfl | rfl
            all_goals
              go_wp2_with fail
              refine HCC.out.mono ?_; rintro e w4 ⟨rfl, hg4⟩
              have HG4 := Lf.hide (Lf.gbt HG3.out hg4)
              clear hg4
              go_wp2_with fail
              go_ret2
              exact ⟨_, by rw [HALL.out, HKF.out]; rfl, fun _ => HSZ.out, HG4.out⟩
          · have hkh : keyHere t args = true := by simp [keyHere, hk]
            have k1 : ¬ t = 13 := by omega
            have k2 : ¬ t = 15 := by omega
            have k3 : (t != 13) = true := by simpa using k1
            have k4 : (t != 15) = true := by simpa using k2
            have HKH := Lf.hide hkh
            clear hkh hk
            go_wp2_with fail
            go_ret2
            exact ⟨_, by rw [HALL.out, HKH.out]; rfl, fun _ => HSZ.out, HG3.out⟩
    · have hno : gtB (25 - dI).toNat L (.nd t args) = false := gtB_no (.inr (.inr hm))
      have hm' : (madeF t == (args.length : Int)) = false := by simpa using hm
      have HN := Lf.hide hno
      clear hno hm
      generalize madeF t = q at *
      unfold tyV
      go_enter Try.func73, Try.ntmps73
      go_wp2_with fail
      go_quiet ((go_at_call 97; exact Calls.quiet_of_same (HMD.out _)))
      go_wp2_with fail
      go_ret2
      exact ⟨0, by rw [HN.out]; rfl, fun h => (by rw [HN.out] at h; cases h), grow_drewN (Lf.gb _)⟩

theorem rgood_any {w : World} {T : Ty} {v : Value} (hL : LiesT (fun _ => True) w T v) (w2 : World) (hg : w.grownBy w2 none) :
    Calls Try.prog 35 #[v] w2 fun e w' => e = .returned (.bool (goodTy T)) ∧ w2.grownBy w' none := by
  obtain ⟨a, c, V, rfl, it, hR⟩ := hL.inv
  have h := rgt_any hL 24 300 (w2.alloc (.cells #[.int .i64 T.t, .slice a T.args.length c] 24)) (by omega) (by omega) (by omega) (by omega) (Lf.gbt hg (Lf.gb _))
  have he : gtB (25 - (24 : Int)).toNat 300 T = goodTy T := by
    rw [show (25 - (24 : Int)).toNat = 1 from by decide, gtB, goodTy]
    by_cases h : T.size ≤ 300
    · rw [decide_eq_true h, decide_eq_true (by omega)]
    · rw [decide_eq_false h, decide_eq_false (by omega)]
  unfold GtPost at h
  rw [he] at h
  have H := Lf.hide h
  clear h hL hR it hg he
  unfold tyV at H ⊢
  go_enter Try.func35, Try.ntmps35
  go_wp2_with fail
  refine H.out.mono ?_; rintro e w3 ⟨r, rfl, _, hg3⟩
  have HG := Lf.hide (Lf.gbt (Lf.gb _) hg3)
  clear hg3
  go_wp2_with fail
  go_ret
  exact ⟨rfl, HG.out⟩

end Go.Proofs.Ytmmgihaoahhkjaa
