/- The document's own answers on types (made, realType, without, Comparable, Copied, Packed, Stored), each by a contract. -/
import Derived.Test.YtjhhcdiipbjiaabGoodT2
import Derived.Test.YtjhhcdiipbjiaabRefMade
namespace Go.Proofs.Ytjhhcdiipbjiaab
open Go.ChangeShapes Go.WideShapes Go.ChangeAt Go.RowKit
set_option linter.unusedVariables false

theorem allFs_take_succ {inn f : Int → Bool} {l : List Ty} {j : Nat} (h : j < l.length) (h0 : allFs inn f (l.take j) = true) : allFs inn f (l.take (j + 1)) = allF inn f l[j] := by
  rw [allFs_all] at h0 ⊢
  rw [List.take_succ_eq_append_getElem h, List.all_append, h0]; simp

theorem allFs_take_no {inn f : Int → Bool} {l : List Ty} {j : Nat} (h : j < l.length) (h0 : allF inn f l[j] = false) : allFs inn f l = false := by
  cases hq : allFs inn f l with
  | false => rfl
  | true =>
    rw [allFs_all, List.all_eq_true] at hq
    have := hq l[j] (List.getElem_mem h)
    rw [h0] at this; cases this

theorem sameTrue {w w2 : World} (h : w.grownBy w2 none) : Same (fun _ => True) w w2 := fun b o _ hb => Lf.gcell h b o hb

set_option maxHeartbeats 1000000 in
theorem rreal_any {w : World} {T : Ty} {v : Value} (hL : LiesT (fun _ => True) w T v) : ∀ (w2 : World), w.grownBy w2 none →
    Calls Try.prog 49 #[v] w2 fun e w' => e = .returned (.bool (allF innAll isTypeB T)) ∧ w2.grownBy w' none := by
  induction hL with
  | @mk t args a c V hl it hc hr ih =>
    intro w2 hg
    have hMd := rmade_any t
    have hAF : allF innAll isTypeB (.nd t args) = (isTypeB t && allFs innAll isTypeB args) := by simp [allF, innAll]
    have HAF := Lf.hide hAF
    have IH := Lf.hide ih
    have HC := Lf.hide hc
    have HG := Lf.hide hg
    unfold maxLen at hl
    clear ih hc hr hg hAF
    unfold tyV
    cases hty : isTypeB t with
    | false =>
      have hm : madeF t < 0 := by
        have : ¬ (1 ≤ t ∧ t ≤ 15) := by simpa [isTypeB] using hty
        rw [madeF, if_neg this]; omega
      have HT := Lf.hide hty
      have HM := Lf.hide hMd
      clear hty hMd
      generalize madeF t = q at *
      go_enter Try.func49, Try.ntmps49
      go_wp2_with fail
      refine (HM.out _).mono ?_; rintro e w1 ⟨rfl, rfl⟩
      go_wp2_with fail
      go_ret
      exact ⟨by rw [HAF.out, HT.out]; rfl, Lf.gb _⟩
    | true =>
      have hm : 0 ≤ madeF t := by
        have : 1 ≤ t ∧ t ≤ 15 := by simpa [isTypeB] using hty
        rw [madeF, if_pos this, partsF]; split <;> (try split) <;> omega
      have HT := Lf.hide hty
      have HM := Lf.hide hMd
      clear hty hMd
      generalize madeF t = q at *
      go_enter Try.func49, Try.ntmps49
      go_wp2_with fail
      refine (HM.out _).mono ?_; rintro e w1 ⟨rfl, rfl⟩
      go_wp2_with fail
      go_loopw [12] (fun i wr => ∃ j : Nat, j ≤ args.length ∧ i = .int .i64 j ∧ w2.grownBy wr none ∧ allFs innAll isTypeB (args.take j) = true) (fun i _ => args.length - (intOf i).toNat)
      case atStart => exact ⟨0, Nat.zero_le _, rfl, Lf.gb _, by simp [allFs]⟩
      case round =>
        obtain ⟨j, hj, rfl, hgr, hF⟩ := hrel
        by_cases hlt : j < args.length
        · obtain ⟨b, o, t', a', l', c', rfl, _, hv, e0, e1⟩ := ((HC.out j hlt).same (sameTrue (Lf.gbt HG.out hgr))).cells
          have hI := IH.out j hlt (wr.alloc (.cells #[.int .i64 t', .slice a' l' c'] 39)) (Lf.gbt HG.out (Lf.gbt hgr (Lf.gb _)))
          rw [hv] at hI
          unfold tyV at hI
          have HI := Lf.hide hI
          have HGR := Lf.hide (Lf.gbt hgr (Lf.gb (.cells #[.int .i64 t', .slice a' l' c'] 39)))
          have HF := Lf.hide hF
          clear hI hgr hF hv
          go_wp2_with fail
          refine HI.out.mono ?_; rintro e w3 ⟨rfl, hg3⟩
          have HG3 := Lf.hide (Lf.gbt HGR.out hg3)
          clear hg3
          cases hx : allF innAll isTypeB args[j] with
          | true =>
            have HX := Lf.hide hx
            clear hx
            go_wp2_with fail
            go_roundw
            case rel => exact ⟨j + 1, by omega, by go_num, HG3.out, by rw [allFs_take_succ hlt HF.out, HX.out]⟩
            case measure => simp [intOf]; omega
          | false =>
            have HX := Lf.hide hx
            clear hx
            go_wp2_with fail
            go_ret
            exact ⟨by rw [HAF.out, HT.out, allFs_take_no hlt HX.out]; rfl, HG3.out⟩
        · have hje : j = args.length := by omega
          have HG3 := Lf.hide hgr
          have HF := Lf.hide hF
          have HJ := Lf.hide hje
          clear hgr hF hje
          go_wp2_with fail
          go_ret
          have hf := HF.out
          rw [HJ.out, List.take_length] at hf
          exact ⟨by rw [HAF.out, HT.out, hf]; rfl, HG3.out⟩

def innL (lam : Bool) (t : Int) : Bool := lam || decide (t ≠ 14)
def notIn (ns : List Int) (t : Int) : Bool := ns.all fun x => decide (t ≠ x)

/-- the numbers ns lie in block lb -/
def NumsAt (w : World) (lb : Nat) (ns : List Int) : Prop := ∀ i (h : i < ns.length), w.cell? ⟨lb, i, none⟩ = some (.int .i64 ns[i])

theorem NumsAt.grow {w w2 : World} {lb : Nat} {ns : List Int} (h : NumsAt w lb ns) (hb : lb < w.heap.size) (hg : w.grownBy w2 none) : NumsAt w2 lb ns := fun i hi => (Lf.gcell hg lb i hb).trans (h i hi)

set_option maxHeartbeats 2000000 in
theorem without_any {w : World} {T : Ty} {v : Value} {lb : Nat} {ns : List Int} {lam : Bool} (hlb : lb < w.heap.size) (hns : NumsAt w lb ns) (hnl : ns.length ≤ 100) (hL : LiesT (fun _ => True) w T v) : ∀ (w2 : World), w.grownBy w2 none →
    Calls Try.prog 50 #[v, .bool lam, .slice (some ⟨lb, 0, none⟩) ns.length ns.length] w2 fun e w' => e = .returned (.bool (allF (innL lam) (notIn ns) T)) ∧ w2.grownBy w' none := by
  induction hL with
  | @mk t args a c V hl it hc hr ih =>
    intro w2 hg
    have hAF : allF (innL lam) (notIn ns) (.nd t args) = (notIn ns t && (!innL lam t || allFs (innL lam) (notIn ns) args)) := by rw [allF]
    have HAF := Lf.hide hAF
    have IH := Lf.hide ih
    have HC := Lf.hide hc
    have HG := Lf.hide hg
    have HN := Lf.hide (hns.grow hlb (Lf.gbt hg (Lf.gb (.cells #[.int .i64 t, .slice a args.length c] 39))))
    have hlz : lb < w2.heap.size := Nat.lt_of_lt_of_le hlb hg.size
    unfold maxLen at hl
    clear ih hc hr hg hAF hns
    unfold tyV
    go_enter Try.func50, Try.ntmps50
    go_wp2_with fail
    go_loopw [13] (fun i wr => ∃ j : Nat, j ≤ ns.length ∧ i = .int .i64 j ∧ wr = w2.alloc (.cells #[.int .i64 t, .slice a args.length c] 39) ∧ notIn (ns.take j) t = true) (fun i _ => ns.length - (intOf i).toNat)
    case atStart => exact ⟨0, Nat.zero_le _, rfl, rfl, by simp [notIn]⟩
    case round =>
      obtain ⟨j, hj, rfl, rfl, hF⟩ := hrel
      by_cases hlt : j < ns.length
      · have hcell := HN.out j hlt
        rw [World.cell?_alloc_lt _ _ _ hlz] at hcell
        have hsn : notIn (ns.take (j + 1)) t = decide (t ≠ ns[j]) := by
          unfold notIn at hF ⊢
          rw [List.take_succ_eq_append_getElem hlt, List.all_append, hF]; simp
        by_cases hx : t = ns[j]
        · have hno : notIn ns t = false := by
            cases hq : notIn ns t with
            | false => rfl
            | true =>
              unfold notIn at hq
              rw [List.all_eq_true] at hq
              have := hq ns[j] (List.getElem_mem hlt)
              simp [hx] at this
          have HNO := Lf.hide hno
          have hx' : (t == ns[j]) = true := by simpa using hx
          clear hno hx hF hsn
          generalize ns[j] = nj at *
          go_wp2_with fail
          go_ret
          exact ⟨by rw [HAF.out, HNO.out]; rfl, Lf.gb _⟩
        · have HSN := Lf.hide hsn
          have HX := Lf.hide hx
          have hx' : (t == ns[j]) = false := by simpa using hx
          clear hsn hx hF
          generalize ns[j] = nj at *
          go_wp2_with fail
          go_roundw
          case rel => exact ⟨j + 1, by omega, by go_num, by first | trivial | rfl, by rw [HSN.out]; simpa using HX.out⟩
          case measure => simp [intOf]; omega
      · have hje : j = ns.length := by omega
        have hyes : notIn ns t = true := by rw [hje, List.take_length] at hF; exact hF
        have HY := Lf.hide hyes
        clear hF hyes hje HN
        cases hin : innL lam t with
        | false =>
          have HIN := Lf.hide hin
          have hl14 : lam = false ∧ t = 14 := by
            simp [innL] at hin
            exact hin
          obtain ⟨rfl, rfl⟩ := hl14
          clear hin
          go_wp2_with fail
          go_ret
          exact ⟨by rw [HAF.out, HY.out, HIN.out]; rfl, Lf.gb _⟩
        | true =>
          have HIN := Lf.hide hin
          have hl14 : lam = true ∨ (t == 14) = false := by
            simp [innL] at hin
            rcases hin with h | h
            · exact .inl h
            · right; simpa using h
          clear hin
          cases lam with
          | true =>
            clear hl14
            by_cases h14 : t = 14
            · subst h14
              go_wp2_with fail
              go_loopw [32] (fun i wr => ∃ j : Nat, j ≤ args.length ∧ i = .int .i64 j ∧ w2.grownBy wr none ∧ allFs (innL true) (notIn ns) (args.take j) = true) (fun i _ => args.length - (intOf i).toNat)
              case atStart => exact ⟨0, Nat.zero_le _, rfl, Lf.gb _, by simp [allFs]⟩
              case round =>
                obtain ⟨j, hj, rfl, hgr, hF⟩ := hrel
                by_cases hlt : j < args.length
                · obtain ⟨b, o, t', a', l', c', rfl, _, hv, e0, e1⟩ := ((HC.out j hlt).same (sameTrue (Lf.gbt HG.out hgr))).cells
                  have hI := IH.out j hlt (wr.alloc (.cells #[.int .i64 t', .slice a' l' c'] 39)) (Lf.gbt HG.out (Lf.gbt hgr (Lf.gb _)))
                  rw [hv] at hI
                  unfold tyV at hI
                  have HI := Lf.hide hI
                  have HGR := Lf.hide (Lf.gbt hgr (Lf.gb (.cells #[.int .i64 t', .slice a' l' c'] 39)))
                  have HF := Lf.hide hF
                  clear hI hgr hF hv
                  go_wp2_with fail
                  refine HI.out.mono ?_; rintro e w3 ⟨rfl, hg3⟩
                  have HG3 := Lf.hide (Lf.gbt HGR.out hg3)
                  clear hg3
                  cases hx : allF (innL true) (notIn ns) args[j] with
                  | true =>
                    have HX := Lf.hide hx
                    clear hx
                    go_wp2_with fail
                    go_roundw
                    case rel => exact ⟨j + 1, by omega, by go_num, HG3.out, by rw [allFs_take_succ hlt HF.out, HX.out]⟩
                    case measure => simp [intOf]; omega
                  | false =>
                    have HX := Lf.hide hx
                    clear hx
                    go_wp2_with fail
                    go_ret
                    exact ⟨by rw [HAF.out, HY.out, HIN.out, allFs_take_no hlt HX.out]; rfl, HG3.out⟩
                · have hje : j = args.length := by omega
                  have HG3 := Lf.hide hgr
                  have HF := Lf.hide hF
                  have HJ := Lf.hide hje
                  clear hgr hF hje
                  go_wp2_with fail
                  go_ret
                  have hf := HF.out
                  rw [HJ.out, List.take_length] at hf
                  exact ⟨by rw [HAF.out, HY.out, HIN.out, hf]; rfl, HG3.out⟩
            · have h14' : (t == 14) = false := by simpa using h14
              clear h14
              go_wp2_with fail
              go_loopw [32] (fun i wr => ∃ j : Nat, j ≤ args.length ∧ i = .int .i64 j ∧ w2.grownBy wr none ∧ allFs (innL true) (notIn ns) (args.take j) = true) (fun i _ => args.length - (intOf i).toNat)
              case atStart => exact ⟨0, Nat.zero_le _, rfl, Lf.gb _, by simp [allFs]⟩
              case round =>
                obtain ⟨j, hj, rfl, hgr, hF⟩ := hrel
                by_cases hlt : j < args.length
                · obtain ⟨b, o, t', a', l', c', rfl, _, hv, e0, e1⟩ := ((HC.out j hlt).same (sameTrue (Lf.gbt HG.out hgr))).cells
                  have hI := IH.out j hlt (wr.alloc (.cells #[.int .i64 t', .slice a' l' c'] 39)) (Lf.gbt HG.out (Lf.gbt hgr (Lf.gb _)))
                  rw [hv] at hI
                  unfold tyV at hI
                  have HI := Lf.hide hI
                  have HGR := Lf.hide (Lf.gbt hgr (Lf.gb (.cells #[.int .i64 t', .slice a' l' c'] 39)))
                  have HF := Lf.hide hF
                  clear hI hgr hF hv
                  go_wp2_with fail
                  refine HI.out.mono ?_; rintro e w3 ⟨rfl, hg3⟩
                  have HG3 := Lf.hide (Lf.gbt HGR.out hg3)
                  clear hg3
                  cases hx : allF (innL true) (notIn ns) args[j] with
                  | true =>
                    have HX := Lf.hide hx
                    clear hx
                    go_wp2_with fail
                    go_roundw
                    case rel => exact ⟨j + 1, by omega, by go_num, HG3.out, by rw [allFs_take_succ hlt HF.out, HX.out]⟩
                    case measure => simp [intOf]; omega
                  | false =>
                    have HX := Lf.hide hx
                    clear hx
                    go_wp2_with fail
                    go_ret
                    exact ⟨by rw [HAF.out, HY.out, HIN.out, allFs_take_no hlt HX.out]; rfl, HG3.out⟩
                · have hje : j = args.length := by omega
                  have HG3 := Lf.hide hgr
                  have HF := Lf.hide hF
                  have HJ := Lf.hide hje
                  clear hgr hF hje
                  go_wp2_with fail
                  go_ret
                  have hf := HF.out
                  rw [HJ.out, List.take_length] at hf
                  exact ⟨by rw [HAF.out, HY.out, HIN.out, hf]; rfl, HG3.out⟩
          | false =>
            have h14 : (t == 14) = false := by simpa using hl14
            clear hl14
            go_wp2_with fail
            go_loopw [32] (fun i wr => ∃ j : Nat, j ≤ args.length ∧ i = .int .i64 j ∧ w2.grownBy wr none ∧ allFs (innL false) (notIn ns) (args.take j) = true) (fun i _ => args.length - (intOf i).toNat)
            case atStart => exact ⟨0, Nat.zero_le _, rfl, Lf.gb _, by simp [allFs]⟩
            case round =>
              obtain ⟨j, hj, rfl, hgr, hF⟩ := hrel
              by_cases hlt : j < args.length
              · obtain ⟨b, o, t', a', l', c', rfl, _, hv, e0, e1⟩ := ((HC.out j hlt).same (sameTrue (Lf.gbt HG.out hgr))).cells
                have hI := IH.out j hlt (wr.alloc (.cells #[.int .i64 t', .slice a' l' c'] 39)) (Lf.gbt HG.out (Lf.gbt hgr (Lf.gb _)))
                rw [hv] at hI
                unfold tyV at hI
                have HI := Lf.hide hI
                have HGR := Lf.hide (Lf.gbt hgr (Lf.gb (.cells #[.int .i64 t', .slice a' l' c'] 39)))
                have HF := Lf.hide hF
                clear hI hgr hF hv
                go_wp2_with fail
                refine HI.out.mono ?_; rintro e w3 ⟨rfl, hg3⟩
                have HG3 := Lf.hide (Lf.gbt HGR.out hg3)
                clear hg3
                cases hx : allF (innL false) (notIn ns) args[j] with
                | true =>
                  have HX := Lf.hide hx
                  clear hx
                  go_wp2_with fail
                  go_roundw
                  case rel => exact ⟨j + 1, by omega, by go_num, HG3.out, by rw [allFs_take_succ hlt HF.out, HX.out]⟩
                  case measure => simp [intOf]; omega
                | false =>
                  have HX := Lf.hide hx
                  clear hx
                  go_wp2_with fail
                  go_ret
                  exact ⟨by rw [HAF.out, HY.out, HIN.out, allFs_take_no hlt HX.out]; rfl, HG3.out⟩
              · have hje : j = args.length := by omega
                have HG3 := Lf.hide hgr
                have HF := Lf.hide hF
                have HJ := Lf.hide hje
                clear hgr hF hje
                go_wp2_with fail
                go_ret
                have hf := HF.out
                rw [HJ.out, List.take_length] at hf
                exact ⟨by rw [HAF.out, HY.out, HIN.out, hf]; rfl, HG3.out⟩

end Go.Proofs.Ytjhhcdiipbjiaab
