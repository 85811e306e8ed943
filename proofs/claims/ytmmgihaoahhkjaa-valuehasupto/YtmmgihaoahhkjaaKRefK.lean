/- The document's own count of what a type is made of. -/
import Derived.Test.YtmmgihaoahhkjaaKKindA
import Derived.Test.YtmmgihaoahhkjaaKKindB
namespace Go.Proofs.Ytmmgihaoahhkjaa
set_option maxRecDepth 20000
open Go.ChangeShapes Go.WideShapes Go.ChangeAt Go.RowKit
set_option linter.unusedVariables false

def madeF (t : Int) : Int := if 1 ≤ t ∧ t ≤ 15 then partsF t else -1

def tab : Array Value := #[.int .i64 0, .int .i64 0, .int .i64 0, .int .i64 0, .int .i64 0, .int .i64 0, .int .i64 0, .int .i64 0, .int .i64 0, .int .i64 1, .int .i64 1, .int .i64 2, .int .i64 2, .int .i64 2, .int .i64 2, .int .i64 1]

theorem tab_at (i : Nat) (h1 : 1 ≤ i) (h2 : i ≤ 15) : tab[i]? = some (.int .i64 (partsF i)) := by
  rcases (show i = 1 ∨ i = 2 ∨ i = 3 ∨ i = 4 ∨ i = 5 ∨ i = 6 ∨ i = 7 ∨ i = 8 ∨ i = 9 ∨ i = 10 ∨ i = 11 ∨ i = 12 ∨ i = 13 ∨ i = 14 ∨ i = 15 from by omega) with rfl | rfl | rfl | rfl | rfl | rfl | rfl | rfl | rfl | rfl | rfl | rfl | rfl | rfl | rfl <;> rfl

theorem run_tab (t : Int) (h1 : 1 ≤ t) (h2 : t ≤ 15) (w : World) : (Instr.index 141 (.agg tab) (.int .i64 t)).run Try.prog w = .ok (.int .i64 (partsF t)) w := by
  obtain ⟨i, rfl⟩ := Int.eq_ofNat_of_zero_le (show 0 ≤ t from by omega)
  have h3 : (0 : Int) ≤ (i : Int) ∧ (i : Int) < 16 := by omega
  have h4 := tab_at i (by omega) (by omega)
  simp [Instr.index, run_underlying Try.underlying141, asIntOf, go_sem, h4]
  intro h
  omega

theorem rmade_any (t : Int) (w : World) :
    Calls Try.prog 97 #[.int .i64 t] w fun e w' => e = .returned (.int .i64 (madeF t)) ∧ w' = w := by
  by_cases h : 1 ≤ t ∧ t ≤ 15
  · obtain ⟨h1, h2⟩ := h
    have hix := run_tab t h1 h2
    have hm : madeF t = partsF t := by rw [madeF, if_pos ⟨h1, h2⟩]
    rw [hm]
    unfold tab at hix
    clear hm
    generalize partsF t = q at *
    go_enter Try.func97, Try.ntmps97
    go_wp2_with fail
    go_ret
    exact ⟨rfl, rfl⟩
  · have hm : madeF t = -1 := by rw [madeF, if_neg h]
    rw [hm]
    rcases (show t < 1 ∨ (1 ≤ t ∧ 15 < t) from by omega) with h1 | ⟨h1, h2⟩
    all_goals
      clear hm
      go_enter Try.func97, Try.ntmps97
      go_wp2
      go_ret
      exact ⟨rfl, rfl⟩

end Go.Proofs.Ytmmgihaoahhkjaa

/- The document's own answers on types (made, realType, without, Comparable, Copied, Packed, Stored), each by a contract. -/
namespace Go.Proofs.Ytmmgihaoahhkjaa
set_option maxRecDepth 20000
open Go.ChangeShapes Go.WideShapes Go.ChangeAt Go.RowKit
set_option linter.unusedVariables false

theorem allFs_take_succ {inn f : Int → Bool} {l : List Ty} {j : Nat} (h : j < l.length) (h0 : allFs inn f (l.take j) = true) : allFs inn f (l.take (j + 1)) = allF inn f l[j] := by
  rw [allFs_all] at h0 ⊢
  rw [List.take_succ_eq_append_getElem h, List.all_append, h0]; simp

theorem allFs_take_no {inn f : Int → Bool} {l : List Ty} {j : Nat} (h : j < l.length) (h0 : allF inn f l[j] = false) : allFs inn f l = false := by
  cases hq : allFs inn f l with
  | false => rfl
  | true =>
    rw [allFs_all, List.all_eq_true] at hq
    have := hq l[j] (List.getElem_mem h)
    rw [h0] at this; cases this

theorem sameTrue {w w2 : World} (h : w.grownBy w2 none) : Same (fun _ => True) w w2 := fun b o _ hb => Lf.gcell h b o hb

set_option maxHeartbeats 1000000 in
theorem rreal_any {w : World} {T : Ty} {v : Value} (hL : LiesT (fun _ => True) w T v) : ∀ (w2 : World), w.grownBy w2 none →
    Calls Try.prog 61 #[v] w2 fun e w' => e = .returned (.bool (allF innAll isTypeB T)) ∧ w2.grownBy w' none := by
  induction hL with
  | @mk t args a c V hl hlc it hc hr ih =>
    intro w2 hg
    have hMd := rmade_any t
    have hAF : allF innAll isTypeB (.nd t args) = (isTypeB t && allFs innAll isTypeB args) := by simp [allF, innAll]
    have HAF := Lf.hide hAF
    have IH := Lf.hide ih
    have HC := Lf.hide hc
    have HG := Lf.hide hg
    unfold maxLen at hl
    clear ih hc hr hg hAF
    unfold tyV
    cases hty : isTypeB t with
    | false =>
      have hm : madeF t < 0 := by
        have : ¬ (1 ≤ t ∧ t ≤ 15) := by simpa [isTypeB] using hty
        rw [madeF, if_neg this]; omega
      have HT := Lf.hide hty
      have HM := Lf.hide hMd
      clear hty hMd
      generalize madeF t = q at *
      go_enter Try.func61, Try.ntmps61
      go_wp2_with fail
      refine (HM.out _).mono ?_; rintro e w1 ⟨rfl, rfl⟩
      go_wp2_with fail
      go_ret
      exact ⟨by rw [HAF.out, HT.out]; rfl, Lf.gb _⟩
    | true =>
      have hm : 0 ≤ madeF t := by
        have : 1 ≤ t ∧ t ≤ 15 := by simpa [isTypeB] using hty
        rw [madeF, if_pos this, partsF]; split <;> (try split) <;> omega
      have HT := Lf.hide hty
      have HM := Lf.hide hMd
      clear hty hMd
      generalize madeF t = q at *
      go_enter Try.func61, Try.ntmps61
      go_wp2_with fail
      refine (HM.out _).mono ?_; rintro e w1 ⟨rfl, rfl⟩
      go_wp2_with fail
      go_loopw [12] (fun i wr => ∃ j : Nat, j ≤ args.length ∧ i = .int .i64 j ∧ w2.grownBy wr none ∧ allFs innAll isTypeB (args.take j) = true) (fun i _ => args.length - (intOf i).toNat)
      case atStart => exact ⟨0, Nat.zero_le _, rfl, Lf.gb _, by simp [allFs]⟩
      case round =>
        obtain ⟨j, hj, rfl, hgr, hF⟩ := hrel
        by_cases hlt : j < args.length
        · obtain ⟨b, o, t', a', l', c', rfl, _, hv, e0, e1⟩ := ((HC.out j hlt).same (sameTrue (Lf.gbt HG.out hgr))).cells
          have hI := IH.out j hlt (wr.alloc (.cells #[.int .i64 t', .slice a' l' c'] 24)) (Lf.gbt HG.out (Lf.gbt hgr (Lf.gb _)))
          rw [hv] at hI
          unfold tyV at hI
          have HI := Lf.hide hI
          have HGR := Lf.hide (Lf.gbt hgr (Lf.gb (.cells #[.int .i64 t', .slice a' l' c'] 24)))
          have HF := Lf.hide hF
          clear hI hgr hF hv
          go_wp2_with fail
          refine HI.out.mono ?_; rintro e w3 ⟨rfl, hg3⟩
          have HG3 := Lf.hide (Lf.gbt HGR.out hg3)
          clear hg3
          cases hx : allF innAll isTypeB args[j] with
          | true =>
            have HX := Lf.hide hx
            clear hx
            go_wp2_with fail
            go_roundw
            case rel => exact ⟨j + 1, by omega, by go_num, HG3.out, by rw [allFs_take_succ hlt HF.out, HX.out]⟩
            case measure => simp [intOf]; omega
          | false =>
            have HX := Lf.hide hx
            clear hx
            go_wp2_with fail
            go_ret
            exact ⟨by rw [HAF.out, HT.out, allFs_take_no hlt HX.out]; rfl, HG3.out⟩
        · have hje : j = args.length := by omega
          have HG3 := Lf.hide hgr
          have HF := Lf.hide hF
          have HJ := Lf.hide hje
          clear hgr hF hje
          go_wp2_with fail
          go_ret
          have hf := HF.out
          rw [HJ.out, List.take_length] at hf
          exact ⟨by rw [HAF.out, HT.out, hf]; rfl, HG3.out⟩

def innL (lam : Bool) (t : Int) : Bool := lam || decide (t ≠ 14)
def notIn (ns : List Int) (t : Int) : Bool := ns.all fun x => decide (t ≠ x)

/-- the numbers ns lie in block lb -/
def NumsAt (w : World) (lb : Nat) (ns : List Int) : Prop := ∀ i (h : i < ns.length), w.cell? ⟨lb, i, none⟩ = some (.int .i64 ns[i])

theorem NumsAt.grow {w w2 : World} {lb : Nat} {ns : List Int} (h : NumsAt w lb ns) (hb : lb < w.heap.size) (hg : w.grownBy w2 none) : NumsAt w2 lb ns := fun i hi => (Lf.gcell hg lb i hb).trans (h i hi)

set_option maxHeartbeats 2000000 in
theorem without_any {w : World} {T : Ty} {v : Value} {lb : Nat} {ns : List Int} {lam : Bool} (hlb : lb < w.heap.size) (hns : NumsAt w lb ns) (hnl : ns.length ≤ 100) (hL : LiesT (fun _ => True) w T v) : ∀ (w2 : World), w.grownBy w2 none →
    Calls Try.prog 62 #[v, .bool lam, .slice (some ⟨lb, 0, none⟩) ns.length ns.length] w2 fun e w' => e = .returned (.bool (allF (innL lam) (notIn ns) T)) ∧ w2.grownBy w' none := by
  induction hL with
  | @mk t args a c V hl hlc it hc hr ih =>
    intro w2 hg
    have hAF : allF (innL lam) (notIn ns) (.nd t args) = (notIn ns t && (!innL lam t || allFs (innL lam) (notIn ns) args)) := by rw [allF]
    have HAF := Lf.hide hAF
    have IH := Lf.hide ih
    have HC := Lf.hide hc
    have HG := Lf.hide hg
    have HN := Lf.hide (hns.grow hlb (Lf.gbt hg (Lf.gb (.cells #[.int .i64 t, .slice a args.length c] 24))))
    have hlz : lb < w2.heap.size := Nat.lt_of_lt_of_le hlb hg.size
    unfold maxLen at hl
    clear ih hc hr hg hAF hns
    unfold tyV
    go_enter Try.func62, Try.ntmps62
    go_wp2_with fail
    go_loopw [13] (fun i wr => ∃ j : Nat, j ≤ ns.length ∧ i = .int .i64 j ∧ wr = w2.alloc (.cells #[.int .i64 t, .slice a args.length c] 24) ∧ notIn (ns.take j) t = true) (fun i _ => ns.length - (intOf i).toNat)
    case atStart => exact ⟨0, Nat.zero_le _, rfl, rfl, by simp [notIn]⟩
    case round =>
      obtain ⟨j, hj, rfl, rfl, hF⟩ := hrel
      by_cases hlt : j < ns.length
      · have hcell := HN.out j hlt
        rw [World.cell?_alloc_lt _ _ _ hlz] at hcell
        have hsn : notIn (ns.take (j + 1)) t = decide (t ≠ ns[j]) := by
          unfold notIn at hF ⊢
          rw [List.take_succ_eq_append_getElem hlt, List.all_append, hF]; simp
        by_cases hx : t = ns[j]
        · have hno : notIn ns t = false := by
            cases hq : notIn ns t with
            | false => rfl
            | true =>
              unfold notIn at hq
              rw [List.all_eq_true] at hq
              have := hq ns[j] (List.getElem_mem hlt)
              simp [hx] at this
          have HNO := Lf.hide hno
          have hx' : (t == ns[j]) = true := by simpa using hx
          clear hno hx hF hsn
          generalize ns[j] = nj at *
          go_wp2_with fail
          go_ret
          exact ⟨by rw [HAF.out, HNO.out]; rfl, Lf.gb _⟩
        · have HSN := Lf.hide hsn
          have HX := Lf.hide hx
          have hx' : (t == ns[j]) = false := by simpa using hx
          clear hsn hx hF
          generalize ns[j] = nj at *
          go_wp2_with fail
          go_roundw
          case rel => exact ⟨j + 1, by omega, by go_num, by first | trivial | rfl, by rw [HSN.out]; simpa using HX.out⟩
          case measure => simp [intOf]; omega
      · have hje : j = ns.length := by omega
        have hyes : notIn ns t = true := by rw [hje, List.take_length] at hF; exact hF
        have HY := Lf.hide hyes
        clear hF hyes hje HN
        cases hin : innL lam t with
        | false =>
          have HIN := Lf.hide hin
          have hl14 : lam = false ∧ t = 14 := by
            simp [innL] at hin
            exact hin
          obtain ⟨rfl, rfl⟩ := hl14
          clear hin
          go_wp2_with fail
          go_ret
          exact ⟨by rw [HAF.out, HY.out, HIN.out]; rfl, Lf.gb _⟩
        | true =>
          have HIN := Lf.hide hin
          have hl14 : lam = true ∨ (t == 14) = false := by
            simp [innL] at hin
            rcases hin with h | h
            · exact .inl h
            · right; simpa using h
          clear hin
          cases lam with
          | true =>
            clear hl14
            by_cases h14 : t = 14
            · subst h14
              go_wp2_with fail
              go_loopw [32] (fun i wr => ∃ j : Nat, j ≤ args.length ∧ i = .int .i64 j ∧ w2.grownBy wr none ∧ allFs (innL true) (notIn ns) (args.take j) = true) (fun i _ => args.length - (intOf i).toNat)
              case atStart => exact ⟨0, Nat.zero_le _, rfl, Lf.gb _, by simp [allFs]⟩
              case round =>
                obtain ⟨j, hj, rfl, hgr, hF⟩ := hrel
                by_cases hlt : j < args.length
                · obtain ⟨b, o, t', a', l', c', rfl, _, hv, e0, e1⟩ := ((HC.out j hlt).same (sameTrue (Lf.gbt HG.out hgr))).cells
                  have hI := IH.out j hlt (wr.alloc (.cells #[.int .i64 t', .slice a' l' c'] 24)) (Lf.gbt HG.out (Lf.gbt hgr (Lf.gb _)))
                  rw [hv] at hI
                  unfold tyV at hI
                  have HI := Lf.hide hI
                  have HGR := Lf.hide (Lf.gbt hgr (Lf.gb (.cells #[.int .i64 t', .slice a' l' c'] 24)))
                  have HF := Lf.hide hF
                  clear hI hgr hF hv
                  go_wp2_with fail
                  refine HI.out.mono ?_; rintro e w3 ⟨rfl, hg3⟩
                  have HG3 := Lf.hide (Lf.gbt HGR.out hg3)
                  clear hg3
                  cases hx : allF (innL true) (notIn ns) args[j] with
                  | true =>
                    have HX := Lf.hide hx
                    clear hx
                    go_wp2_with fail
                    go_roundw
                    case rel => exact ⟨j + 1, by omega, by go_num, HG3.out, by rw [allFs_take_succ hlt HF.out, HX.out]⟩
                    case measure => simp [intOf]; omega
                  | false =>
                    have HX := Lf.hide hx
                    clear hx
                    go_wp2_with fail
                    go_ret
                    exact ⟨by rw [HAF.out, HY.out, HIN.out, allFs_take_no hlt HX.out]; rfl, HG3.out⟩
                · have hje : j = args.length := by omega
                  have HG3 := Lf.hide hgr
                  have HF := Lf.hide hF
                  have HJ := Lf.hide hje
                  clear hgr hF hje
                  go_wp2_with fail
                  go_ret
                  have hf := HF.out
                  rw [HJ.out, List.take_length] at hf
                  exact ⟨by rw [HAF.out, HY.out, HIN.out, hf]; rfl, HG3.out⟩
            · have h14' : (t == 14) = false := by simpa using h14
              clear h14
              go_wp2_with fail
              go_loopw [32] (fun i wr => ∃ j : Nat, j ≤ args.length ∧ i = .int .i64 j ∧ w2.grownBy wr none ∧ allFs (innL true) (notIn ns) (args.take j) = true) (fun i _ => args.length - (intOf i).toNat)
              case atStart => exact ⟨0, Nat.zero_le _, rfl, Lf.gb _, by simp [allFs]⟩
              case round =>
                obtain ⟨j, hj, rfl, hgr, hF⟩ := hrel
                by_cases hlt : j < args.length
                · obtain ⟨b, o, t', a', l', c', rfl, _, hv, e0, e1⟩ := ((HC.out j hlt).same (sameTrue (Lf.gbt HG.out hgr))).cells
                  have hI := IH.out j hlt (wr.alloc (.cells #[.int .i64 t', .slice a' l' c'] 24)) (Lf.gbt HG.out (Lf.gbt hgr (Lf.gb _)))
                  rw [hv] at hI
                  unfold tyV at hI
                  have HI := Lf.hide hI
                  have HGR := Lf.hide (Lf.gbt hgr (Lf.gb (.cells #[.int .i64 t', .slice a' l' c'] 24)))
                  have HF := Lf.hide hF
                  clear hI hgr hF hv
                  go_wp2_with fail
                  refine HI.out.mono ?_; rintro e w3 ⟨rfl, hg3⟩
                  have HG3 := Lf.hide (Lf.gbt HGR.out hg3)
                  clear hg3
                  cases hx : allF (innL true) (notIn ns) args[j] with
                  | true =>
                    have HX := Lf.hide hx
                    clear hx
                    go_wp2_with fail
                    go_roundw
                    case rel => exact ⟨j + 1, by omega, by go_num, HG3.out, by rw [allFs_take_succ hlt HF.out, HX.out]⟩
                    case measure => simp [intOf]; omega
                  | false =>
                    have HX := Lf.hide hx
                    clear hx
                    go_wp2_with fail
                    go_ret
                    exact ⟨by rw [HAF.out, HY.out, HIN.out, allFs_take_no hlt HX.out]; rfl, HG3.out⟩
                · have hje : j = args.length := by omega
                  have HG3 := Lf.hide hgr
                  have HF := Lf.hide hF
                  have HJ := Lf.hide hje
                  clear hgr hF hje
                  go_wp2_with fail
                  go_ret
                  have hf := HF.out
                  rw [HJ.out, List.take_length] at hf
                  exact ⟨by rw [HAF.out, HY.out, HIN.out, hf]; rfl, HG3.out⟩
          | false =>
            have h14 : (t == 14) = false := by simpa using hl14
            clear hl14
            go_wp2_with fail
            go_loopw [32] (fun i wr => ∃ j : Nat, j ≤ args.length ∧ i = .int .i64 j ∧ w2.grownBy wr none ∧ allFs (innL false) (notIn ns) (args.take j) = true) (fun i _ => args.length - (intOf i).toNat)
            case atStart => exact ⟨0, Nat.zero_le _, rfl, Lf.gb _, by simp [allFs]⟩
            case round =>
              obtain ⟨j, hj, rfl, hgr, hF⟩ := hrel
              by_cases hlt : j < args.length
              · obtain ⟨b, o, t', a', l', c', rfl, _, hv, e0, e1⟩ := ((HC.out j hlt).same (sameTrue (Lf.gbt HG.out hgr))).cells
                have hI := IH.out j hlt (wr.alloc (.cells #[.int .i64 t', .slice a' l' c'] 24)) (Lf.gbt HG.out (Lf.gbt hgr (Lf.gb _)))
                rw [hv] at hI
                unfold tyV at hI
                have HI := Lf.hide hI
                have HGR := Lf.hide (Lf.gbt hgr (Lf.gb (.cells #[.int .i64 t', .slice a' l' c'] 24)))
                have HF := Lf.hide hF
                clear hI hgr hF hv
                go_wp2_with fail
                refine HI.out.mono ?_; rintro e w3 ⟨rfl, hg3⟩
                have HG3 := Lf.hide (Lf.gbt HGR.out hg3)
                clear hg3
                cases hx : allF (innL false) (notIn ns) args[j] with
                | true =>
                  have HX := Lf.hide hx
                  clear hx
                  go_wp2_with fail
                  go_roundw
                  case rel => exact ⟨j + 1, by omega, by go_num, HG3.out, by rw [allFs_take_succ hlt HF.out, HX.out]⟩
                  case measure => simp [intOf]; omega
                | false =>
                  have HX := Lf.hide hx
                  clear hx
                  go_wp2_with fail
                  go_ret
                  exact ⟨by rw [HAF.out, HY.out, HIN.out, allFs_take_no hlt HX.out]; rfl, HG3.out⟩
              · have hje : j = args.length := by omega
                have HG3 := Lf.hide hgr
                have HF := Lf.hide hF
                have HJ := Lf.hide hje
                clear hgr hF hje
                go_wp2_with fail
                go_ret
                have hf := HF.out
                rw [HJ.out, List.take_length] at hf
                exact ⟨by rw [HAF.out, HY.out, HIN.out, hf]; rfl, HG3.out⟩

end Go.Proofs.Ytmmgihaoahhkjaa

/- The document's own answers on types: Comparable, Copied, Packed, Stored, each by a contract. -/
namespace Go.Proofs.Ytmmgihaoahhkjaa
set_option maxRecDepth 20000
open Go.ChangeShapes Go.WideShapes Go.ChangeAt Go.RowKit
set_option linter.unusedVariables false

theorem nums_block {w : World} {ns : List Int} {T : TypeId} : NumsAt (w.alloc (.cells (ns.map (Value.int .i64)).toArray T)) w.heap.size ns := by
  intro i hi
  have h := heap_alloc_new w (.cells (ns.map (Value.int .i64)).toArray T)
  unfold World.cell?
  simp only [h]
  simp [hi]

theorem without_at {w : World} {T : Ty} {v : Value} {ns : List Int} {lam : Bool} (hL : LiesT (fun _ => True) w T v) (hnl : ns.length ≤ 100) :
    Calls Try.prog 62 #[v, .bool lam, .slice (some ⟨w.heap.size, 0, none⟩) ns.length ns.length] (w.alloc (.cells (ns.map (Value.int .i64)).toArray 3)) fun e w' => e = .returned (.bool (allF (innL lam) (notIn ns) T)) ∧ (w.alloc (.cells (ns.map (Value.int .i64)).toArray 3)).grownBy w' none :=
  without_any (by simp) nums_block hnl (hL.same (sameTrue (Lf.gb _))) _ (grow_refl _ _)

theorem allF_congr {inn inn' f f' : Int → Bool} (h1 : ∀ x, inn x = inn' x) (h2 : ∀ x, f x = f' x) (T : Ty) : allF inn f T = allF inn' f' T := by
  rw [show inn = inn' from funext h1, show f = f' from funext h2]

mutual
theorem allF_and (inn f g : Int → Bool) : ∀ T, (allF inn f T && allF inn g T) = allF inn (fun x => f x && g x) T
  | .nd t args => by
    have := allFs_and inn f g args
    simp only [allF]
    rw [← this]
    cases f t <;> cases g t <;> cases inn t <;> simp
theorem allFs_and (inn f g : Int → Bool) : ∀ l, (allFs inn f l && allFs inn g l) = allFs inn (fun x => f x && g x) l
  | [] => rfl
  | t :: ts => by
    simp only [allFs]
    rw [← allF_and inn f g t, ← allFs_and inn f g ts]
    cases allF inn f t <;> cases allF inn g t <;> simp
end

theorem comp_ref (T : Ty) : (allF innAll isTypeB T && allF (innL true) (notIn [8, 10, 13, 14, 15]) T) = compT T := by
  rw [allF_congr (inn := innL true) (inn' := innAll) (fun _ => rfl) (fun _ => rfl) T, allF_and]
  refine allF_congr (fun _ => rfl) (fun x => ?_) T
  rw [Bool.eq_iff_iff]
  simp [isTypeB, notIn, compB]
  omega
theorem copy_ref (T : Ty) : allF (innL false) (notIn [8, 15]) T = copyT T := by
  refine allF_congr (fun x => by simp [innL, innHeld]) (fun x => ?_) T
  rw [Bool.eq_iff_iff]
  simp [notIn, copyB]
  omega
theorem pack_ref (T : Ty) : allF (innL true) (notIn [8, 14, 15]) T = packT T := by
  refine allF_congr (fun x => rfl) (fun x => ?_) T
  rw [Bool.eq_iff_iff]
  simp [notIn, packB]
theorem store_ref (T : Ty) : allF (innL false) (notIn [8]) T = storeT T := by
  refine allF_congr (fun x => by simp [innL, innHeld]) (fun x => ?_) T
  rw [Bool.eq_iff_iff]
  simp [notIn, storeB]







set_option maxHeartbeats 400000 in
theorem rcomp_any {w : World} {T : Ty} {v : Value} (hL : LiesT (fun _ => True) w T v) (w2 : World) (hg : w.grownBy w2 none) :
    Calls Try.prog 27 #[v] w2 fun e w' => e = .returned (.bool (compT T)) ∧ w2.grownBy w' none := by
  obtain ⟨a, c, V, rfl, it, hR⟩ := hL.inv
  have hRl := rreal_any hL (w2.alloc (.cells #[.int .i64 T.t, .slice a T.args.length c] 24)) (Lf.gbt hg (Lf.gb _))
  have hcr := comp_ref T
  have HB := Lf.hide (heap_alloc_new w2 (.cells #[.int .i64 T.t, .slice a T.args.length c] 24))
  have HL := Lf.hide hL
  have HG := Lf.hide (Lf.gbt hg (Lf.gb (.cells #[.int .i64 T.t, .slice a T.args.length c] 24)))
  have HCR := Lf.hide hcr
  clear hL hR it hg hcr
  cases hre : allF innAll isTypeB T with
  | false =>
    rw [hre] at hRl
    have HR := Lf.hide hRl
    have hno : compT T = false := by rw [← HCR.out, hre]; rfl
    have HNO := Lf.hide hno
    clear hre hRl hno
    unfold tyV at HR ⊢
    go_enter Try.func27, Try.ntmps27
    go_wp2_with fail
    refine HR.out.mono ?_; rintro e w3 ⟨rfl, hg3⟩
    have HG3 := Lf.hide (Lf.gbt (Lf.gb _) hg3)
    clear hg3
    go_wp2_with fail
    go_ret
    exact ⟨by rw [HNO.out]; rfl, HG3.out⟩
  | true =>
    rw [hre] at hRl
    have HR := Lf.hide hRl
    have hyes : allF (innL true) (notIn [8, 10, 13, 14, 15]) T = compT T := by rw [← HCR.out, hre]; rfl
    have HY := Lf.hide hyes
    clear hre hRl hyes
    unfold tyV at HR HL ⊢
    go_enter Try.func27, Try.ntmps27
    go_wp2_with fail
    refine HR.out.mono ?_; rintro e w3 ⟨rfl, hg3⟩
    have hb := (hg3.block _ (lt_of_block HB.out) (by simp)).trans HB.out
    have x0 := cell0_of hb
    have x1 := cell1_of hb
    have hW := without_at (lam := true) (ns := [8, 10, 13, 14, 15]) (HL.out.same (sameTrue (Lf.gbt HG.out hg3))) (by simp)
    rw [show ([8, 10, 13, 14, 15] : List Int).length = 5 from rfl, HY.out] at hW
    simp only [List.map_cons, List.map_nil] at hW
    have HW := Lf.hide hW
    have HG3 := Lf.hide (Lf.gbt (Lf.gb _) hg3)
    clear hg3 hb hW
    go_wp2_with fail
    refine HW.out.mono ?_; rintro e w4 ⟨rfl, hg4⟩
    have HG4 := Lf.hide (Lf.gbt HG3.out (Lf.gbt (Lf.gb _) hg4))
    clear hg4
    go_wp2_with fail
    go_ret
    exact ⟨by simp, HG4.out⟩

end Go.Proofs.Ytmmgihaoahhkjaa
