/- The document's own has: RHas9. (Made by wip/tools/gen-rhas.py.) -/
import Derived.Test.YtmmgihaoahhkjaaKRHasV
namespace Go.Proofs.Ytmmgihaoahhkjaa
set_option maxRecDepth 20000
open Go.ChangeShapes Go.WideShapes Go.ChangeAt Go.RowKit
set_option linter.unusedVariables false

set_option maxRecDepth 100000 in
set_option maxHeartbeats 4000000 in
theorem rhas_9_no {W : World} {xa : Int} {s : ByteArray} {na : Option Addr} {nl nc : Nat} {a aa ta : Option Addr} {tn c al ac tl tc : Nat} {n : Int}  (HB : Hid (Ans 74 #[.agg #[.int .i64 9, .int .i64 n, .int .i64 xa, .string s, .slice aa al ac, .slice ta tl tc, .slice na nl nc], .bool false, .bool false, .bool false, .int .i64 (al : Int), .int .i64 0, .bool false] W false)) :
    Calls Try.prog 36 #[.agg #[.int .i64 9, .slice a tn c], .agg #[.int .i64 9, .int .i64 n, .int .i64 xa, .string s, .slice aa al ac, .slice ta tl tc, .slice na nl nc]] W fun e w' => e = .returned (.bool false) ∧ W.grownBy w' none := by
  have HG0 := Lf.hide (Lf.gbt (Lf.gb (w := W) (.cells #[.int .i64 9, .slice a tn c] 24)) (Lf.gb (.cells #[.int .i64 9, .int .i64 n, .int .i64 xa, .string s, .slice aa al ac, .slice ta tl tc, .slice na nl nc] 28)))
  have HA0 := Lf.hide (res_new W (.cells #[.int .i64 9, .slice a tn c] 24) (.cells #[.int .i64 9, .int .i64 n, .int .i64 xa, .string s, .slice aa al ac, .slice ta tl tc, .slice na nl nc] 28))
  have HB0 := Lf.hide (rnew_two W (.cells #[.int .i64 9, .slice a tn c] 24) (.cells #[.int .i64 9, .int .i64 n, .int .i64 xa, .string s, .slice aa al ac, .slice ta tl tc, .slice na nl nc] 28))
  go_enter Try.func36, Try.ntmps36
  go_wp2_with fail
  refine (HB.out _ HG0.out).mono ?_; rintro e w1 ⟨rfl, hg⟩
  have HG1 := Lf.hide (Lf.gbt HG0.out hg)
  have HA1 := Lf.hide (keepB HA0.out hg)
  have HB1 := Lf.hide (keepB HB0.out hg)
  have q10 := cell0_of HA1.out
  have q11 := cell1_of HA1.out
  obtain ⟨b10, b11, b12, b13, b14, b15, b16⟩ := box7 HB1.out
  clear hg
  go_wp2_with fail
  go_ret
  exact ⟨rfl, HG1.out⟩

set_option maxRecDepth 100000 in
set_option maxHeartbeats 4000000 in
theorem rhas_9_two {W : World} {xa : Int} {s : ByteArray} {na : Option Addr} {nl nc : Nat} {a aa ta : Option Addr} {tn c al ac tl tc : Nat} {n : Int}  (HB : Hid (Ans 74 #[.agg #[.int .i64 9, .int .i64 n, .int .i64 xa, .string s, .slice aa al ac, .slice ta tl tc, .slice na nl nc], .bool false, .bool false, .bool false, .int .i64 (al : Int), .int .i64 0, .bool false] W true)) (h1 : (1 : Int) < (al : Int)) :
    Calls Try.prog 36 #[.agg #[.int .i64 9, .slice a tn c], .agg #[.int .i64 9, .int .i64 n, .int .i64 xa, .string s, .slice aa al ac, .slice ta tl tc, .slice na nl nc]] W fun e w' => e = .returned (.bool false) ∧ W.grownBy w' none := by
  have HG0 := Lf.hide (Lf.gbt (Lf.gb (w := W) (.cells #[.int .i64 9, .slice a tn c] 24)) (Lf.gb (.cells #[.int .i64 9, .int .i64 n, .int .i64 xa, .string s, .slice aa al ac, .slice ta tl tc, .slice na nl nc] 28)))
  have HA0 := Lf.hide (res_new W (.cells #[.int .i64 9, .slice a tn c] 24) (.cells #[.int .i64 9, .int .i64 n, .int .i64 xa, .string s, .slice aa al ac, .slice ta tl tc, .slice na nl nc] 28))
  have HB0 := Lf.hide (rnew_two W (.cells #[.int .i64 9, .slice a tn c] 24) (.cells #[.int .i64 9, .int .i64 n, .int .i64 xa, .string s, .slice aa al ac, .slice ta tl tc, .slice na nl nc] 28))
  go_enter Try.func36, Try.ntmps36
  go_wp2_with fail
  refine (HB.out _ HG0.out).mono ?_; rintro e w1 ⟨rfl, hg⟩
  have HG1 := Lf.hide (Lf.gbt HG0.out hg)
  have HA1 := Lf.hide (keepB HA0.out hg)
  have HB1 := Lf.hide (keepB HB0.out hg)
  have q10 := cell0_of HA1.out
  have q11 := cell1_of HA1.out
  obtain ⟨b10, b11, b12, b13, b14, b15, b16⟩ := box7 HB1.out
  clear hg
  go_wp2_with fail
  go_ret
  exact ⟨rfl, HG1.out⟩

set_option maxRecDepth 100000 in
set_option maxHeartbeats 4000000 in
theorem rhas_9_q {W : World} {xa : Int} {s : ByteArray} {na : Option Addr} {nl nc : Nat} {aa ta : Option Addr} {c ac tl tc : Nat} {n : Int} {bt ot : Nat} {l : List Bool} {E : Nat → Value} {t_t : Int} {t_a : Option Addr} {t_l t_c : Nat} (tc0 : ∀ W3 : World, W.grownBy W3 none → W3.cell? ⟨bt, ot, none⟩ = some (.int .i64 t_t)) (tc1 : ∀ W3 : World, W.grownBy W3 none → W3.cell? ⟨bt, ot + 1, none⟩ = some (.slice t_a t_l t_c)) (HB : Hid (Ans 74 #[.agg #[.int .i64 9, .int .i64 n, .int .i64 xa, .string s, .slice aa l.length ac, .slice ta tl tc, .slice na nl nc], .bool false, .bool false, .bool false, .int .i64 (l.length : Int), .int .i64 0, .bool false] W true)) (hl : l.length ≤ 1) (HE : Hid (∀ j (h : j < l.length), VaAt (fun _ => True) W aa j (E j) ∧ Ans 36 #[.agg #[.int .i64 t_t, .slice t_a t_l t_c], E j] W l[j])) :
    Calls Try.prog 36 #[.agg #[.int .i64 9, .slice (some ⟨bt, ot, none⟩) 1 c], .agg #[.int .i64 9, .int .i64 n, .int .i64 xa, .string s, .slice aa l.length ac, .slice ta tl tc, .slice na nl nc]] W fun e w' => e = .returned (.bool (l.all id)) ∧ W.grownBy w' none := by
  have HG0 := Lf.hide (Lf.gbt (Lf.gb (w := W) (.cells #[.int .i64 9, .slice (some ⟨bt, ot, none⟩) 1 c] 24)) (Lf.gb (.cells #[.int .i64 9, .int .i64 n, .int .i64 xa, .string s, .slice aa l.length ac, .slice ta tl tc, .slice na nl nc] 28)))
  have HA0 := Lf.hide (res_new W (.cells #[.int .i64 9, .slice (some ⟨bt, ot, none⟩) 1 c] 24) (.cells #[.int .i64 9, .int .i64 n, .int .i64 xa, .string s, .slice aa l.length ac, .slice ta tl tc, .slice na nl nc] 28))
  have HB0 := Lf.hide (rnew_two W (.cells #[.int .i64 9, .slice (some ⟨bt, ot, none⟩) 1 c] 24) (.cells #[.int .i64 9, .int .i64 n, .int .i64 xa, .string s, .slice aa l.length ac, .slice ta tl tc, .slice na nl nc] 28))
  have HT : Hid (∀ W3 : World, W.grownBy W3 none → W3.cell? ⟨bt, ot, none⟩ = some (.int .i64 t_t) ∧ W3.cell? ⟨bt, ot + 1, none⟩ = some (.slice t_a t_l t_c)) := fun W3 h => ⟨tc0 W3 h, tc1 W3 h⟩
  have g1 : ¬ (24 : Int) < (l.length : Int) := by omega
  have g2 : ¬ (1 : Int) < (l.length : Int) := by omega
  clear tc0 tc1
  go_enter Try.func36, Try.ntmps36
  go_wp2_with fail
  refine (HB.out _ HG0.out).mono ?_; rintro e w1 ⟨rfl, hg⟩
  have HG1 := Lf.hide (Lf.gbt HG0.out hg)
  have HA1 := Lf.hide (keepB HA0.out hg)
  have HB1 := Lf.hide (keepB HB0.out hg)
  have q10 := cell0_of HA1.out
  have q11 := cell1_of HA1.out
  obtain ⟨b10, b11, b12, b13, b14, b15, b16⟩ := box7 HB1.out
  clear hg
  go_wp2_with fail
  clear b10 b11 b12 b13 b14 b15 b16 q10 q11
  go_loopw [124] (fun i wr => ∃ j : Nat, j ≤ l.length ∧ i = .int .i64 j ∧ W.grownBy wr none ∧ wr.heap[W.heap.size]? = some (.cells #[.int .i64 9, .slice (some ⟨bt, ot, none⟩) 1 c] 24) ∧ wr.heap[W.heap.size + 1]? = some (.cells #[.int .i64 9, .int .i64 n, .int .i64 xa, .string s, .slice aa l.length ac, .slice ta tl tc, .slice na nl nc] 28) ∧ (l.take j).all id = true) (fun i _ => l.length - (intOf i).toNat)
  case atStart => exact ⟨0, Nat.zero_le _, rfl, HG1.out, HA1.out, HB1.out, by simp⟩
  case round =>
    obtain ⟨j, hj, rfl, hgr, hA, hB, hF⟩ := hrel
    by_cases hlt : j < l.length
    · obtain ⟨hVa, hAn⟩ := HE.out j hlt
      obtain ⟨bv, ov, rfl, _, y_k, y_n, y_x, y_s, y_a, y_l, y_c, y_ta, y_tl, y_tc, y_na, y_nl, y_nc, hv, e0, e1, e2, e3, e4, e5, e6⟩ := hVa.same (sameAll hgr)
      rw [hv] at hAn
      unfold vaV at hAn
      have HAN := Lf.hide hAn
      have hGn := Lf.gb (w := wr) (.cells #[.int .i64 y_k, .int .i64 y_n, .int .i64 y_x, .string y_s, .slice y_a y_l y_c, .slice y_ta y_tl y_tc, .slice y_na y_nl y_nc] 28)
      have HGR := Lf.hide (Lf.gbt hgr hGn)
      have HA := Lf.hide (keepB hA hGn)
      have HB2 := Lf.hide (keepB hB hGn)
      have HN := Lf.hide (heap_alloc_new wr (.cells #[.int .i64 y_k, .int .i64 y_n, .int .i64 y_x, .string y_s, .slice y_a y_l y_c, .slice y_ta y_tl y_tc, .slice y_na y_nl y_nc] 28))
      have HF := Lf.hide hF
      have w2 : (j : Int) < (l.length : Int) := by omega
      have hsu : (l.take (j + 1)).all id = l[j] := by
        rw [List.take_succ_eq_append_getElem hlt, List.all_append, hF]; simp
      have HSU := Lf.hide hsu
      clear hsu
      have HNO : Hid (l[j] = false → l.all id = false) := fun h => by
        cases hq : l.all id with
        | false => rfl
        | true => have := List.all_eq_true.1 hq l[j] (List.getElem_mem hlt); rw [h] at this; cases this
      clear hAn hgr hA hB hF hv hVa hGn
      generalize l[j] = r at *
      go_wp2_with fail
      generalize wr.alloc (.cells #[.int .i64 y_k, .int .i64 y_n, .int .i64 y_x, .string y_s, .slice y_a y_l y_c, .slice y_ta y_tl y_tc, .slice y_na y_nl y_nc] 28) = w5 at *
      have hA := HA.out
      have hN := HN.out
      have qd1 := bq1 hA
      have td0 : ∀ W3 : World, w5.grownBy W3 none → W3.cell? ⟨bt, ot, none⟩ = some (.int .i64 t_t) := fun W3 h => (HT.out W3 (Lf.gbt HGR.out h)).1
      have td1 : ∀ W3 : World, w5.grownBy W3 none → W3.cell? ⟨bt, ot + 1, none⟩ = some (.slice t_a t_l t_c) := fun W3 h => (HT.out W3 (Lf.gbt HGR.out h)).2
      have yd0 := bx0 hN
      have yd1 := bx1 hN
      have yd2 := bx2 hN
      have yd3 := bx3 hN
      have yd4 := bx4 hN
      have yd5 := bx5 hN
      have yd6 := bx6 hN
      clear hA hN e0 e1 e2 e3 e4 e5 e6
      cases r with
      | true =>
        refine wp_region_held_drew (S := fun w' => w5.grownBy w' none) (by kernel_rfl) ?_ (fun hHeld => ?_)
        · exact grow_drew (grow_refl _ _)
        refine reg_go 0 128 ?_
        simp only [Act.put, pS]
        refine reg_go 1 129 ?_
        simp only [Act.put, pS]
        refine reg_go 2 130 ?_
        simp only [Act.put, pS]
        refine reg_go 3 131 ?_
        simp only [Act.put, pS]
        refine reg_go 4 132 ?_
        simp only [Act.put, pS]
        refine wpAnyH_ready (rs := [5]) (by kernel_rfl) (by simp) ?_
        refine AllReadyH.cons rfl (fun K hK => ?_) AllReadyH.nil
        go_simp
        go_at_call 36
        refine (HAN.out _ (Lf.gbt HGR.out hHeld)).mono ?_; rintro e v0 ⟨rfl, hg0⟩
        have hH0 := Lf.gbt hHeld hg0
        refine hK.out _ _ hH0 (fun _ => ?_)
        clear hK K hHeld hg0
        have hHeld := hH0
        clear hH0
        refine reg_go 6 134 ?_
        simp only [Act.put, pS]
        refine wpAnyH_done (by kernel_rfl) ?_ _
        have HS9 := Lf.hide (Lf.gbt HGR.out hHeld)
        have HA9 := Lf.hide (keepB HA.out hHeld)
        have HB9 := Lf.hide (keepB HB2.out hHeld)
        clear hHeld
        go_wp2_with fail
        go_roundw
        case rel => exact ⟨j + 1, by omega, by go_num, HS9.out, HA9.out, HB9.out, HSU.out⟩
        case measure => simp [intOf]; omega
      | false =>
        refine wp_region_held_drew (S := fun w' => w5.grownBy w' none) (by kernel_rfl) ?_ (fun hHeld => ?_)
        · exact grow_drew (grow_refl _ _)
        refine reg_go 0 128 ?_
        simp only [Act.put, pS]
        refine reg_go 1 129 ?_
        simp only [Act.put, pS]
        refine reg_go 2 130 ?_
        simp only [Act.put, pS]
        refine reg_go 3 131 ?_
        simp only [Act.put, pS]
        refine reg_go 4 132 ?_
        simp only [Act.put, pS]
        refine wpAnyH_ready (rs := [5]) (by kernel_rfl) (by simp) ?_
        refine AllReadyH.cons rfl (fun K hK => ?_) AllReadyH.nil
        go_simp
        go_at_call 36
        refine (HAN.out _ (Lf.gbt HGR.out hHeld)).mono ?_; rintro e v0 ⟨rfl, hg0⟩
        have hH0 := Lf.gbt hHeld hg0
        refine hK.out _ _ hH0 (fun _ => ?_)
        clear hK K hHeld hg0
        have hHeld := hH0
        clear hH0
        refine reg_go 6 134 ?_
        simp only [Act.put, pS]
        refine wpAnyH_done (by kernel_rfl) ?_ _
        have HS9 := Lf.hide (Lf.gbt HGR.out hHeld)
        have HA9 := Lf.hide (keepB HA.out hHeld)
        have HB9 := Lf.hide (keepB HB2.out hHeld)
        clear hHeld
        go_wp2_with fail
        go_ret
        exact Lf.retb (HNO.out (by first | rfl | trivial)).symm HS9.out
    · have hje : j = l.length := by omega
      have hz : l.all id = true := by rw [hje, List.take_length] at hF; exact hF
      have HZ := Lf.hide hz
      have HGR := Lf.hide hgr
      have hj3 : ¬ (j : Int) < (l.length : Int) := by omega
      clear hz hgr hF hA hB
      go_wp2_with fail
      go_ret
      exact Lf.retb HZ.out.symm HGR.out

end Go.Proofs.Ytmmgihaoahhkjaa

/- The document's own has: RHas10. (Made by wip/tools/gen-rhas.py.) -/
namespace Go.Proofs.Ytmmgihaoahhkjaa
set_option maxRecDepth 20000
open Go.ChangeShapes Go.WideShapes Go.ChangeAt Go.RowKit
set_option linter.unusedVariables false

set_option maxRecDepth 100000 in
set_option maxHeartbeats 4000000 in
theorem rhas_10_no {W : World} {xa : Int} {s : ByteArray} {na : Option Addr} {nl nc : Nat} {a aa ta : Option Addr} {tn c al ac tl tc : Nat} {n : Int}  (HB : Hid (Ans 74 #[.agg #[.int .i64 10, .int .i64 n, .int .i64 xa, .string s, .slice aa al ac, .slice ta tl tc, .slice na nl nc], .bool false, .bool false, .bool false, .int .i64 (al : Int), .int .i64 0, .bool false] W false)) :
    Calls Try.prog 36 #[.agg #[.int .i64 10, .slice a tn c], .agg #[.int .i64 10, .int .i64 n, .int .i64 xa, .string s, .slice aa al ac, .slice ta tl tc, .slice na nl nc]] W fun e w' => e = .returned (.bool false) ∧ W.grownBy w' none := by
  have HG0 := Lf.hide (Lf.gbt (Lf.gb (w := W) (.cells #[.int .i64 10, .slice a tn c] 24)) (Lf.gb (.cells #[.int .i64 10, .int .i64 n, .int .i64 xa, .string s, .slice aa al ac, .slice ta tl tc, .slice na nl nc] 28)))
  have HA0 := Lf.hide (res_new W (.cells #[.int .i64 10, .slice a tn c] 24) (.cells #[.int .i64 10, .int .i64 n, .int .i64 xa, .string s, .slice aa al ac, .slice ta tl tc, .slice na nl nc] 28))
  have HB0 := Lf.hide (rnew_two W (.cells #[.int .i64 10, .slice a tn c] 24) (.cells #[.int .i64 10, .int .i64 n, .int .i64 xa, .string s, .slice aa al ac, .slice ta tl tc, .slice na nl nc] 28))
  go_enter Try.func36, Try.ntmps36
  go_wp2_with fail
  refine (HB.out _ HG0.out).mono ?_; rintro e w1 ⟨rfl, hg⟩
  have HG1 := Lf.hide (Lf.gbt HG0.out hg)
  have HA1 := Lf.hide (keepB HA0.out hg)
  have HB1 := Lf.hide (keepB HB0.out hg)
  have q10 := cell0_of HA1.out
  have q11 := cell1_of HA1.out
  obtain ⟨b10, b11, b12, b13, b14, b15, b16⟩ := box7 HB1.out
  clear hg
  go_wp2_with fail
  go_ret
  exact ⟨rfl, HG1.out⟩

set_option maxRecDepth 100000 in
set_option maxHeartbeats 4000000 in
theorem rhas_10_long {W : World} {xa : Int} {s : ByteArray} {na : Option Addr} {nl nc : Nat} {a aa ta : Option Addr} {tn c al ac tl tc : Nat} {n : Int}  (HB : Hid (Ans 74 #[.agg #[.int .i64 10, .int .i64 n, .int .i64 xa, .string s, .slice aa al ac, .slice ta tl tc, .slice na nl nc], .bool false, .bool false, .bool false, .int .i64 (al : Int), .int .i64 0, .bool false] W true)) (h1 : (24 : Int) < (al : Int)) :
    Calls Try.prog 36 #[.agg #[.int .i64 10, .slice a tn c], .agg #[.int .i64 10, .int .i64 n, .int .i64 xa, .string s, .slice aa al ac, .slice ta tl tc, .slice na nl nc]] W fun e w' => e = .returned (.bool false) ∧ W.grownBy w' none := by
  have HG0 := Lf.hide (Lf.gbt (Lf.gb (w := W) (.cells #[.int .i64 10, .slice a tn c] 24)) (Lf.gb (.cells #[.int .i64 10, .int .i64 n, .int .i64 xa, .string s, .slice aa al ac, .slice ta tl tc, .slice na nl nc] 28)))
  have HA0 := Lf.hide (res_new W (.cells #[.int .i64 10, .slice a tn c] 24) (.cells #[.int .i64 10, .int .i64 n, .int .i64 xa, .string s, .slice aa al ac, .slice ta tl tc, .slice na nl nc] 28))
  have HB0 := Lf.hide (rnew_two W (.cells #[.int .i64 10, .slice a tn c] 24) (.cells #[.int .i64 10, .int .i64 n, .int .i64 xa, .string s, .slice aa al ac, .slice ta tl tc, .slice na nl nc] 28))
  go_enter Try.func36, Try.ntmps36
  go_wp2_with fail
  refine (HB.out _ HG0.out).mono ?_; rintro e w1 ⟨rfl, hg⟩
  have HG1 := Lf.hide (Lf.gbt HG0.out hg)
  have HA1 := Lf.hide (keepB HA0.out hg)
  have HB1 := Lf.hide (keepB HB0.out hg)
  have q10 := cell0_of HA1.out
  have q11 := cell1_of HA1.out
  obtain ⟨b10, b11, b12, b13, b14, b15, b16⟩ := box7 HB1.out
  clear hg
  go_wp2_with fail
  go_ret
  exact ⟨rfl, HG1.out⟩

set_option maxRecDepth 100000 in
set_option maxHeartbeats 4000000 in
theorem rhas_10_q {W : World} {xa : Int} {s : ByteArray} {na : Option Addr} {nl nc : Nat} {aa ta : Option Addr} {c ac tl tc : Nat} {n : Int} {bt ot : Nat} {l : List Bool} {E : Nat → Value} {t_t : Int} {t_a : Option Addr} {t_l t_c : Nat} (tc0 : ∀ W3 : World, W.grownBy W3 none → W3.cell? ⟨bt, ot, none⟩ = some (.int .i64 t_t)) (tc1 : ∀ W3 : World, W.grownBy W3 none → W3.cell? ⟨bt, ot + 1, none⟩ = some (.slice t_a t_l t_c)) (HB : Hid (Ans 74 #[.agg #[.int .i64 10, .int .i64 n, .int .i64 xa, .string s, .slice aa l.length ac, .slice ta tl tc, .slice na nl nc], .bool false, .bool false, .bool false, .int .i64 (l.length : Int), .int .i64 0, .bool false] W true)) (hl : l.length ≤ 24) (HE : Hid (∀ j (h : j < l.length), VaAt (fun _ => True) W aa j (E j) ∧ Ans 36 #[.agg #[.int .i64 t_t, .slice t_a t_l t_c], E j] W l[j])) :
    Calls Try.prog 36 #[.agg #[.int .i64 10, .slice (some ⟨bt, ot, none⟩) 1 c], .agg #[.int .i64 10, .int .i64 n, .int .i64 xa, .string s, .slice aa l.length ac, .slice ta tl tc, .slice na nl nc]] W fun e w' => e = .returned (.bool (l.all id)) ∧ W.grownBy w' none := by
  have HG0 := Lf.hide (Lf.gbt (Lf.gb (w := W) (.cells #[.int .i64 10, .slice (some ⟨bt, ot, none⟩) 1 c] 24)) (Lf.gb (.cells #[.int .i64 10, .int .i64 n, .int .i64 xa, .string s, .slice aa l.length ac, .slice ta tl tc, .slice na nl nc] 28)))
  have HA0 := Lf.hide (res_new W (.cells #[.int .i64 10, .slice (some ⟨bt, ot, none⟩) 1 c] 24) (.cells #[.int .i64 10, .int .i64 n, .int .i64 xa, .string s, .slice aa l.length ac, .slice ta tl tc, .slice na nl nc] 28))
  have HB0 := Lf.hide (rnew_two W (.cells #[.int .i64 10, .slice (some ⟨bt, ot, none⟩) 1 c] 24) (.cells #[.int .i64 10, .int .i64 n, .int .i64 xa, .string s, .slice aa l.length ac, .slice ta tl tc, .slice na nl nc] 28))
  have HT : Hid (∀ W3 : World, W.grownBy W3 none → W3.cell? ⟨bt, ot, none⟩ = some (.int .i64 t_t) ∧ W3.cell? ⟨bt, ot + 1, none⟩ = some (.slice t_a t_l t_c)) := fun W3 h => ⟨tc0 W3 h, tc1 W3 h⟩
  have g1 : ¬ (24 : Int) < (l.length : Int) := by omega
  clear tc0 tc1
  go_enter Try.func36, Try.ntmps36
  go_wp2_with fail
  refine (HB.out _ HG0.out).mono ?_; rintro e w1 ⟨rfl, hg⟩
  have HG1 := Lf.hide (Lf.gbt HG0.out hg)
  have HA1 := Lf.hide (keepB HA0.out hg)
  have HB1 := Lf.hide (keepB HB0.out hg)
  have q10 := cell0_of HA1.out
  have q11 := cell1_of HA1.out
  obtain ⟨b10, b11, b12, b13, b14, b15, b16⟩ := box7 HB1.out
  clear hg
  go_wp2_with fail
  clear b10 b11 b12 b13 b14 b15 b16 q10 q11
  go_loopw [124] (fun i wr => ∃ j : Nat, j ≤ l.length ∧ i = .int .i64 j ∧ W.grownBy wr none ∧ wr.heap[W.heap.size]? = some (.cells #[.int .i64 10, .slice (some ⟨bt, ot, none⟩) 1 c] 24) ∧ wr.heap[W.heap.size + 1]? = some (.cells #[.int .i64 10, .int .i64 n, .int .i64 xa, .string s, .slice aa l.length ac, .slice ta tl tc, .slice na nl nc] 28) ∧ (l.take j).all id = true) (fun i _ => l.length - (intOf i).toNat)
  case atStart => exact ⟨0, Nat.zero_le _, rfl, HG1.out, HA1.out, HB1.out, by simp⟩
  case round =>
    obtain ⟨j, hj, rfl, hgr, hA, hB, hF⟩ := hrel
    by_cases hlt : j < l.length
    · obtain ⟨hVa, hAn⟩ := HE.out j hlt
      obtain ⟨bv, ov, rfl, _, y_k, y_n, y_x, y_s, y_a, y_l, y_c, y_ta, y_tl, y_tc, y_na, y_nl, y_nc, hv, e0, e1, e2, e3, e4, e5, e6⟩ := hVa.same (sameAll hgr)
      rw [hv] at hAn
      unfold vaV at hAn
      have HAN := Lf.hide hAn
      have hGn := Lf.gb (w := wr) (.cells #[.int .i64 y_k, .int .i64 y_n, .int .i64 y_x, .string y_s, .slice y_a y_l y_c, .slice y_ta y_tl y_tc, .slice y_na y_nl y_nc] 28)
      have HGR := Lf.hide (Lf.gbt hgr hGn)
      have HA := Lf.hide (keepB hA hGn)
      have HB2 := Lf.hide (keepB hB hGn)
      have HN := Lf.hide (heap_alloc_new wr (.cells #[.int .i64 y_k, .int .i64 y_n, .int .i64 y_x, .string y_s, .slice y_a y_l y_c, .slice y_ta y_tl y_tc, .slice y_na y_nl y_nc] 28))
      have HF := Lf.hide hF
      have w2 : (j : Int) < (l.length : Int) := by omega
      have hsu : (l.take (j + 1)).all id = l[j] := by
        rw [List.take_succ_eq_append_getElem hlt, List.all_append, hF]; simp
      have HSU := Lf.hide hsu
      clear hsu
      have HNO : Hid (l[j] = false → l.all id = false) := fun h => by
        cases hq : l.all id with
        | false => rfl
        | true => have := List.all_eq_true.1 hq l[j] (List.getElem_mem hlt); rw [h] at this; cases this
      clear hAn hgr hA hB hF hv hVa hGn
      generalize l[j] = r at *
      go_wp2_with fail
      generalize wr.alloc (.cells #[.int .i64 y_k, .int .i64 y_n, .int .i64 y_x, .string y_s, .slice y_a y_l y_c, .slice y_ta y_tl y_tc, .slice y_na y_nl y_nc] 28) = w5 at *
      have hA := HA.out
      have hN := HN.out
      have qd1 := bq1 hA
      have td0 : ∀ W3 : World, w5.grownBy W3 none → W3.cell? ⟨bt, ot, none⟩ = some (.int .i64 t_t) := fun W3 h => (HT.out W3 (Lf.gbt HGR.out h)).1
      have td1 : ∀ W3 : World, w5.grownBy W3 none → W3.cell? ⟨bt, ot + 1, none⟩ = some (.slice t_a t_l t_c) := fun W3 h => (HT.out W3 (Lf.gbt HGR.out h)).2
      have yd0 := bx0 hN
      have yd1 := bx1 hN
      have yd2 := bx2 hN
      have yd3 := bx3 hN
      have yd4 := bx4 hN
      have yd5 := bx5 hN
      have yd6 := bx6 hN
      clear hA hN e0 e1 e2 e3 e4 e5 e6
      cases r with
      | true =>
        refine wp_region_held_drew (S := fun w' => w5.grownBy w' none) (by kernel_rfl) ?_ (fun hHeld => ?_)
        · exact grow_drew (grow_refl _ _)
        refine reg_go 0 128 ?_
        simp only [Act.put, pS]
        refine reg_go 1 129 ?_
        simp only [Act.put, pS]
        refine reg_go 2 130 ?_
        simp only [Act.put, pS]
        refine reg_go 3 131 ?_
        simp only [Act.put, pS]
        refine reg_go 4 132 ?_
        simp only [Act.put, pS]
        refine wpAnyH_ready (rs := [5]) (by kernel_rfl) (by simp) ?_
        refine AllReadyH.cons rfl (fun K hK => ?_) AllReadyH.nil
        go_simp
        go_at_call 36
        refine (HAN.out _ (Lf.gbt HGR.out hHeld)).mono ?_; rintro e v0 ⟨rfl, hg0⟩
        have hH0 := Lf.gbt hHeld hg0
        refine hK.out _ _ hH0 (fun _ => ?_)
        clear hK K hHeld hg0
        have hHeld := hH0
        clear hH0
        refine reg_go 6 134 ?_
        simp only [Act.put, pS]
        refine wpAnyH_done (by kernel_rfl) ?_ _
        have HS9 := Lf.hide (Lf.gbt HGR.out hHeld)
        have HA9 := Lf.hide (keepB HA.out hHeld)
        have HB9 := Lf.hide (keepB HB2.out hHeld)
        clear hHeld
        go_wp2_with fail
        go_roundw
        case rel => exact ⟨j + 1, by omega, by go_num, HS9.out, HA9.out, HB9.out, HSU.out⟩
        case measure => simp [intOf]; omega
      | false =>
        refine wp_region_held_drew (S := fun w' => w5.grownBy w' none) (by kernel_rfl) ?_ (fun hHeld => ?_)
        · exact grow_drew (grow_refl _ _)
        refine reg_go 0 128 ?_
        simp only [Act.put, pS]
        refine reg_go 1 129 ?_
        simp only [Act.put, pS]
        refine reg_go 2 130 ?_
        simp only [Act.put, pS]
        refine reg_go 3 131 ?_
        simp only [Act.put, pS]
        refine reg_go 4 132 ?_
        simp only [Act.put, pS]
        refine wpAnyH_ready (rs := [5]) (by kernel_rfl) (by simp) ?_
        refine AllReadyH.cons rfl (fun K hK => ?_) AllReadyH.nil
        go_simp
        go_at_call 36
        refine (HAN.out _ (Lf.gbt HGR.out hHeld)).mono ?_; rintro e v0 ⟨rfl, hg0⟩
        have hH0 := Lf.gbt hHeld hg0
        refine hK.out _ _ hH0 (fun _ => ?_)
        clear hK K hHeld hg0
        have hHeld := hH0
        clear hH0
        refine reg_go 6 134 ?_
        simp only [Act.put, pS]
        refine wpAnyH_done (by kernel_rfl) ?_ _
        have HS9 := Lf.hide (Lf.gbt HGR.out hHeld)
        have HA9 := Lf.hide (keepB HA.out hHeld)
        have HB9 := Lf.hide (keepB HB2.out hHeld)
        clear hHeld
        go_wp2_with fail
        go_ret
        exact Lf.retb (HNO.out (by first | rfl | trivial)).symm HS9.out
    · have hje : j = l.length := by omega
      have hz : l.all id = true := by rw [hje, List.take_length] at hF; exact hF
      have HZ := Lf.hide hz
      have HGR := Lf.hide hgr
      have hj3 : ¬ (j : Int) < (l.length : Int) := by omega
      clear hz hgr hF hA hB
      go_wp2_with fail
      go_ret
      exact Lf.retb HZ.out.symm HGR.out

end Go.Proofs.Ytmmgihaoahhkjaa

/- The document's own has: RHas14. (Made by wip/tools/gen-rhas.py.) -/
namespace Go.Proofs.Ytmmgihaoahhkjaa
set_option maxRecDepth 20000
open Go.ChangeShapes Go.WideShapes Go.ChangeAt Go.RowKit
set_option linter.unusedVariables false

set_option maxRecDepth 100000 in
set_option maxHeartbeats 4000000 in
theorem rhas_14_no {W : World} {xa : Int} {s : ByteArray} {na : Option Addr} {nl nc : Nat} {a aa ta : Option Addr} {tn c al ac tl tc : Nat} {n : Int}  (HB : Hid (Ans 74 #[.agg #[.int .i64 14, .int .i64 n, .int .i64 xa, .string s, .slice aa al ac, .slice ta tl tc, .slice na nl nc], .bool false, .bool false, .bool false, .int .i64 0, .int .i64 2, .bool true] W false)) :
    Calls Try.prog 36 #[.agg #[.int .i64 14, .slice a tn c], .agg #[.int .i64 14, .int .i64 n, .int .i64 xa, .string s, .slice aa al ac, .slice ta tl tc, .slice na nl nc]] W fun e w' => e = .returned (.bool false) ∧ W.grownBy w' none := by
  have HG0 := Lf.hide (Lf.gbt (Lf.gb (w := W) (.cells #[.int .i64 14, .slice a tn c] 24)) (Lf.gb (.cells #[.int .i64 14, .int .i64 n, .int .i64 xa, .string s, .slice aa al ac, .slice ta tl tc, .slice na nl nc] 28)))
  have HA0 := Lf.hide (res_new W (.cells #[.int .i64 14, .slice a tn c] 24) (.cells #[.int .i64 14, .int .i64 n, .int .i64 xa, .string s, .slice aa al ac, .slice ta tl tc, .slice na nl nc] 28))
  have HB0 := Lf.hide (rnew_two W (.cells #[.int .i64 14, .slice a tn c] 24) (.cells #[.int .i64 14, .int .i64 n, .int .i64 xa, .string s, .slice aa al ac, .slice ta tl tc, .slice na nl nc] 28))
  go_enter Try.func36, Try.ntmps36
  go_wp2_with fail
  refine (HB.out _ HG0.out).mono ?_; rintro e w1 ⟨rfl, hg⟩
  have HG1 := Lf.hide (Lf.gbt HG0.out hg)
  have HA1 := Lf.hide (keepB HA0.out hg)
  have HB1 := Lf.hide (keepB HB0.out hg)
  have q10 := cell0_of HA1.out
  have q11 := cell1_of HA1.out
  obtain ⟨b10, b11, b12, b13, b14, b15, b16⟩ := box7 HB1.out
  clear hg
  go_wp2_with fail
  go_ret
  exact ⟨rfl, HG1.out⟩

set_option maxRecDepth 100000 in
set_option maxHeartbeats 4000000 in
theorem rhas_14_q {W : World} {xa : Int} {s : ByteArray} {na : Option Addr} {nl nc : Nat} {a aa ta : Option Addr} {tn c al ac tl tc : Nat} {n : Int} {q : Bool} (HB : Hid (Ans 74 #[.agg #[.int .i64 14, .int .i64 n, .int .i64 xa, .string s, .slice aa al ac, .slice ta tl tc, .slice na nl nc], .bool false, .bool false, .bool false, .int .i64 0, .int .i64 2, .bool true] W true)) (HS : Hid (Ans 42 #[.slice ta tl tc, .slice a tn c] W q)) :
    Calls Try.prog 36 #[.agg #[.int .i64 14, .slice a tn c], .agg #[.int .i64 14, .int .i64 n, .int .i64 xa, .string s, .slice aa al ac, .slice ta tl tc, .slice na nl nc]] W fun e w' => e = .returned (.bool q) ∧ W.grownBy w' none := by
  have HG0 := Lf.hide (Lf.gbt (Lf.gb (w := W) (.cells #[.int .i64 14, .slice a tn c] 24)) (Lf.gb (.cells #[.int .i64 14, .int .i64 n, .int .i64 xa, .string s, .slice aa al ac, .slice ta tl tc, .slice na nl nc] 28)))
  have HA0 := Lf.hide (res_new W (.cells #[.int .i64 14, .slice a tn c] 24) (.cells #[.int .i64 14, .int .i64 n, .int .i64 xa, .string s, .slice aa al ac, .slice ta tl tc, .slice na nl nc] 28))
  have HB0 := Lf.hide (rnew_two W (.cells #[.int .i64 14, .slice a tn c] 24) (.cells #[.int .i64 14, .int .i64 n, .int .i64 xa, .string s, .slice aa al ac, .slice ta tl tc, .slice na nl nc] 28))
  go_enter Try.func36, Try.ntmps36
  go_wp2_with fail
  refine (HB.out _ HG0.out).mono ?_; rintro e w1 ⟨rfl, hg⟩
  have HG1 := Lf.hide (Lf.gbt HG0.out hg)
  have HA1 := Lf.hide (keepB HA0.out hg)
  have HB1 := Lf.hide (keepB HB0.out hg)
  have q10 := cell0_of HA1.out
  have q11 := cell1_of HA1.out
  obtain ⟨b10, b11, b12, b13, b14, b15, b16⟩ := box7 HB1.out
  clear hg
  go_wp2_with fail
  refine (HS.out _ HG1.out).mono ?_; rintro e w2 ⟨rfl, hg⟩
  have HG2 := Lf.hide (Lf.gbt HG1.out hg)
  have HA2 := Lf.hide (keepB HA1.out hg)
  have HB2 := Lf.hide (keepB HB1.out hg)
  have q20 := cell0_of HA2.out
  have q21 := cell1_of HA2.out
  obtain ⟨b20, b21, b22, b23, b24, b25, b26⟩ := box7 HB2.out
  clear hg
  go_wp2_with fail
  go_ret
  exact ⟨by simp, HG2.out⟩

end Go.Proofs.Ytmmgihaoahhkjaa
