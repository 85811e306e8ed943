/- Compare by its contract. -/
import Derived.Test.YtmmgihaoahhkjaaWorth
namespace Go.Proofs.Ytmmgihaoahhkjaa
open Go.ChangeShapes Go.WideShapes Go.ChangeAt Go.RowKit
set_option linter.unusedVariables false

/-- what Compare answers -/
def cmpR (T : Ty) (x y : Va) : Int := if hasF T x = true ∧ hasF T y = true ∧ compT T = true then ordV x y else 0
def cmpE (T : Ty) (x y : Va) : Int := if hasF T x = true ∧ hasF T y = true ∧ compT T = true then 0 else 5

set_option maxRecDepth 100000 in
set_option maxHeartbeats 2000000 in
theorem compare_any {w : World} {T : Ty} {x y : Va} {t u v : Value} (hT : LiesT (fun _ => True) w T t) (hx : LiesV (fun _ => True) w x u) (hy : LiesV (fun _ => True) w y v) (hzx : x.size ≤ 20000000) (hzy : y.size ≤ 20000000) (W : World) (hW : w.grownBy W none) :
    Calls Try.prog 8 #[t, u, v] W fun e w' => e = .returned (.tuple #[.int .i64 (cmpR T x y), .int .i64 (cmpE T x y)]) ∧ W.grownBy w' none := by
  have H1 := Lf.hide (fun W2 (h2 : W.grownBy W2 none) => has_any hT hx hzx W2 (Lf.gbt hW h2))
  have H2 := Lf.hide (fun W2 (h2 : W.grownBy W2 none) => has_any hT hy hzy W2 (Lf.gbt hW h2))
  have H3 := Lf.hide (fun (hb : hasF T x = true) W2 (h2 : W.grownBy W2 none) => comparable_any (LiesT.up hT (Lf.gbt hW h2)) (by
    have hg : goodTy T = true := by unfold hasF at hb; simp only [Bool.and_eq_true] at hb; exact hb.1
    have := (goodTy_formed hg).2.1; omega))
  have H4 := Lf.hide (fun W2 (h2 : W.grownBy W2 none) => order_any hx hy hzx W2 (Lf.gbt hW h2))
  obtain ⟨k1, n1, a1, s1, aa1, al1, ac1, ta1, tl1, tc1, na1, nl1, nc1, rfl⟩ := hx.vaV
  obtain ⟨k2, n2, a2, s2, aa2, al2, ac2, ta2, tl2, tc2, na2, nl2, nc2, rfl⟩ := hy.vaV
  obtain ⟨a, c, V, rfl, it, hRT⟩ := hT.inv
  have hR : cmpR T x y = if hasF T x = true ∧ hasF T y = true ∧ compT T = true then ordV x y else 0 := rfl
  have hE : cmpE T x y = if hasF T x = true ∧ hasF T y = true ∧ compT T = true then 0 else 5 := rfl
  rw [hR, hE]
  clear hT hx hy hzx hzy hW it hRT hR hE
  generalize ordV x y = r at *
  generalize hasF T x = b1 at *
  generalize hasF T y = b2 at *
  generalize compT T = b3 at *
  unfold tyV vaV at *
  cases b1 with
  | false =>
    simp only [Bool.false_eq_true, false_and, if_false]
    have HT0 := Lf.hide (heap_keep (o := (.cells #[.int .i64 k2, .int .i64 n2, .int .i64 a2, .string s2, .slice aa2 al2 ac2, .slice ta2 tl2 tc2, .slice na2 nl2 nc2] 28)) (res_new W (.cells #[.int .i64 T.t, .slice a T.args.length c] 24) (.cells #[.int .i64 k1, .int .i64 n1, .int .i64 a1, .string s1, .slice aa1 al1 ac1, .slice ta1 tl1 tc1, .slice na1 nl1 nc1] 28)))
    have HU0 := Lf.hide (new_2of3 W (.cells #[.int .i64 T.t, .slice a T.args.length c] 24) (.cells #[.int .i64 k1, .int .i64 n1, .int .i64 a1, .string s1, .slice aa1 al1 ac1, .slice ta1 tl1 tc1, .slice na1 nl1 nc1] 28) (.cells #[.int .i64 k2, .int .i64 n2, .int .i64 a2, .string s2, .slice aa2 al2 ac2, .slice ta2 tl2 tc2, .slice na2 nl2 nc2] 28))
    have HX0 := Lf.hide (new_3of3 W (.cells #[.int .i64 T.t, .slice a T.args.length c] 24) (.cells #[.int .i64 k1, .int .i64 n1, .int .i64 a1, .string s1, .slice aa1 al1 ac1, .slice ta1 tl1 tc1, .slice na1 nl1 nc1] 28) (.cells #[.int .i64 k2, .int .i64 n2, .int .i64 a2, .string s2, .slice aa2 al2 ac2, .slice ta2 tl2 tc2, .slice na2 nl2 nc2] 28))
    have HG0 := Lf.hide (Lf.gbt (Lf.gbt (Lf.gb (w := W) (.cells #[.int .i64 T.t, .slice a T.args.length c] 24)) (Lf.gb (.cells #[.int .i64 k1, .int .i64 n1, .int .i64 a1, .string s1, .slice aa1 al1 ac1, .slice ta1 tl1 tc1, .slice na1 nl1 nc1] 28))) (Lf.gb (.cells #[.int .i64 k2, .int .i64 n2, .int .i64 a2, .string s2, .slice aa2 al2 ac2, .slice ta2 tl2 tc2, .slice na2 nl2 nc2] 28)))
    go_enter Try.func8, Try.ntmps8
    go_wp2_with fail
    refine (H1.out _ HG0.out).mono ?_; rintro e w1 ⟨rfl, hg⟩
    have HT1 := Lf.hide ((hg.block _ (Array.getElem?_eq_some_iff.1 HT0.out).1 (by simp)).trans HT0.out)
    have HU1 := Lf.hide ((hg.block _ (Array.getElem?_eq_some_iff.1 HU0.out).1 (by simp)).trans HU0.out)
    have HX1 := Lf.hide ((hg.block _ (Array.getElem?_eq_some_iff.1 HX0.out).1 (by simp)).trans HX0.out)
    have HG1 := Lf.hide (Lf.gbt HG0.out hg)
    have t10 := cell0_of HT1.out
    have t11 := cell1_of HT1.out
    obtain ⟨u10, u11, u12, u13, u14, u15, u16⟩ := box7 HU1.out
    obtain ⟨x10, x11, x12, x13, x14, x15, x16⟩ := box7 HX1.out
    clear hg
    go_wp2_with fail
    go_ret2
    exact ⟨rfl, HG1.out⟩
  | true =>
    cases b2 with
    | false =>
      simp only [Bool.false_eq_true, false_and, and_false, if_false]
      have HT0 := Lf.hide (heap_keep (o := (.cells #[.int .i64 k2, .int .i64 n2, .int .i64 a2, .string s2, .slice aa2 al2 ac2, .slice ta2 tl2 tc2, .slice na2 nl2 nc2] 28)) (res_new W (.cells #[.int .i64 T.t, .slice a T.args.length c] 24) (.cells #[.int .i64 k1, .int .i64 n1, .int .i64 a1, .string s1, .slice aa1 al1 ac1, .slice ta1 tl1 tc1, .slice na1 nl1 nc1] 28)))
      have HU0 := Lf.hide (new_2of3 W (.cells #[.int .i64 T.t, .slice a T.args.length c] 24) (.cells #[.int .i64 k1, .int .i64 n1, .int .i64 a1, .string s1, .slice aa1 al1 ac1, .slice ta1 tl1 tc1, .slice na1 nl1 nc1] 28) (.cells #[.int .i64 k2, .int .i64 n2, .int .i64 a2, .string s2, .slice aa2 al2 ac2, .slice ta2 tl2 tc2, .slice na2 nl2 nc2] 28))
      have HX0 := Lf.hide (new_3of3 W (.cells #[.int .i64 T.t, .slice a T.args.length c] 24) (.cells #[.int .i64 k1, .int .i64 n1, .int .i64 a1, .string s1, .slice aa1 al1 ac1, .slice ta1 tl1 tc1, .slice na1 nl1 nc1] 28) (.cells #[.int .i64 k2, .int .i64 n2, .int .i64 a2, .string s2, .slice aa2 al2 ac2, .slice ta2 tl2 tc2, .slice na2 nl2 nc2] 28))
      have HG0 := Lf.hide (Lf.gbt (Lf.gbt (Lf.gb (w := W) (.cells #[.int .i64 T.t, .slice a T.args.length c] 24)) (Lf.gb (.cells #[.int .i64 k1, .int .i64 n1, .int .i64 a1, .string s1, .slice aa1 al1 ac1, .slice ta1 tl1 tc1, .slice na1 nl1 nc1] 28))) (Lf.gb (.cells #[.int .i64 k2, .int .i64 n2, .int .i64 a2, .string s2, .slice aa2 al2 ac2, .slice ta2 tl2 tc2, .slice na2 nl2 nc2] 28)))
      go_enter Try.func8, Try.ntmps8
      go_wp2_with fail
      refine (H1.out _ HG0.out).mono ?_; rintro e w1 ⟨rfl, hg⟩
      have HT1 := Lf.hide ((hg.block _ (Array.getElem?_eq_some_iff.1 HT0.out).1 (by simp)).trans HT0.out)
      have HU1 := Lf.hide ((hg.block _ (Array.getElem?_eq_some_iff.1 HU0.out).1 (by simp)).trans HU0.out)
      have HX1 := Lf.hide ((hg.block _ (Array.getElem?_eq_some_iff.1 HX0.out).1 (by simp)).trans HX0.out)
      have HG1 := Lf.hide (Lf.gbt HG0.out hg)
      have t10 := cell0_of HT1.out
      have t11 := cell1_of HT1.out
      obtain ⟨u10, u11, u12, u13, u14, u15, u16⟩ := box7 HU1.out
      obtain ⟨x10, x11, x12, x13, x14, x15, x16⟩ := box7 HX1.out
      clear hg
      go_wp2_with fail
      refine (H2.out _ HG1.out).mono ?_; rintro e w2 ⟨rfl, hg⟩
      have HT2 := Lf.hide ((hg.block _ (Array.getElem?_eq_some_iff.1 HT1.out).1 (by simp)).trans HT1.out)
      have HU2 := Lf.hide ((hg.block _ (Array.getElem?_eq_some_iff.1 HU1.out).1 (by simp)).trans HU1.out)
      have HX2 := Lf.hide ((hg.block _ (Array.getElem?_eq_some_iff.1 HX1.out).1 (by simp)).trans HX1.out)
      have HG2 := Lf.hide (Lf.gbt HG1.out hg)
      have t20 := cell0_of HT2.out
      have t21 := cell1_of HT2.out
      obtain ⟨u20, u21, u22, u23, u24, u25, u26⟩ := box7 HU2.out
      obtain ⟨x20, x21, x22, x23, x24, x25, x26⟩ := box7 HX2.out
      clear hg
      clear t10 t11 u10 u11 u12 u13 u14 u15 u16 x10 x11 x12 x13 x14 x15 x16
      go_wp2_with fail
      go_ret2
      exact ⟨rfl, HG2.out⟩
    | true =>
      cases b3 with
      | false =>
        simp only [Bool.false_eq_true, and_false, if_false]
        have HT0 := Lf.hide (heap_keep (o := (.cells #[.int .i64 k2, .int .i64 n2, .int .i64 a2, .string s2, .slice aa2 al2 ac2, .slice ta2 tl2 tc2, .slice na2 nl2 nc2] 28)) (res_new W (.cells #[.int .i64 T.t, .slice a T.args.length c] 24) (.cells #[.int .i64 k1, .int .i64 n1, .int .i64 a1, .string s1, .slice aa1 al1 ac1, .slice ta1 tl1 tc1, .slice na1 nl1 nc1] 28)))
        have HU0 := Lf.hide (new_2of3 W (.cells #[.int .i64 T.t, .slice a T.args.length c] 24) (.cells #[.int .i64 k1, .int .i64 n1, .int .i64 a1, .string s1, .slice aa1 al1 ac1, .slice ta1 tl1 tc1, .slice na1 nl1 nc1] 28) (.cells #[.int .i64 k2, .int .i64 n2, .int .i64 a2, .string s2, .slice aa2 al2 ac2, .slice ta2 tl2 tc2, .slice na2 nl2 nc2] 28))
        have HX0 := Lf.hide (new_3of3 W (.cells #[.int .i64 T.t, .slice a T.args.length c] 24) (.cells #[.int .i64 k1, .int .i64 n1, .int .i64 a1, .string s1, .slice aa1 al1 ac1, .slice ta1 tl1 tc1, .slice na1 nl1 nc1] 28) (.cells #[.int .i64 k2, .int .i64 n2, .int .i64 a2, .string s2, .slice aa2 al2 ac2, .slice ta2 tl2 tc2, .slice na2 nl2 nc2] 28))
        have HG0 := Lf.hide (Lf.gbt (Lf.gbt (Lf.gb (w := W) (.cells #[.int .i64 T.t, .slice a T.args.length c] 24)) (Lf.gb (.cells #[.int .i64 k1, .int .i64 n1, .int .i64 a1, .string s1, .slice aa1 al1 ac1, .slice ta1 tl1 tc1, .slice na1 nl1 nc1] 28))) (Lf.gb (.cells #[.int .i64 k2, .int .i64 n2, .int .i64 a2, .string s2, .slice aa2 al2 ac2, .slice ta2 tl2 tc2, .slice na2 nl2 nc2] 28)))
        go_enter Try.func8, Try.ntmps8
        go_wp2_with fail
        refine (H1.out _ HG0.out).mono ?_; rintro e w1 ⟨rfl, hg⟩
        have HT1 := Lf.hide ((hg.block _ (Array.getElem?_eq_some_iff.1 HT0.out).1 (by simp)).trans HT0.out)
        have HU1 := Lf.hide ((hg.block _ (Array.getElem?_eq_some_iff.1 HU0.out).1 (by simp)).trans HU0.out)
        have HX1 := Lf.hide ((hg.block _ (Array.getElem?_eq_some_iff.1 HX0.out).1 (by simp)).trans HX0.out)
        have HG1 := Lf.hide (Lf.gbt HG0.out hg)
        have t10 := cell0_of HT1.out
        have t11 := cell1_of HT1.out
        obtain ⟨u10, u11, u12, u13, u14, u15, u16⟩ := box7 HU1.out
        obtain ⟨x10, x11, x12, x13, x14, x15, x16⟩ := box7 HX1.out
        clear hg
        go_wp2_with fail
        refine (H2.out _ HG1.out).mono ?_; rintro e w2 ⟨rfl, hg⟩
        have HT2 := Lf.hide ((hg.block _ (Array.getElem?_eq_some_iff.1 HT1.out).1 (by simp)).trans HT1.out)
        have HU2 := Lf.hide ((hg.block _ (Array.getElem?_eq_some_iff.1 HU1.out).1 (by simp)).trans HU1.out)
        have HX2 := Lf.hide ((hg.block _ (Array.getElem?_eq_some_iff.1 HX1.out).1 (by simp)).trans HX1.out)
        have HG2 := Lf.hide (Lf.gbt HG1.out hg)
        have t20 := cell0_of HT2.out
        have t21 := cell1_of HT2.out
        obtain ⟨u20, u21, u22, u23, u24, u25, u26⟩ := box7 HU2.out
        obtain ⟨x20, x21, x22, x23, x24, x25, x26⟩ := box7 HX2.out
        clear hg
        clear t10 t11 u10 u11 u12 u13 u14 u15 u16 x10 x11 x12 x13 x14 x15 x16
        go_wp2_with fail
        refine (H3.out trivial _ HG2.out).mono ?_; rintro e w3 ⟨rfl, hg⟩
        have HT3 := Lf.hide ((hg.block _ (Array.getElem?_eq_some_iff.1 HT2.out).1 (by simp)).trans HT2.out)
        have HU3 := Lf.hide ((hg.block _ (Array.getElem?_eq_some_iff.1 HU2.out).1 (by simp)).trans HU2.out)
        have HX3 := Lf.hide ((hg.block _ (Array.getElem?_eq_some_iff.1 HX2.out).1 (by simp)).trans HX2.out)
        have HG3 := Lf.hide (Lf.gbt HG2.out hg)
        have t30 := cell0_of HT3.out
        have t31 := cell1_of HT3.out
        obtain ⟨u30, u31, u32, u33, u34, u35, u36⟩ := box7 HU3.out
        obtain ⟨x30, x31, x32, x33, x34, x35, x36⟩ := box7 HX3.out
        clear hg
        clear t20 t21 u20 u21 u22 u23 u24 u25 u26 x20 x21 x22 x23 x24 x25 x26
        go_wp2_with fail
        go_ret2
        exact ⟨rfl, HG3.out⟩
      | true =>
        simp only [and_self, if_true]
        have HT0 := Lf.hide (heap_keep (o := (.cells #[.int .i64 k2, .int .i64 n2, .int .i64 a2, .string s2, .slice aa2 al2 ac2, .slice ta2 tl2 tc2, .slice na2 nl2 nc2] 28)) (res_new W (.cells #[.int .i64 T.t, .slice a T.args.length c] 24) (.cells #[.int .i64 k1, .int .i64 n1, .int .i64 a1, .string s1, .slice aa1 al1 ac1, .slice ta1 tl1 tc1, .slice na1 nl1 nc1] 28)))
        have HU0 := Lf.hide (new_2of3 W (.cells #[.int .i64 T.t, .slice a T.args.length c] 24) (.cells #[.int .i64 k1, .int .i64 n1, .int .i64 a1, .string s1, .slice aa1 al1 ac1, .slice ta1 tl1 tc1, .slice na1 nl1 nc1] 28) (.cells #[.int .i64 k2, .int .i64 n2, .int .i64 a2, .string s2, .slice aa2 al2 ac2, .slice ta2 tl2 tc2, .slice na2 nl2 nc2] 28))
        have HX0 := Lf.hide (new_3of3 W (.cells #[.int .i64 T.t, .slice a T.args.length c] 24) (.cells #[.int .i64 k1, .int .i64 n1, .int .i64 a1, .string s1, .slice aa1 al1 ac1, .slice ta1 tl1 tc1, .slice na1 nl1 nc1] 28) (.cells #[.int .i64 k2, .int .i64 n2, .int .i64 a2, .string s2, .slice aa2 al2 ac2, .slice ta2 tl2 tc2, .slice na2 nl2 nc2] 28))
        have HG0 := Lf.hide (Lf.gbt (Lf.gbt (Lf.gb (w := W) (.cells #[.int .i64 T.t, .slice a T.args.length c] 24)) (Lf.gb (.cells #[.int .i64 k1, .int .i64 n1, .int .i64 a1, .string s1, .slice aa1 al1 ac1, .slice ta1 tl1 tc1, .slice na1 nl1 nc1] 28))) (Lf.gb (.cells #[.int .i64 k2, .int .i64 n2, .int .i64 a2, .string s2, .slice aa2 al2 ac2, .slice ta2 tl2 tc2, .slice na2 nl2 nc2] 28)))
        go_enter Try.func8, Try.ntmps8
        go_wp2_with fail
        refine (H1.out _ HG0.out).mono ?_; rintro e w1 ⟨rfl, hg⟩
        have HT1 := Lf.hide ((hg.block _ (Array.getElem?_eq_some_iff.1 HT0.out).1 (by simp)).trans HT0.out)
        have HU1 := Lf.hide ((hg.block _ (Array.getElem?_eq_some_iff.1 HU0.out).1 (by simp)).trans HU0.out)
        have HX1 := Lf.hide ((hg.block _ (Array.getElem?_eq_some_iff.1 HX0.out).1 (by simp)).trans HX0.out)
        have HG1 := Lf.hide (Lf.gbt HG0.out hg)
        have t10 := cell0_of HT1.out
        have t11 := cell1_of HT1.out
        obtain ⟨u10, u11, u12, u13, u14, u15, u16⟩ := box7 HU1.out
        obtain ⟨x10, x11, x12, x13, x14, x15, x16⟩ := box7 HX1.out
        clear hg
        go_wp2_with fail
        refine (H2.out _ HG1.out).mono ?_; rintro e w2 ⟨rfl, hg⟩
        have HT2 := Lf.hide ((hg.block _ (Array.getElem?_eq_some_iff.1 HT1.out).1 (by simp)).trans HT1.out)
        have HU2 := Lf.hide ((hg.block _ (Array.getElem?_eq_some_iff.1 HU1.out).1 (by simp)).trans HU1.out)
        have HX2 := Lf.hide ((hg.block _ (Array.getElem?_eq_some_iff.1 HX1.out).1 (by simp)).trans HX1.out)
        have HG2 := Lf.hide (Lf.gbt HG1.out hg)
        have t20 := cell0_of HT2.out
        have t21 := cell1_of HT2.out
        obtain ⟨u20, u21, u22, u23, u24, u25, u26⟩ := box7 HU2.out
        obtain ⟨x20, x21, x22, x23, x24, x25, x26⟩ := box7 HX2.out
        clear hg
        clear t10 t11 u10 u11 u12 u13 u14 u15 u16 x10 x11 x12 x13 x14 x15 x16
        go_wp2_with fail
        refine (H3.out trivial _ HG2.out).mono ?_; rintro e w3 ⟨rfl, hg⟩
        have HT3 := Lf.hide ((hg.block _ (Array.getElem?_eq_some_iff.1 HT2.out).1 (by simp)).trans HT2.out)
        have HU3 := Lf.hide ((hg.block _ (Array.getElem?_eq_some_iff.1 HU2.out).1 (by simp)).trans HU2.out)
        have HX3 := Lf.hide ((hg.block _ (Array.getElem?_eq_some_iff.1 HX2.out).1 (by simp)).trans HX2.out)
        have HG3 := Lf.hide (Lf.gbt HG2.out hg)
        have t30 := cell0_of HT3.out
        have t31 := cell1_of HT3.out
        obtain ⟨u30, u31, u32, u33, u34, u35, u36⟩ := box7 HU3.out
        obtain ⟨x30, x31, x32, x33, x34, x35, x36⟩ := box7 HX3.out
        clear hg
        clear t20 t21 u20 u21 u22 u23 u24 u25 u26 x20 x21 x22 x23 x24 x25 x26
        go_wp2_with fail
        refine (H4.out _ HG3.out).mono ?_; rintro e w4 ⟨rfl, hg⟩
        have HT4 := Lf.hide ((hg.block _ (Array.getElem?_eq_some_iff.1 HT3.out).1 (by simp)).trans HT3.out)
        have HU4 := Lf.hide ((hg.block _ (Array.getElem?_eq_some_iff.1 HU3.out).1 (by simp)).trans HU3.out)
        have HX4 := Lf.hide ((hg.block _ (Array.getElem?_eq_some_iff.1 HX3.out).1 (by simp)).trans HX3.out)
        have HG4 := Lf.hide (Lf.gbt HG3.out hg)
        have t40 := cell0_of HT4.out
        have t41 := cell1_of HT4.out
        obtain ⟨u40, u41, u42, u43, u44, u45, u46⟩ := box7 HU4.out
        obtain ⟨x40, x41, x42, x43, x44, x45, x46⟩ := box7 HX4.out
        clear hg
        clear t30 t31 u30 u31 u32 u33 u34 u35 u36 x30 x31 x32 x33 x34 x35 x36
        go_wp2_with fail
        go_ret2
        exact ⟨rfl, HG4.out⟩

end Go.Proofs.Ytmmgihaoahhkjaa
