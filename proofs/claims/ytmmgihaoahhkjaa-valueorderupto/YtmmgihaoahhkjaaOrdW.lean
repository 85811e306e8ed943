/- ValueOrder's walk, given what Compare, Same and worth answer. -/
import Derived.Test.YtmmgihaoahhkjaaCmpV
import Derived.Test.YtmmgihaoahhkjaaValA
namespace Go.Proofs.Ytmmgihaoahhkjaa.valueOrder
open Go.ChangeShapes Go.WideShapes Go.ChangeAt Go.RowKit
set_option linter.unusedVariables false

theorem o4_0 (w : World) (o1 o2 o3 o4 : Obj) : ((((w.alloc o1).alloc o2).alloc o3).alloc o4).heap[w.heap.size]? = some o1 := heap_keep (heap_keep (res_new w o1 o2))
theorem o4_1 (w : World) (o1 o2 o3 o4 : Obj) : ((((w.alloc o1).alloc o2).alloc o3).alloc o4).heap[w.heap.size + 1]? = some o2 := heap_keep (new_2of3 w o1 o2 o3)

/-- what is answered on the way -/
structure Says (W : World) (t a b c : Value) (x e y f z g u h : Int) (q : Bool) : Prop where
  ab : ∀ W2, W.grownBy W2 none → Calls Try.prog 8 #[t, a, b] W2 fun r w' => r = .returned (.tuple #[.int .i64 x, .int .i64 e]) ∧ W2.grownBy w' none
  bc : ∀ W2, W.grownBy W2 none → Calls Try.prog 8 #[t, b, c] W2 fun r w' => r = .returned (.tuple #[.int .i64 y, .int .i64 f]) ∧ W2.grownBy w' none
  ac : ∀ W2, W.grownBy W2 none → Calls Try.prog 8 #[t, a, c] W2 fun r w' => r = .returned (.tuple #[.int .i64 z, .int .i64 g]) ∧ W2.grownBy w' none
  ba : ∀ W2, W.grownBy W2 none → Calls Try.prog 8 #[t, b, a] W2 fun r w' => r = .returned (.tuple #[.int .i64 u, .int .i64 h]) ∧ W2.grownBy w' none
  sa : e = 0 → ∀ W2, W.grownBy W2 none → Calls Try.prog 14 #[a, b] W2 fun r w' => r = .returned (.bool q) ∧ W2.grownBy w' none
  wo : ∀ W2, W.grownBy W2 none → Calls Try.prog 17 #[] W2 fun r w' => r = .returned (.bool true) ∧ W2.grownBy w' none

set_option maxRecDepth 100000 in
set_option maxHeartbeats 4000000 in
theorem no1 {W : World} {tt : Int} {ta : Option Addr} {tn tc : Nat} {k1 n1 d1 k2 n2 d2 k3 n3 d3 : Int} {s1 s2 s3 : ByteArray} {pa1 qa1 ra1 pa2 qa2 ra2 pa3 qa3 ra3 : Option Addr} {pl1 pc1 ql1 qc1 rl1 rc1 pl2 pc2 ql2 qc2 rl2 rc2 pl3 pc3 ql3 qc3 rl3 rc3 : Nat} {x e y f z g u h : Int} {q : Bool} (he : e = 5) (hs : Says W (.agg #[.int .i64 tt, .slice ta tn tc]) (.agg #[.int .i64 k1, .int .i64 n1, .int .i64 d1, .string s1, .slice pa1 pl1 pc1, .slice qa1 ql1 qc1, .slice ra1 rl1 rc1]) (.agg #[.int .i64 k2, .int .i64 n2, .int .i64 d2, .string s2, .slice pa2 pl2 pc2, .slice qa2 ql2 qc2, .slice ra2 rl2 rc2]) (.agg #[.int .i64 k3, .int .i64 n3, .int .i64 d3, .string s3, .slice pa3 pl3 pc3, .slice qa3 ql3 qc3, .slice ra3 rl3 rc3]) x e y f z g u h q) :
    Calls Try.prog 4 #[(.agg #[.int .i64 tt, .slice ta tn tc]), (.agg #[.int .i64 k1, .int .i64 n1, .int .i64 d1, .string s1, .slice pa1 pl1 pc1, .slice qa1 ql1 qc1, .slice ra1 rl1 rc1]), (.agg #[.int .i64 k2, .int .i64 n2, .int .i64 d2, .string s2, .slice pa2 pl2 pc2, .slice qa2 ql2 qc2, .slice ra2 rl2 rc2]), (.agg #[.int .i64 k3, .int .i64 n3, .int .i64 d3, .string s3, .slice pa3 pl3 pc3, .slice qa3 ql3 qc3, .slice ra3 rl3 rc3])] W fun e w' => e = .returned (.bool true) ∧ W.grownBy w' none := by
  have HS := Lf.hide hs
  clear hs
  subst he
  have HB00 := Lf.hide (o4_0 W (.cells #[.int .i64 tt, .slice ta tn tc] 24) (.cells #[.int .i64 k1, .int .i64 n1, .int .i64 d1, .string s1, .slice pa1 pl1 pc1, .slice qa1 ql1 qc1, .slice ra1 rl1 rc1] 28) (.cells #[.int .i64 k2, .int .i64 n2, .int .i64 d2, .string s2, .slice pa2 pl2 pc2, .slice qa2 ql2 qc2, .slice ra2 rl2 rc2] 28) (.cells #[.int .i64 k3, .int .i64 n3, .int .i64 d3, .string s3, .slice pa3 pl3 pc3, .slice qa3 ql3 qc3, .slice ra3 rl3 rc3] 28))
  have HB10 := Lf.hide (o4_1 W (.cells #[.int .i64 tt, .slice ta tn tc] 24) (.cells #[.int .i64 k1, .int .i64 n1, .int .i64 d1, .string s1, .slice pa1 pl1 pc1, .slice qa1 ql1 qc1, .slice ra1 rl1 rc1] 28) (.cells #[.int .i64 k2, .int .i64 n2, .int .i64 d2, .string s2, .slice pa2 pl2 pc2, .slice qa2 ql2 qc2, .slice ra2 rl2 rc2] 28) (.cells #[.int .i64 k3, .int .i64 n3, .int .i64 d3, .string s3, .slice pa3 pl3 pc3, .slice qa3 ql3 qc3, .slice ra3 rl3 rc3] 28))
  have HB20 := Lf.hide (new_3of4 W (.cells #[.int .i64 tt, .slice ta tn tc] 24) (.cells #[.int .i64 k1, .int .i64 n1, .int .i64 d1, .string s1, .slice pa1 pl1 pc1, .slice qa1 ql1 qc1, .slice ra1 rl1 rc1] 28) (.cells #[.int .i64 k2, .int .i64 n2, .int .i64 d2, .string s2, .slice pa2 pl2 pc2, .slice qa2 ql2 qc2, .slice ra2 rl2 rc2] 28) (.cells #[.int .i64 k3, .int .i64 n3, .int .i64 d3, .string s3, .slice pa3 pl3 pc3, .slice qa3 ql3 qc3, .slice ra3 rl3 rc3] 28))
  have HB30 := Lf.hide (new_4of4 W (.cells #[.int .i64 tt, .slice ta tn tc] 24) (.cells #[.int .i64 k1, .int .i64 n1, .int .i64 d1, .string s1, .slice pa1 pl1 pc1, .slice qa1 ql1 qc1, .slice ra1 rl1 rc1] 28) (.cells #[.int .i64 k2, .int .i64 n2, .int .i64 d2, .string s2, .slice pa2 pl2 pc2, .slice qa2 ql2 qc2, .slice ra2 rl2 rc2] 28) (.cells #[.int .i64 k3, .int .i64 n3, .int .i64 d3, .string s3, .slice pa3 pl3 pc3, .slice qa3 ql3 qc3, .slice ra3 rl3 rc3] 28))
  have HG0 := Lf.hide (Lf.gbt (Lf.gbt (Lf.gbt (Lf.gb (w := W) (.cells #[.int .i64 tt, .slice ta tn tc] 24)) (Lf.gb (.cells #[.int .i64 k1, .int .i64 n1, .int .i64 d1, .string s1, .slice pa1 pl1 pc1, .slice qa1 ql1 qc1, .slice ra1 rl1 rc1] 28))) (Lf.gb (.cells #[.int .i64 k2, .int .i64 n2, .int .i64 d2, .string s2, .slice pa2 pl2 pc2, .slice qa2 ql2 qc2, .slice ra2 rl2 rc2] 28))) (Lf.gb (.cells #[.int .i64 k3, .int .i64 n3, .int .i64 d3, .string s3, .slice pa3 pl3 pc3, .slice qa3 ql3 qc3, .slice ra3 rl3 rc3] 28)))
  go_enter Try.func4, Try.ntmps4
  go_wp2_with fail
  refine (HS.out.ab _ HG0.out).mono ?_; rintro e w1 ⟨rfl, hg⟩
  have HB01 := Lf.hide ((hg.block _ (Array.getElem?_eq_some_iff.1 HB00.out).1 (by simp)).trans HB00.out)
  have HB11 := Lf.hide ((hg.block _ (Array.getElem?_eq_some_iff.1 HB10.out).1 (by simp)).trans HB10.out)
  have HB21 := Lf.hide ((hg.block _ (Array.getElem?_eq_some_iff.1 HB20.out).1 (by simp)).trans HB20.out)
  have HB31 := Lf.hide ((hg.block _ (Array.getElem?_eq_some_iff.1 HB30.out).1 (by simp)).trans HB30.out)
  have HG1 := Lf.hide (Lf.gbt HG0.out hg)
  have t10 := cell0_of HB01.out
  have t11 := cell1_of HB01.out
  obtain ⟨v110, v111, v112, v113, v114, v115, v116⟩ := box7 HB11.out
  obtain ⟨v210, v211, v212, v213, v214, v215, v216⟩ := box7 HB21.out
  obtain ⟨v310, v311, v312, v313, v314, v315, v316⟩ := box7 HB31.out
  clear hg
  go_wp2_with fail
  refine (HS.out.bc _ HG1.out).mono ?_; rintro e w2 ⟨rfl, hg⟩
  have HB02 := Lf.hide ((hg.block _ (Array.getElem?_eq_some_iff.1 HB01.out).1 (by simp)).trans HB01.out)
  have HB12 := Lf.hide ((hg.block _ (Array.getElem?_eq_some_iff.1 HB11.out).1 (by simp)).trans HB11.out)
  have HB22 := Lf.hide ((hg.block _ (Array.getElem?_eq_some_iff.1 HB21.out).1 (by simp)).trans HB21.out)
  have HB32 := Lf.hide ((hg.block _ (Array.getElem?_eq_some_iff.1 HB31.out).1 (by simp)).trans HB31.out)
  have HG2 := Lf.hide (Lf.gbt HG1.out hg)
  have t20 := cell0_of HB02.out
  have t21 := cell1_of HB02.out
  obtain ⟨v120, v121, v122, v123, v124, v125, v126⟩ := box7 HB12.out
  obtain ⟨v220, v221, v222, v223, v224, v225, v226⟩ := box7 HB22.out
  obtain ⟨v320, v321, v322, v323, v324, v325, v326⟩ := box7 HB32.out
  clear hg
  clear t10 t11 v110 v111 v112 v113 v114 v115 v116 v210 v211 v212 v213 v214 v215 v216 v310 v311 v312 v313 v314 v315 v316
  go_wp2_with fail
  refine (HS.out.ac _ HG2.out).mono ?_; rintro e w3 ⟨rfl, hg⟩
  have HB03 := Lf.hide ((hg.block _ (Array.getElem?_eq_some_iff.1 HB02.out).1 (by simp)).trans HB02.out)
  have HB13 := Lf.hide ((hg.block _ (Array.getElem?_eq_some_iff.1 HB12.out).1 (by simp)).trans HB12.out)
  have HB23 := Lf.hide ((hg.block _ (Array.getElem?_eq_some_iff.1 HB22.out).1 (by simp)).trans HB22.out)
  have HB33 := Lf.hide ((hg.block _ (Array.getElem?_eq_some_iff.1 HB32.out).1 (by simp)).trans HB32.out)
  have HG3 := Lf.hide (Lf.gbt HG2.out hg)
  have t30 := cell0_of HB03.out
  have t31 := cell1_of HB03.out
  obtain ⟨v130, v131, v132, v133, v134, v135, v136⟩ := box7 HB13.out
  obtain ⟨v230, v231, v232, v233, v234, v235, v236⟩ := box7 HB23.out
  obtain ⟨v330, v331, v332, v333, v334, v335, v336⟩ := box7 HB33.out
  clear hg
  clear t20 t21 v120 v121 v122 v123 v124 v125 v126 v220 v221 v222 v223 v224 v225 v226 v320 v321 v322 v323 v324 v325 v326
  go_wp2_with fail
  refine (HS.out.ba _ HG3.out).mono ?_; rintro e w4 ⟨rfl, hg⟩
  have HB04 := Lf.hide ((hg.block _ (Array.getElem?_eq_some_iff.1 HB03.out).1 (by simp)).trans HB03.out)
  have HB14 := Lf.hide ((hg.block _ (Array.getElem?_eq_some_iff.1 HB13.out).1 (by simp)).trans HB13.out)
  have HB24 := Lf.hide ((hg.block _ (Array.getElem?_eq_some_iff.1 HB23.out).1 (by simp)).trans HB23.out)
  have HB34 := Lf.hide ((hg.block _ (Array.getElem?_eq_some_iff.1 HB33.out).1 (by simp)).trans HB33.out)
  have HG4 := Lf.hide (Lf.gbt HG3.out hg)
  have t40 := cell0_of HB04.out
  have t41 := cell1_of HB04.out
  obtain ⟨v140, v141, v142, v143, v144, v145, v146⟩ := box7 HB14.out
  obtain ⟨v240, v241, v242, v243, v244, v245, v246⟩ := box7 HB24.out
  obtain ⟨v340, v341, v342, v343, v344, v345, v346⟩ := box7 HB34.out
  clear hg
  clear t30 t31 v130 v131 v132 v133 v134 v135 v136 v230 v231 v232 v233 v234 v235 v236 v330 v331 v332 v333 v334 v335 v336
  go_wp2_with fail
  refine (HS.out.wo _ HG4.out).mono ?_; rintro e w9 ⟨rfl, hg⟩
  have HG9 := Lf.hide (Lf.gbt HG4.out hg)
  clear hg
  go_wp2_with fail
  go_ret
  exact ⟨rfl, HG9.out⟩

set_option maxRecDepth 100000 in
set_option maxHeartbeats 4000000 in
theorem no2 {W : World} {tt : Int} {ta : Option Addr} {tn tc : Nat} {k1 n1 d1 k2 n2 d2 k3 n3 d3 : Int} {s1 s2 s3 : ByteArray} {pa1 qa1 ra1 pa2 qa2 ra2 pa3 qa3 ra3 : Option Addr} {pl1 pc1 ql1 qc1 rl1 rc1 pl2 pc2 ql2 qc2 rl2 rc2 pl3 pc3 ql3 qc3 rl3 rc3 : Nat} {x y f z g u h : Int} {q : Bool} (hf : f = 5) (hs : Says W (.agg #[.int .i64 tt, .slice ta tn tc]) (.agg #[.int .i64 k1, .int .i64 n1, .int .i64 d1, .string s1, .slice pa1 pl1 pc1, .slice qa1 ql1 qc1, .slice ra1 rl1 rc1]) (.agg #[.int .i64 k2, .int .i64 n2, .int .i64 d2, .string s2, .slice pa2 pl2 pc2, .slice qa2 ql2 qc2, .slice ra2 rl2 rc2]) (.agg #[.int .i64 k3, .int .i64 n3, .int .i64 d3, .string s3, .slice pa3 pl3 pc3, .slice qa3 ql3 qc3, .slice ra3 rl3 rc3]) x 0 y f z g u h q) :
    Calls Try.prog 4 #[(.agg #[.int .i64 tt, .slice ta tn tc]), (.agg #[.int .i64 k1, .int .i64 n1, .int .i64 d1, .string s1, .slice pa1 pl1 pc1, .slice qa1 ql1 qc1, .slice ra1 rl1 rc1]), (.agg #[.int .i64 k2, .int .i64 n2, .int .i64 d2, .string s2, .slice pa2 pl2 pc2, .slice qa2 ql2 qc2, .slice ra2 rl2 rc2]), (.agg #[.int .i64 k3, .int .i64 n3, .int .i64 d3, .string s3, .slice pa3 pl3 pc3, .slice qa3 ql3 qc3, .slice ra3 rl3 rc3])] W fun e w' => e = .returned (.bool true) ∧ W.grownBy w' none := by
  have HS := Lf.hide hs
  clear hs
  subst hf
  have HB00 := Lf.hide (o4_0 W (.cells #[.int .i64 tt, .slice ta tn tc] 24) (.cells #[.int .i64 k1, .int .i64 n1, .int .i64 d1, .string s1, .slice pa1 pl1 pc1, .slice qa1 ql1 qc1, .slice ra1 rl1 rc1] 28) (.cells #[.int .i64 k2, .int .i64 n2, .int .i64 d2, .string s2, .slice pa2 pl2 pc2, .slice qa2 ql2 qc2, .slice ra2 rl2 rc2] 28) (.cells #[.int .i64 k3, .int .i64 n3, .int .i64 d3, .string s3, .slice pa3 pl3 pc3, .slice qa3 ql3 qc3, .slice ra3 rl3 rc3] 28))
  have HB10 := Lf.hide (o4_1 W (.cells #[.int .i64 tt, .slice ta tn tc] 24) (.cells #[.int .i64 k1, .int .i64 n1, .int .i64 d1, .string s1, .slice pa1 pl1 pc1, .slice qa1 ql1 qc1, .slice ra1 rl1 rc1] 28) (.cells #[.int .i64 k2, .int .i64 n2, .int .i64 d2, .string s2, .slice pa2 pl2 pc2, .slice qa2 ql2 qc2, .slice ra2 rl2 rc2] 28) (.cells #[.int .i64 k3, .int .i64 n3, .int .i64 d3, .string s3, .slice pa3 pl3 pc3, .slice qa3 ql3 qc3, .slice ra3 rl3 rc3] 28))
  have HB20 := Lf.hide (new_3of4 W (.cells #[.int .i64 tt, .slice ta tn tc] 24) (.cells #[.int .i64 k1, .int .i64 n1, .int .i64 d1, .string s1, .slice pa1 pl1 pc1, .slice qa1 ql1 qc1, .slice ra1 rl1 rc1] 28) (.cells #[.int .i64 k2, .int .i64 n2, .int .i64 d2, .string s2, .slice pa2 pl2 pc2, .slice qa2 ql2 qc2, .slice ra2 rl2 rc2] 28) (.cells #[.int .i64 k3, .int .i64 n3, .int .i64 d3, .string s3, .slice pa3 pl3 pc3, .slice qa3 ql3 qc3, .slice ra3 rl3 rc3] 28))
  have HB30 := Lf.hide (new_4of4 W (.cells #[.int .i64 tt, .slice ta tn tc] 24) (.cells #[.int .i64 k1, .int .i64 n1, .int .i64 d1, .string s1, .slice pa1 pl1 pc1, .slice qa1 ql1 qc1, .slice ra1 rl1 rc1] 28) (.cells #[.int .i64 k2, .int .i64 n2, .int .i64 d2, .string s2, .slice pa2 pl2 pc2, .slice qa2 ql2 qc2, .slice ra2 rl2 rc2] 28) (.cells #[.int .i64 k3, .int .i64 n3, .int .i64 d3, .string s3, .slice pa3 pl3 pc3, .slice qa3 ql3 qc3, .slice ra3 rl3 rc3] 28))
  have HG0 := Lf.hide (Lf.gbt (Lf.gbt (Lf.gbt (Lf.gb (w := W) (.cells #[.int .i64 tt, .slice ta tn tc] 24)) (Lf.gb (.cells #[.int .i64 k1, .int .i64 n1, .int .i64 d1, .string s1, .slice pa1 pl1 pc1, .slice qa1 ql1 qc1, .slice ra1 rl1 rc1] 28))) (Lf.gb (.cells #[.int .i64 k2, .int .i64 n2, .int .i64 d2, .string s2, .slice pa2 pl2 pc2, .slice qa2 ql2 qc2, .slice ra2 rl2 rc2] 28))) (Lf.gb (.cells #[.int .i64 k3, .int .i64 n3, .int .i64 d3, .string s3, .slice pa3 pl3 pc3, .slice qa3 ql3 qc3, .slice ra3 rl3 rc3] 28)))
  go_enter Try.func4, Try.ntmps4
  go_wp2_with fail
  refine (HS.out.ab _ HG0.out).mono ?_; rintro e w1 ⟨rfl, hg⟩
  have HB01 := Lf.hide ((hg.block _ (Array.getElem?_eq_some_iff.1 HB00.out).1 (by simp)).trans HB00.out)
  have HB11 := Lf.hide ((hg.block _ (Array.getElem?_eq_some_iff.1 HB10.out).1 (by simp)).trans HB10.out)
  have HB21 := Lf.hide ((hg.block _ (Array.getElem?_eq_some_iff.1 HB20.out).1 (by simp)).trans HB20.out)
  have HB31 := Lf.hide ((hg.block _ (Array.getElem?_eq_some_iff.1 HB30.out).1 (by simp)).trans HB30.out)
  have HG1 := Lf.hide (Lf.gbt HG0.out hg)
  have t10 := cell0_of HB01.out
  have t11 := cell1_of HB01.out
  obtain ⟨v110, v111, v112, v113, v114, v115, v116⟩ := box7 HB11.out
  obtain ⟨v210, v211, v212, v213, v214, v215, v216⟩ := box7 HB21.out
  obtain ⟨v310, v311, v312, v313, v314, v315, v316⟩ := box7 HB31.out
  clear hg
  go_wp2_with fail
  refine (HS.out.bc _ HG1.out).mono ?_; rintro e w2 ⟨rfl, hg⟩
  have HB02 := Lf.hide ((hg.block _ (Array.getElem?_eq_some_iff.1 HB01.out).1 (by simp)).trans HB01.out)
  have HB12 := Lf.hide ((hg.block _ (Array.getElem?_eq_some_iff.1 HB11.out).1 (by simp)).trans HB11.out)
  have HB22 := Lf.hide ((hg.block _ (Array.getElem?_eq_some_iff.1 HB21.out).1 (by simp)).trans HB21.out)
  have HB32 := Lf.hide ((hg.block _ (Array.getElem?_eq_some_iff.1 HB31.out).1 (by simp)).trans HB31.out)
  have HG2 := Lf.hide (Lf.gbt HG1.out hg)
  have t20 := cell0_of HB02.out
  have t21 := cell1_of HB02.out
  obtain ⟨v120, v121, v122, v123, v124, v125, v126⟩ := box7 HB12.out
  obtain ⟨v220, v221, v222, v223, v224, v225, v226⟩ := box7 HB22.out
  obtain ⟨v320, v321, v322, v323, v324, v325, v326⟩ := box7 HB32.out
  clear hg
  clear t10 t11 v110 v111 v112 v113 v114 v115 v116 v210 v211 v212 v213 v214 v215 v216 v310 v311 v312 v313 v314 v315 v316
  go_wp2_with fail
  refine (HS.out.ac _ HG2.out).mono ?_; rintro e w3 ⟨rfl, hg⟩
  have HB03 := Lf.hide ((hg.block _ (Array.getElem?_eq_some_iff.1 HB02.out).1 (by simp)).trans HB02.out)
  have HB13 := Lf.hide ((hg.block _ (Array.getElem?_eq_some_iff.1 HB12.out).1 (by simp)).trans HB12.out)
  have HB23 := Lf.hide ((hg.block _ (Array.getElem?_eq_some_iff.1 HB22.out).1 (by simp)).trans HB22.out)
  have HB33 := Lf.hide ((hg.block _ (Array.getElem?_eq_some_iff.1 HB32.out).1 (by simp)).trans HB32.out)
  have HG3 := Lf.hide (Lf.gbt HG2.out hg)
  have t30 := cell0_of HB03.out
  have t31 := cell1_of HB03.out
  obtain ⟨v130, v131, v132, v133, v134, v135, v136⟩ := box7 HB13.out
  obtain ⟨v230, v231, v232, v233, v234, v235, v236⟩ := box7 HB23.out
  obtain ⟨v330, v331, v332, v333, v334, v335, v336⟩ := box7 HB33.out
  clear hg
  clear t20 t21 v120 v121 v122 v123 v124 v125 v126 v220 v221 v222 v223 v224 v225 v226 v320 v321 v322 v323 v324 v325 v326
  go_wp2_with fail
  refine (HS.out.ba _ HG3.out).mono ?_; rintro e w4 ⟨rfl, hg⟩
  have HB04 := Lf.hide ((hg.block _ (Array.getElem?_eq_some_iff.1 HB03.out).1 (by simp)).trans HB03.out)
  have HB14 := Lf.hide ((hg.block _ (Array.getElem?_eq_some_iff.1 HB13.out).1 (by simp)).trans HB13.out)
  have HB24 := Lf.hide ((hg.block _ (Array.getElem?_eq_some_iff.1 HB23.out).1 (by simp)).trans HB23.out)
  have HB34 := Lf.hide ((hg.block _ (Array.getElem?_eq_some_iff.1 HB33.out).1 (by simp)).trans HB33.out)
  have HG4 := Lf.hide (Lf.gbt HG3.out hg)
  have t40 := cell0_of HB04.out
  have t41 := cell1_of HB04.out
  obtain ⟨v140, v141, v142, v143, v144, v145, v146⟩ := box7 HB14.out
  obtain ⟨v240, v241, v242, v243, v244, v245, v246⟩ := box7 HB24.out
  obtain ⟨v340, v341, v342, v343, v344, v345, v346⟩ := box7 HB34.out
  clear hg
  clear t30 t31 v130 v131 v132 v133 v134 v135 v136 v230 v231 v232 v233 v234 v235 v236 v330 v331 v332 v333 v334 v335 v336
  go_wp2_with fail
  refine (HS.out.wo _ HG4.out).mono ?_; rintro e w9 ⟨rfl, hg⟩
  have HG9 := Lf.hide (Lf.gbt HG4.out hg)
  clear hg
  go_wp2_with fail
  go_ret
  exact ⟨rfl, HG9.out⟩

set_option maxRecDepth 100000 in
set_option maxHeartbeats 4000000 in
theorem ok_eq {W : World} {tt : Int} {ta : Option Addr} {tn tc : Nat} {k1 n1 d1 k2 n2 d2 k3 n3 d3 : Int} {s1 s2 s3 : ByteArray} {pa1 qa1 ra1 pa2 qa2 ra2 pa3 qa3 ra3 : Option Addr} {pl1 pc1 ql1 qc1 rl1 rc1 pl2 pc2 ql2 qc2 rl2 rc2 pl3 pc3 ql3 qc3 rl3 rc3 : Nat} {y z : Int} (hy : Sgn y) (hz : Sgn z) (h3 : On3 0 y z) (hs : Says W (.agg #[.int .i64 tt, .slice ta tn tc]) (.agg #[.int .i64 k1, .int .i64 n1, .int .i64 d1, .string s1, .slice pa1 pl1 pc1, .slice qa1 ql1 qc1, .slice ra1 rl1 rc1]) (.agg #[.int .i64 k2, .int .i64 n2, .int .i64 d2, .string s2, .slice pa2 pl2 pc2, .slice qa2 ql2 qc2, .slice ra2 rl2 rc2]) (.agg #[.int .i64 k3, .int .i64 n3, .int .i64 d3, .string s3, .slice pa3 pl3 pc3, .slice qa3 ql3 qc3, .slice ra3 rl3 rc3]) 0 0 y 0 z 0 0 0 true) :
    Calls Try.prog 4 #[(.agg #[.int .i64 tt, .slice ta tn tc]), (.agg #[.int .i64 k1, .int .i64 n1, .int .i64 d1, .string s1, .slice pa1 pl1 pc1, .slice qa1 ql1 qc1, .slice ra1 rl1 rc1]), (.agg #[.int .i64 k2, .int .i64 n2, .int .i64 d2, .string s2, .slice pa2 pl2 pc2, .slice qa2 ql2 qc2, .slice ra2 rl2 rc2]), (.agg #[.int .i64 k3, .int .i64 n3, .int .i64 d3, .string s3, .slice pa3 pl3 pc3, .slice qa3 ql3 qc3, .slice ra3 rl3 rc3])] W fun e w' => e = .returned (.bool true) ∧ W.grownBy w' none := by
  have HS := Lf.hide hs
  clear hs
  have HZ := Lf.hide h3
  clear h3
  have HB00 := Lf.hide (o4_0 W (.cells #[.int .i64 tt, .slice ta tn tc] 24) (.cells #[.int .i64 k1, .int .i64 n1, .int .i64 d1, .string s1, .slice pa1 pl1 pc1, .slice qa1 ql1 qc1, .slice ra1 rl1 rc1] 28) (.cells #[.int .i64 k2, .int .i64 n2, .int .i64 d2, .string s2, .slice pa2 pl2 pc2, .slice qa2 ql2 qc2, .slice ra2 rl2 rc2] 28) (.cells #[.int .i64 k3, .int .i64 n3, .int .i64 d3, .string s3, .slice pa3 pl3 pc3, .slice qa3 ql3 qc3, .slice ra3 rl3 rc3] 28))
  have HB10 := Lf.hide (o4_1 W (.cells #[.int .i64 tt, .slice ta tn tc] 24) (.cells #[.int .i64 k1, .int .i64 n1, .int .i64 d1, .string s1, .slice pa1 pl1 pc1, .slice qa1 ql1 qc1, .slice ra1 rl1 rc1] 28) (.cells #[.int .i64 k2, .int .i64 n2, .int .i64 d2, .string s2, .slice pa2 pl2 pc2, .slice qa2 ql2 qc2, .slice ra2 rl2 rc2] 28) (.cells #[.int .i64 k3, .int .i64 n3, .int .i64 d3, .string s3, .slice pa3 pl3 pc3, .slice qa3 ql3 qc3, .slice ra3 rl3 rc3] 28))
  have HB20 := Lf.hide (new_3of4 W (.cells #[.int .i64 tt, .slice ta tn tc] 24) (.cells #[.int .i64 k1, .int .i64 n1, .int .i64 d1, .string s1, .slice pa1 pl1 pc1, .slice qa1 ql1 qc1, .slice ra1 rl1 rc1] 28) (.cells #[.int .i64 k2, .int .i64 n2, .int .i64 d2, .string s2, .slice pa2 pl2 pc2, .slice qa2 ql2 qc2, .slice ra2 rl2 rc2] 28) (.cells #[.int .i64 k3, .int .i64 n3, .int .i64 d3, .string s3, .slice pa3 pl3 pc3, .slice qa3 ql3 qc3, .slice ra3 rl3 rc3] 28))
  have HB30 := Lf.hide (new_4of4 W (.cells #[.int .i64 tt, .slice ta tn tc] 24) (.cells #[.int .i64 k1, .int .i64 n1, .int .i64 d1, .string s1, .slice pa1 pl1 pc1, .slice qa1 ql1 qc1, .slice ra1 rl1 rc1] 28) (.cells #[.int .i64 k2, .int .i64 n2, .int .i64 d2, .string s2, .slice pa2 pl2 pc2, .slice qa2 ql2 qc2, .slice ra2 rl2 rc2] 28) (.cells #[.int .i64 k3, .int .i64 n3, .int .i64 d3, .string s3, .slice pa3 pl3 pc3, .slice qa3 ql3 qc3, .slice ra3 rl3 rc3] 28))
  have HG0 := Lf.hide (Lf.gbt (Lf.gbt (Lf.gbt (Lf.gb (w := W) (.cells #[.int .i64 tt, .slice ta tn tc] 24)) (Lf.gb (.cells #[.int .i64 k1, .int .i64 n1, .int .i64 d1, .string s1, .slice pa1 pl1 pc1, .slice qa1 ql1 qc1, .slice ra1 rl1 rc1] 28))) (Lf.gb (.cells #[.int .i64 k2, .int .i64 n2, .int .i64 d2, .string s2, .slice pa2 pl2 pc2, .slice qa2 ql2 qc2, .slice ra2 rl2 rc2] 28))) (Lf.gb (.cells #[.int .i64 k3, .int .i64 n3, .int .i64 d3, .string s3, .slice pa3 pl3 pc3, .slice qa3 ql3 qc3, .slice ra3 rl3 rc3] 28)))
  go_enter Try.func4, Try.ntmps4
  go_wp2_with fail
  refine (HS.out.ab _ HG0.out).mono ?_; rintro e w1 ⟨rfl, hg⟩
  have HB01 := Lf.hide ((hg.block _ (Array.getElem?_eq_some_iff.1 HB00.out).1 (by simp)).trans HB00.out)
  have HB11 := Lf.hide ((hg.block _ (Array.getElem?_eq_some_iff.1 HB10.out).1 (by simp)).trans HB10.out)
  have HB21 := Lf.hide ((hg.block _ (Array.getElem?_eq_some_iff.1 HB20.out).1 (by simp)).trans HB20.out)
  have HB31 := Lf.hide ((hg.block _ (Array.getElem?_eq_some_iff.1 HB30.out).1 (by simp)).trans HB30.out)
  have HG1 := Lf.hide (Lf.gbt HG0.out hg)
  have t10 := cell0_of HB01.out
  have t11 := cell1_of HB01.out
  obtain ⟨v110, v111, v112, v113, v114, v115, v116⟩ := box7 HB11.out
  obtain ⟨v210, v211, v212, v213, v214, v215, v216⟩ := box7 HB21.out
  obtain ⟨v310, v311, v312, v313, v314, v315, v316⟩ := box7 HB31.out
  clear hg
  go_wp2_with fail
  refine (HS.out.bc _ HG1.out).mono ?_; rintro e w2 ⟨rfl, hg⟩
  have HB02 := Lf.hide ((hg.block _ (Array.getElem?_eq_some_iff.1 HB01.out).1 (by simp)).trans HB01.out)
  have HB12 := Lf.hide ((hg.block _ (Array.getElem?_eq_some_iff.1 HB11.out).1 (by simp)).trans HB11.out)
  have HB22 := Lf.hide ((hg.block _ (Array.getElem?_eq_some_iff.1 HB21.out).1 (by simp)).trans HB21.out)
  have HB32 := Lf.hide ((hg.block _ (Array.getElem?_eq_some_iff.1 HB31.out).1 (by simp)).trans HB31.out)
  have HG2 := Lf.hide (Lf.gbt HG1.out hg)
  have t20 := cell0_of HB02.out
  have t21 := cell1_of HB02.out
  obtain ⟨v120, v121, v122, v123, v124, v125, v126⟩ := box7 HB12.out
  obtain ⟨v220, v221, v222, v223, v224, v225, v226⟩ := box7 HB22.out
  obtain ⟨v320, v321, v322, v323, v324, v325, v326⟩ := box7 HB32.out
  clear hg
  clear t10 t11 v110 v111 v112 v113 v114 v115 v116 v210 v211 v212 v213 v214 v215 v216 v310 v311 v312 v313 v314 v315 v316
  go_wp2_with fail
  refine (HS.out.ac _ HG2.out).mono ?_; rintro e w3 ⟨rfl, hg⟩
  have HB03 := Lf.hide ((hg.block _ (Array.getElem?_eq_some_iff.1 HB02.out).1 (by simp)).trans HB02.out)
  have HB13 := Lf.hide ((hg.block _ (Array.getElem?_eq_some_iff.1 HB12.out).1 (by simp)).trans HB12.out)
  have HB23 := Lf.hide ((hg.block _ (Array.getElem?_eq_some_iff.1 HB22.out).1 (by simp)).trans HB22.out)
  have HB33 := Lf.hide ((hg.block _ (Array.getElem?_eq_some_iff.1 HB32.out).1 (by simp)).trans HB32.out)
  have HG3 := Lf.hide (Lf.gbt HG2.out hg)
  have t30 := cell0_of HB03.out
  have t31 := cell1_of HB03.out
  obtain ⟨v130, v131, v132, v133, v134, v135, v136⟩ := box7 HB13.out
  obtain ⟨v230, v231, v232, v233, v234, v235, v236⟩ := box7 HB23.out
  obtain ⟨v330, v331, v332, v333, v334, v335, v336⟩ := box7 HB33.out
  clear hg
  clear t20 t21 v120 v121 v122 v123 v124 v125 v126 v220 v221 v222 v223 v224 v225 v226 v320 v321 v322 v323 v324 v325 v326
  go_wp2_with fail
  refine (HS.out.ba _ HG3.out).mono ?_; rintro e w4 ⟨rfl, hg⟩
  have HB04 := Lf.hide ((hg.block _ (Array.getElem?_eq_some_iff.1 HB03.out).1 (by simp)).trans HB03.out)
  have HB14 := Lf.hide ((hg.block _ (Array.getElem?_eq_some_iff.1 HB13.out).1 (by simp)).trans HB13.out)
  have HB24 := Lf.hide ((hg.block _ (Array.getElem?_eq_some_iff.1 HB23.out).1 (by simp)).trans HB23.out)
  have HB34 := Lf.hide ((hg.block _ (Array.getElem?_eq_some_iff.1 HB33.out).1 (by simp)).trans HB33.out)
  have HG4 := Lf.hide (Lf.gbt HG3.out hg)
  have t40 := cell0_of HB04.out
  have t41 := cell1_of HB04.out
  obtain ⟨v140, v141, v142, v143, v144, v145, v146⟩ := box7 HB14.out
  obtain ⟨v240, v241, v242, v243, v244, v245, v246⟩ := box7 HB24.out
  obtain ⟨v340, v341, v342, v343, v344, v345, v346⟩ := box7 HB34.out
  clear hg
  clear t30 t31 v130 v131 v132 v133 v134 v135 v136 v230 v231 v232 v233 v234 v235 v236 v330 v331 v332 v333 v334 v335 v336
  go_wp2_with fail
  refine (HS.out.sa rfl _ HG4.out).mono ?_; rintro e w5 ⟨rfl, hg⟩
  have HB05 := Lf.hide ((hg.block _ (Array.getElem?_eq_some_iff.1 HB04.out).1 (by simp)).trans HB04.out)
  have HB15 := Lf.hide ((hg.block _ (Array.getElem?_eq_some_iff.1 HB14.out).1 (by simp)).trans HB14.out)
  have HB25 := Lf.hide ((hg.block _ (Array.getElem?_eq_some_iff.1 HB24.out).1 (by simp)).trans HB24.out)
  have HB35 := Lf.hide ((hg.block _ (Array.getElem?_eq_some_iff.1 HB34.out).1 (by simp)).trans HB34.out)
  have HG5 := Lf.hide (Lf.gbt HG4.out hg)
  clear hg
  clear t40 t41 v140 v141 v142 v143 v144 v145 v146 v240 v241 v242 v243 v244 v245 v246 v340 v341 v342 v343 v344 v345 v346
  go_wp2_with fail
  refine (HS.out.wo _ HG5.out).mono ?_; rintro e w9 ⟨rfl, hg⟩
  have HG9 := Lf.hide (Lf.gbt HG5.out hg)
  clear hg
  rcases hy with rfl | rfl | rfl <;> rcases hz with rfl | rfl | rfl
  all_goals first
    | (exfalso; have h := HZ.out; simp [On3] at h; done)
    | (go_wp2_with fail
       go_ret
       exact ⟨rfl, HG9.out⟩)

set_option maxRecDepth 100000 in
set_option maxHeartbeats 4000000 in
theorem ok_lt {W : World} {tt : Int} {ta : Option Addr} {tn tc : Nat} {k1 n1 d1 k2 n2 d2 k3 n3 d3 : Int} {s1 s2 s3 : ByteArray} {pa1 qa1 ra1 pa2 qa2 ra2 pa3 qa3 ra3 : Option Addr} {pl1 pc1 ql1 qc1 rl1 rc1 pl2 pc2 ql2 qc2 rl2 rc2 pl3 pc3 ql3 qc3 rl3 rc3 : Nat} {y z : Int} (hy : Sgn y) (hz : Sgn z) (h3 : On3 (-1) y z) (hs : Says W (.agg #[.int .i64 tt, .slice ta tn tc]) (.agg #[.int .i64 k1, .int .i64 n1, .int .i64 d1, .string s1, .slice pa1 pl1 pc1, .slice qa1 ql1 qc1, .slice ra1 rl1 rc1]) (.agg #[.int .i64 k2, .int .i64 n2, .int .i64 d2, .string s2, .slice pa2 pl2 pc2, .slice qa2 ql2 qc2, .slice ra2 rl2 rc2]) (.agg #[.int .i64 k3, .int .i64 n3, .int .i64 d3, .string s3, .slice pa3 pl3 pc3, .slice qa3 ql3 qc3, .slice ra3 rl3 rc3]) (-1) 0 y 0 z 0 1 0 false) :
    Calls Try.prog 4 #[(.agg #[.int .i64 tt, .slice ta tn tc]), (.agg #[.int .i64 k1, .int .i64 n1, .int .i64 d1, .string s1, .slice pa1 pl1 pc1, .slice qa1 ql1 qc1, .slice ra1 rl1 rc1]), (.agg #[.int .i64 k2, .int .i64 n2, .int .i64 d2, .string s2, .slice pa2 pl2 pc2, .slice qa2 ql2 qc2, .slice ra2 rl2 rc2]), (.agg #[.int .i64 k3, .int .i64 n3, .int .i64 d3, .string s3, .slice pa3 pl3 pc3, .slice qa3 ql3 qc3, .slice ra3 rl3 rc3])] W fun e w' => e = .returned (.bool true) ∧ W.grownBy w' none := by
  have HS := Lf.hide hs
  clear hs
  have HZ := Lf.hide h3
  clear h3
  have HB00 := Lf.hide (o4_0 W (.cells #[.int .i64 tt, .slice ta tn tc] 24) (.cells #[.int .i64 k1, .int .i64 n1, .int .i64 d1, .string s1, .slice pa1 pl1 pc1, .slice qa1 ql1 qc1, .slice ra1 rl1 rc1] 28) (.cells #[.int .i64 k2, .int .i64 n2, .int .i64 d2, .string s2, .slice pa2 pl2 pc2, .slice qa2 ql2 qc2, .slice ra2 rl2 rc2] 28) (.cells #[.int .i64 k3, .int .i64 n3, .int .i64 d3, .string s3, .slice pa3 pl3 pc3, .slice qa3 ql3 qc3, .slice ra3 rl3 rc3] 28))
  have HB10 := Lf.hide (o4_1 W (.cells #[.int .i64 tt, .slice ta tn tc] 24) (.cells #[.int .i64 k1, .int .i64 n1, .int .i64 d1, .string s1, .slice pa1 pl1 pc1, .slice qa1 ql1 qc1, .slice ra1 rl1 rc1] 28) (.cells #[.int .i64 k2, .int .i64 n2, .int .i64 d2, .string s2, .slice pa2 pl2 pc2, .slice qa2 ql2 qc2, .slice ra2 rl2 rc2] 28) (.cells #[.int .i64 k3, .int .i64 n3, .int .i64 d3, .string s3, .slice pa3 pl3 pc3, .slice qa3 ql3 qc3, .slice ra3 rl3 rc3] 28))
  have HB20 := Lf.hide (new_3of4 W (.cells #[.int .i64 tt, .slice ta tn tc] 24) (.cells #[.int .i64 k1, .int .i64 n1, .int .i64 d1, .string s1, .slice pa1 pl1 pc1, .slice qa1 ql1 qc1, .slice ra1 rl1 rc1] 28) (.cells #[.int .i64 k2, .int .i64 n2, .int .i64 d2, .string s2, .slice pa2 pl2 pc2, .slice qa2 ql2 qc2, .slice ra2 rl2 rc2] 28) (.cells #[.int .i64 k3, .int .i64 n3, .int .i64 d3, .string s3, .slice pa3 pl3 pc3, .slice qa3 ql3 qc3, .slice ra3 rl3 rc3] 28))
  have HB30 := Lf.hide (new_4of4 W (.cells #[.int .i64 tt, .slice ta tn tc] 24) (.cells #[.int .i64 k1, .int .i64 n1, .int .i64 d1, .string s1, .slice pa1 pl1 pc1, .slice qa1 ql1 qc1, .slice ra1 rl1 rc1] 28) (.cells #[.int .i64 k2, .int .i64 n2, .int .i64 d2, .string s2, .slice pa2 pl2 pc2, .slice qa2 ql2 qc2, .slice ra2 rl2 rc2] 28) (.cells #[.int .i64 k3, .int .i64 n3, .int .i64 d3, .string s3, .slice pa3 pl3 pc3, .slice qa3 ql3 qc3, .slice ra3 rl3 rc3] 28))
  have HG0 := Lf.hide (Lf.gbt (Lf.gbt (Lf.gbt (Lf.gb (w := W) (.cells #[.int .i64 tt, .slice ta tn tc] 24)) (Lf.gb (.cells #[.int .i64 k1, .int .i64 n1, .int .i64 d1, .string s1, .slice pa1 pl1 pc1, .slice qa1 ql1 qc1, .slice ra1 rl1 rc1] 28))) (Lf.gb (.cells #[.int .i64 k2, .int .i64 n2, .int .i64 d2, .string s2, .slice pa2 pl2 pc2, .slice qa2 ql2 qc2, .slice ra2 rl2 rc2] 28))) (Lf.gb (.cells #[.int .i64 k3, .int .i64 n3, .int .i64 d3, .string s3, .slice pa3 pl3 pc3, .slice qa3 ql3 qc3, .slice ra3 rl3 rc3] 28)))
  go_enter Try.func4, Try.ntmps4
  go_wp2_with fail
  refine (HS.out.ab _ HG0.out).mono ?_; rintro e w1 ⟨rfl, hg⟩
  have HB01 := Lf.hide ((hg.block _ (Array.getElem?_eq_some_iff.1 HB00.out).1 (by simp)).trans HB00.out)
  have HB11 := Lf.hide ((hg.block _ (Array.getElem?_eq_some_iff.1 HB10.out).1 (by simp)).trans HB10.out)
  have HB21 := Lf.hide ((hg.block _ (Array.getElem?_eq_some_iff.1 HB20.out).1 (by simp)).trans HB20.out)
  have HB31 := Lf.hide ((hg.block _ (Array.getElem?_eq_some_iff.1 HB30.out).1 (by simp)).trans HB30.out)
  have HG1 := Lf.hide (Lf.gbt HG0.out hg)
  have t10 := cell0_of HB01.out
  have t11 := cell1_of HB01.out
  obtain ⟨v110, v111, v112, v113, v114, v115, v116⟩ := box7 HB11.out
  obtain ⟨v210, v211, v212, v213, v214, v215, v216⟩ := box7 HB21.out
  obtain ⟨v310, v311, v312, v313, v314, v315, v316⟩ := box7 HB31.out
  clear hg
  go_wp2_with fail
  refine (HS.out.bc _ HG1.out).mono ?_; rintro e w2 ⟨rfl, hg⟩
  have HB02 := Lf.hide ((hg.block _ (Array.getElem?_eq_some_iff.1 HB01.out).1 (by simp)).trans HB01.out)
  have HB12 := Lf.hide ((hg.block _ (Array.getElem?_eq_some_iff.1 HB11.out).1 (by simp)).trans HB11.out)
  have HB22 := Lf.hide ((hg.block _ (Array.getElem?_eq_some_iff.1 HB21.out).1 (by simp)).trans HB21.out)
  have HB32 := Lf.hide ((hg.block _ (Array.getElem?_eq_some_iff.1 HB31.out).1 (by simp)).trans HB31.out)
  have HG2 := Lf.hide (Lf.gbt HG1.out hg)
  have t20 := cell0_of HB02.out
  have t21 := cell1_of HB02.out
  obtain ⟨v120, v121, v122, v123, v124, v125, v126⟩ := box7 HB12.out
  obtain ⟨v220, v221, v222, v223, v224, v225, v226⟩ := box7 HB22.out
  obtain ⟨v320, v321, v322, v323, v324, v325, v326⟩ := box7 HB32.out
  clear hg
  clear t10 t11 v110 v111 v112 v113 v114 v115 v116 v210 v211 v212 v213 v214 v215 v216 v310 v311 v312 v313 v314 v315 v316
  go_wp2_with fail
  refine (HS.out.ac _ HG2.out).mono ?_; rintro e w3 ⟨rfl, hg⟩
  have HB03 := Lf.hide ((hg.block _ (Array.getElem?_eq_some_iff.1 HB02.out).1 (by simp)).trans HB02.out)
  have HB13 := Lf.hide ((hg.block _ (Array.getElem?_eq_some_iff.1 HB12.out).1 (by simp)).trans HB12.out)
  have HB23 := Lf.hide ((hg.block _ (Array.getElem?_eq_some_iff.1 HB22.out).1 (by simp)).trans HB22.out)
  have HB33 := Lf.hide ((hg.block _ (Array.getElem?_eq_some_iff.1 HB32.out).1 (by simp)).trans HB32.out)
  have HG3 := Lf.hide (Lf.gbt HG2.out hg)
  have t30 := cell0_of HB03.out
  have t31 := cell1_of HB03.out
  obtain ⟨v130, v131, v132, v133, v134, v135, v136⟩ := box7 HB13.out
  obtain ⟨v230, v231, v232, v233, v234, v235, v236⟩ := box7 HB23.out
  obtain ⟨v330, v331, v332, v333, v334, v335, v336⟩ := box7 HB33.out
  clear hg
  clear t20 t21 v120 v121 v122 v123 v124 v125 v126 v220 v221 v222 v223 v224 v225 v226 v320 v321 v322 v323 v324 v325 v326
  go_wp2_with fail
  refine (HS.out.ba _ HG3.out).mono ?_; rintro e w4 ⟨rfl, hg⟩
  have HB04 := Lf.hide ((hg.block _ (Array.getElem?_eq_some_iff.1 HB03.out).1 (by simp)).trans HB03.out)
  have HB14 := Lf.hide ((hg.block _ (Array.getElem?_eq_some_iff.1 HB13.out).1 (by simp)).trans HB13.out)
  have HB24 := Lf.hide ((hg.block _ (Array.getElem?_eq_some_iff.1 HB23.out).1 (by simp)).trans HB23.out)
  have HB34 := Lf.hide ((hg.block _ (Array.getElem?_eq_some_iff.1 HB33.out).1 (by simp)).trans HB33.out)
  have HG4 := Lf.hide (Lf.gbt HG3.out hg)
  have t40 := cell0_of HB04.out
  have t41 := cell1_of HB04.out
  obtain ⟨v140, v141, v142, v143, v144, v145, v146⟩ := box7 HB14.out
  obtain ⟨v240, v241, v242, v243, v244, v245, v246⟩ := box7 HB24.out
  obtain ⟨v340, v341, v342, v343, v344, v345, v346⟩ := box7 HB34.out
  clear hg
  clear t30 t31 v130 v131 v132 v133 v134 v135 v136 v230 v231 v232 v233 v234 v235 v236 v330 v331 v332 v333 v334 v335 v336
  go_wp2_with fail
  refine (HS.out.sa rfl _ HG4.out).mono ?_; rintro e w5 ⟨rfl, hg⟩
  have HB05 := Lf.hide ((hg.block _ (Array.getElem?_eq_some_iff.1 HB04.out).1 (by simp)).trans HB04.out)
  have HB15 := Lf.hide ((hg.block _ (Array.getElem?_eq_some_iff.1 HB14.out).1 (by simp)).trans HB14.out)
  have HB25 := Lf.hide ((hg.block _ (Array.getElem?_eq_some_iff.1 HB24.out).1 (by simp)).trans HB24.out)
  have HB35 := Lf.hide ((hg.block _ (Array.getElem?_eq_some_iff.1 HB34.out).1 (by simp)).trans HB34.out)
  have HG5 := Lf.hide (Lf.gbt HG4.out hg)
  clear hg
  clear t40 t41 v140 v141 v142 v143 v144 v145 v146 v240 v241 v242 v243 v244 v245 v246 v340 v341 v342 v343 v344 v345 v346
  go_wp2_with fail
  refine (HS.out.wo _ HG5.out).mono ?_; rintro e w9 ⟨rfl, hg⟩
  have HG9 := Lf.hide (Lf.gbt HG5.out hg)
  clear hg
  rcases hy with rfl | rfl | rfl <;> rcases hz with rfl | rfl | rfl
  all_goals first
    | (exfalso; have h := HZ.out; simp [On3] at h; done)
    | (go_wp2_with fail
       go_ret
       exact ⟨rfl, HG9.out⟩)

set_option maxRecDepth 100000 in
set_option maxHeartbeats 4000000 in
theorem ok_gt {W : World} {tt : Int} {ta : Option Addr} {tn tc : Nat} {k1 n1 d1 k2 n2 d2 k3 n3 d3 : Int} {s1 s2 s3 : ByteArray} {pa1 qa1 ra1 pa2 qa2 ra2 pa3 qa3 ra3 : Option Addr} {pl1 pc1 ql1 qc1 rl1 rc1 pl2 pc2 ql2 qc2 rl2 rc2 pl3 pc3 ql3 qc3 rl3 rc3 : Nat} {y z : Int} (hy : Sgn y) (hz : Sgn z) (h3 : On3 1 y z) (hs : Says W (.agg #[.int .i64 tt, .slice ta tn tc]) (.agg #[.int .i64 k1, .int .i64 n1, .int .i64 d1, .string s1, .slice pa1 pl1 pc1, .slice qa1 ql1 qc1, .slice ra1 rl1 rc1]) (.agg #[.int .i64 k2, .int .i64 n2, .int .i64 d2, .string s2, .slice pa2 pl2 pc2, .slice qa2 ql2 qc2, .slice ra2 rl2 rc2]) (.agg #[.int .i64 k3, .int .i64 n3, .int .i64 d3, .string s3, .slice pa3 pl3 pc3, .slice qa3 ql3 qc3, .slice ra3 rl3 rc3]) 1 0 y 0 z 0 (-1) 0 false) :
    Calls Try.prog 4 #[(.agg #[.int .i64 tt, .slice ta tn tc]), (.agg #[.int .i64 k1, .int .i64 n1, .int .i64 d1, .string s1, .slice pa1 pl1 pc1, .slice qa1 ql1 qc1, .slice ra1 rl1 rc1]), (.agg #[.int .i64 k2, .int .i64 n2, .int .i64 d2, .string s2, .slice pa2 pl2 pc2, .slice qa2 ql2 qc2, .slice ra2 rl2 rc2]), (.agg #[.int .i64 k3, .int .i64 n3, .int .i64 d3, .string s3, .slice pa3 pl3 pc3, .slice qa3 ql3 qc3, .slice ra3 rl3 rc3])] W fun e w' => e = .returned (.bool true) ∧ W.grownBy w' none := by
  have HS := Lf.hide hs
  clear hs
  have HZ := Lf.hide h3
  clear h3
  have HB00 := Lf.hide (o4_0 W (.cells #[.int .i64 tt, .slice ta tn tc] 24) (.cells #[.int .i64 k1, .int .i64 n1, .int .i64 d1, .string s1, .slice pa1 pl1 pc1, .slice qa1 ql1 qc1, .slice ra1 rl1 rc1] 28) (.cells #[.int .i64 k2, .int .i64 n2, .int .i64 d2, .string s2, .slice pa2 pl2 pc2, .slice qa2 ql2 qc2, .slice ra2 rl2 rc2] 28) (.cells #[.int .i64 k3, .int .i64 n3, .int .i64 d3, .string s3, .slice pa3 pl3 pc3, .slice qa3 ql3 qc3, .slice ra3 rl3 rc3] 28))
  have HB10 := Lf.hide (o4_1 W (.cells #[.int .i64 tt, .slice ta tn tc] 24) (.cells #[.int .i64 k1, .int .i64 n1, .int .i64 d1, .string s1, .slice pa1 pl1 pc1, .slice qa1 ql1 qc1, .slice ra1 rl1 rc1] 28) (.cells #[.int .i64 k2, .int .i64 n2, .int .i64 d2, .string s2, .slice pa2 pl2 pc2, .slice qa2 ql2 qc2, .slice ra2 rl2 rc2] 28) (.cells #[.int .i64 k3, .int .i64 n3, .int .i64 d3, .string s3, .slice pa3 pl3 pc3, .slice qa3 ql3 qc3, .slice ra3 rl3 rc3] 28))
  have HB20 := Lf.hide (new_3of4 W (.cells #[.int .i64 tt, .slice ta tn tc] 24) (.cells #[.int .i64 k1, .int .i64 n1, .int .i64 d1, .string s1, .slice pa1 pl1 pc1, .slice qa1 ql1 qc1, .slice ra1 rl1 rc1] 28) (.cells #[.int .i64 k2, .int .i64 n2, .int .i64 d2, .string s2, .slice pa2 pl2 pc2, .slice qa2 ql2 qc2, .slice ra2 rl2 rc2] 28) (.cells #[.int .i64 k3, .int .i64 n3, .int .i64 d3, .string s3, .slice pa3 pl3 pc3, .slice qa3 ql3 qc3, .slice ra3 rl3 rc3] 28))
  have HB30 := Lf.hide (new_4of4 W (.cells #[.int .i64 tt, .slice ta tn tc] 24) (.cells #[.int .i64 k1, .int .i64 n1, .int .i64 d1, .string s1, .slice pa1 pl1 pc1, .slice qa1 ql1 qc1, .slice ra1 rl1 rc1] 28) (.cells #[.int .i64 k2, .int .i64 n2, .int .i64 d2, .string s2, .slice pa2 pl2 pc2, .slice qa2 ql2 qc2, .slice ra2 rl2 rc2] 28) (.cells #[.int .i64 k3, .int .i64 n3, .int .i64 d3, .string s3, .slice pa3 pl3 pc3, .slice qa3 ql3 qc3, .slice ra3 rl3 rc3] 28))
  have HG0 := Lf.hide (Lf.gbt (Lf.gbt (Lf.gbt (Lf.gb (w := W) (.cells #[.int .i64 tt, .slice ta tn tc] 24)) (Lf.gb (.cells #[.int .i64 k1, .int .i64 n1, .int .i64 d1, .string s1, .slice pa1 pl1 pc1, .slice qa1 ql1 qc1, .slice ra1 rl1 rc1] 28))) (Lf.gb (.cells #[.int .i64 k2, .int .i64 n2, .int .i64 d2, .string s2, .slice pa2 pl2 pc2, .slice qa2 ql2 qc2, .slice ra2 rl2 rc2] 28))) (Lf.gb (.cells #[.int .i64 k3, .int .i64 n3, .int .i64 d3, .string s3, .slice pa3 pl3 pc3, .slice qa3 ql3 qc3, .slice ra3 rl3 rc3] 28)))
  go_enter Try.func4, Try.ntmps4
  go_wp2_with fail
  refine (HS.out.ab _ HG0.out).mono ?_; rintro e w1 ⟨rfl, hg⟩
  have HB01 := Lf.hide ((hg.block _ (Array.getElem?_eq_some_iff.1 HB00.out).1 (by simp)).trans HB00.out)
  have HB11 := Lf.hide ((hg.block _ (Array.getElem?_eq_some_iff.1 HB10.out).1 (by simp)).trans HB10.out)
  have HB21 := Lf.hide ((hg.block _ (Array.getElem?_eq_some_iff.1 HB20.out).1 (by simp)).trans HB20.out)
  have HB31 := Lf.hide ((hg.block _ (Array.getElem?_eq_some_iff.1 HB30.out).1 (by simp)).trans HB30.out)
  have HG1 := Lf.hide (Lf.gbt HG0.out hg)
  have t10 := cell0_of HB01.out
  have t11 := cell1_of HB01.out
  obtain ⟨v110, v111, v112, v113, v114, v115, v116⟩ := box7 HB11.out
  obtain ⟨v210, v211, v212, v213, v214, v215, v216⟩ := box7 HB21.out
  obtain ⟨v310, v311, v312, v313, v314, v315, v316⟩ := box7 HB31.out
  clear hg
  go_wp2_with fail
  refine (HS.out.bc _ HG1.out).mono ?_; rintro e w2 ⟨rfl, hg⟩
  have HB02 := Lf.hide ((hg.block _ (Array.getElem?_eq_some_iff.1 HB01.out).1 (by simp)).trans HB01.out)
  have HB12 := Lf.hide ((hg.block _ (Array.getElem?_eq_some_iff.1 HB11.out).1 (by simp)).trans HB11.out)
  have HB22 := Lf.hide ((hg.block _ (Array.getElem?_eq_some_iff.1 HB21.out).1 (by simp)).trans HB21.out)
  have HB32 := Lf.hide ((hg.block _ (Array.getElem?_eq_some_iff.1 HB31.out).1 (by simp)).trans HB31.out)
  have HG2 := Lf.hide (Lf.gbt HG1.out hg)
  have t20 := cell0_of HB02.out
  have t21 := cell1_of HB02.out
  obtain ⟨v120, v121, v122, v123, v124, v125, v126⟩ := box7 HB12.out
  obtain ⟨v220, v221, v222, v223, v224, v225, v226⟩ := box7 HB22.out
  obtain ⟨v320, v321, v322, v323, v324, v325, v326⟩ := box7 HB32.out
  clear hg
  clear t10 t11 v110 v111 v112 v113 v114 v115 v116 v210 v211 v212 v213 v214 v215 v216 v310 v311 v312 v313 v314 v315 v316
  go_wp2_with fail
  refine (HS.out.ac _ HG2.out).mono ?_; rintro e w3 ⟨rfl, hg⟩
  have HB03 := Lf.hide ((hg.block _ (Array.getElem?_eq_some_iff.1 HB02.out).1 (by simp)).trans HB02.out)
  have HB13 := Lf.hide ((hg.block _ (Array.getElem?_eq_some_iff.1 HB12.out).1 (by simp)).trans HB12.out)
  have HB23 := Lf.hide ((hg.block _ (Array.getElem?_eq_some_iff.1 HB22.out).1 (by simp)).trans HB22.out)
  have HB33 := Lf.hide ((hg.block _ (Array.getElem?_eq_some_iff.1 HB32.out).1 (by simp)).trans HB32.out)
  have HG3 := Lf.hide (Lf.gbt HG2.out hg)
  have t30 := cell0_of HB03.out
  have t31 := cell1_of HB03.out
  obtain ⟨v130, v131, v132, v133, v134, v135, v136⟩ := box7 HB13.out
  obtain ⟨v230, v231, v232, v233, v234, v235, v236⟩ := box7 HB23.out
  obtain ⟨v330, v331, v332, v333, v334, v335, v336⟩ := box7 HB33.out
  clear hg
  clear t20 t21 v120 v121 v122 v123 v124 v125 v126 v220 v221 v222 v223 v224 v225 v226 v320 v321 v322 v323 v324 v325 v326
  go_wp2_with fail
  refine (HS.out.ba _ HG3.out).mono ?_; rintro e w4 ⟨rfl, hg⟩
  have HB04 := Lf.hide ((hg.block _ (Array.getElem?_eq_some_iff.1 HB03.out).1 (by simp)).trans HB03.out)
  have HB14 := Lf.hide ((hg.block _ (Array.getElem?_eq_some_iff.1 HB13.out).1 (by simp)).trans HB13.out)
  have HB24 := Lf.hide ((hg.block _ (Array.getElem?_eq_some_iff.1 HB23.out).1 (by simp)).trans HB23.out)
  have HB34 := Lf.hide ((hg.block _ (Array.getElem?_eq_some_iff.1 HB33.out).1 (by simp)).trans HB33.out)
  have HG4 := Lf.hide (Lf.gbt HG3.out hg)
  have t40 := cell0_of HB04.out
  have t41 := cell1_of HB04.out
  obtain ⟨v140, v141, v142, v143, v144, v145, v146⟩ := box7 HB14.out
  obtain ⟨v240, v241, v242, v243, v244, v245, v246⟩ := box7 HB24.out
  obtain ⟨v340, v341, v342, v343, v344, v345, v346⟩ := box7 HB34.out
  clear hg
  clear t30 t31 v130 v131 v132 v133 v134 v135 v136 v230 v231 v232 v233 v234 v235 v236 v330 v331 v332 v333 v334 v335 v336
  go_wp2_with fail
  refine (HS.out.sa rfl _ HG4.out).mono ?_; rintro e w5 ⟨rfl, hg⟩
  have HB05 := Lf.hide ((hg.block _ (Array.getElem?_eq_some_iff.1 HB04.out).1 (by simp)).trans HB04.out)
  have HB15 := Lf.hide ((hg.block _ (Array.getElem?_eq_some_iff.1 HB14.out).1 (by simp)).trans HB14.out)
  have HB25 := Lf.hide ((hg.block _ (Array.getElem?_eq_some_iff.1 HB24.out).1 (by simp)).trans HB24.out)
  have HB35 := Lf.hide ((hg.block _ (Array.getElem?_eq_some_iff.1 HB34.out).1 (by simp)).trans HB34.out)
  have HG5 := Lf.hide (Lf.gbt HG4.out hg)
  clear hg
  clear t40 t41 v140 v141 v142 v143 v144 v145 v146 v240 v241 v242 v243 v244 v245 v246 v340 v341 v342 v343 v344 v345 v346
  go_wp2_with fail
  refine (HS.out.wo _ HG5.out).mono ?_; rintro e w9 ⟨rfl, hg⟩
  have HG9 := Lf.hide (Lf.gbt HG5.out hg)
  clear hg
  rcases hy with rfl | rfl | rfl <;> rcases hz with rfl | rfl | rfl
  all_goals first
    | (exfalso; have h := HZ.out; simp [On3] at h; done)
    | (go_wp2_with fail
       go_ret
       exact ⟨rfl, HG9.out⟩)

end Go.Proofs.Ytmmgihaoahhkjaa.valueOrder
