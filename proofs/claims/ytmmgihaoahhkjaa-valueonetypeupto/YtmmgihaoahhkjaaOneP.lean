/- ValueOneType where both types are pairs, given what it answers of their parts. -/
import Derived.Test.YtmmgihaoahhkjaaOneT
namespace Go.Proofs.Ytmmgihaoahhkjaa.valueOneType
open Go.ChangeShapes Go.WideShapes Go.ChangeAt Go.RowKit
set_option linter.unusedVariables false

set_option maxRecDepth 100000 in
set_option maxHeartbeats 2000000 in
theorem pair {W : World} {xk xn xa : Int} {xs : ByteArray} {ta na : Option Addr} {yl cl c c2 ac tc nc bt ot bu ou bv ov : Nat} {tk0 tk1 yk0 yk1 k0 k1 n0 n1 d0 d1 : Int} {s0 s1 : ByteArray} {ta0 ta1 ya0 ya1 pa0 pa1 qa0 qa1 ra0 ra1 : Option Addr} {tl0 tl1 tc0 tc1 yl0 yl1 yc0 yc1 pl0 pl1 pc0 pc1 ql0 ql1 qc0 qc1 rl0 rl1 rc0 rc1 : Nat} (Sub : Value → Value → Value → Prop)
    (hs : Says W (tyV 11 (some ⟨bt, ot, none⟩) 2 c) (tyV 11 (some ⟨bu, ou, none⟩) 2 c2) (vaV xk xn xa xs (some ⟨bv, ov, none⟩) 2 ac ta yl tc na cl nc) true true true false ∨ Says W (tyV 11 (some ⟨bt, ot, none⟩) 2 c) (tyV 11 (some ⟨bu, ou, none⟩) 2 c2) (vaV xk xn xa xs (some ⟨bv, ov, none⟩) 2 ac ta yl tc na cl nc) true true true true)
    (ct00 : W.cell? ⟨bt, ot, none⟩ = some (.int .i64 tk0)) (ct01 : W.cell? ⟨bt, ot + 1, none⟩ = some (.slice ta0 tl0 tc0)) (cy00 : W.cell? ⟨bu, ou, none⟩ = some (.int .i64 yk0)) (cy01 : W.cell? ⟨bu, ou + 1, none⟩ = some (.slice ya0 yl0 yc0)) (cv00 : W.cell? ⟨bv, ov, none⟩ = some (.int .i64 k0)) (cv01 : W.cell? ⟨bv, ov + 1, none⟩ = some (.int .i64 n0)) (cv02 : W.cell? ⟨bv, ov + 2, none⟩ = some (.int .i64 d0)) (cv03 : W.cell? ⟨bv, ov + 3, none⟩ = some (.string s0)) (cv04 : W.cell? ⟨bv, ov + 4, none⟩ = some (.slice pa0 pl0 pc0)) (cv05 : W.cell? ⟨bv, ov + 5, none⟩ = some (.slice qa0 ql0 qc0)) (cv06 : W.cell? ⟨bv, ov + 6, none⟩ = some (.slice ra0 rl0 rc0)) (ct10 : W.cell? ⟨bt, ot + 1 * 2, none⟩ = some (.int .i64 tk1)) (ct11 : W.cell? ⟨bt, ot + 1 * 2 + 1, none⟩ = some (.slice ta1 tl1 tc1)) (cy10 : W.cell? ⟨bu, ou + 1 * 2, none⟩ = some (.int .i64 yk1)) (cy11 : W.cell? ⟨bu, ou + 1 * 2 + 1, none⟩ = some (.slice ya1 yl1 yc1)) (cv10 : W.cell? ⟨bv, ov + 1 * 7, none⟩ = some (.int .i64 k1)) (cv11 : W.cell? ⟨bv, ov + 1 * 7 + 1, none⟩ = some (.int .i64 n1)) (cv12 : W.cell? ⟨bv, ov + 1 * 7 + 2, none⟩ = some (.int .i64 d1)) (cv13 : W.cell? ⟨bv, ov + 1 * 7 + 3, none⟩ = some (.string s1)) (cv14 : W.cell? ⟨bv, ov + 1 * 7 + 4, none⟩ = some (.slice pa1 pl1 pc1)) (cv15 : W.cell? ⟨bv, ov + 1 * 7 + 5, none⟩ = some (.slice qa1 ql1 qc1)) (cv16 : W.cell? ⟨bv, ov + 1 * 7 + 6, none⟩ = some (.slice ra1 rl1 rc1))
    (hsub0 : Sub (.agg #[.int .i64 tk0, .slice ta0 tl0 tc0]) (.agg #[.int .i64 yk0, .slice ya0 yl0 yc0]) (.agg #[.int .i64 k0, .int .i64 n0, .int .i64 d0, .string s0, .slice pa0 pl0 pc0, .slice qa0 ql0 qc0, .slice ra0 rl0 rc0])) (hsub1 : Sub (.agg #[.int .i64 tk1, .slice ta1 tl1 tc1]) (.agg #[.int .i64 yk1, .slice ya1 yl1 yc1]) (.agg #[.int .i64 k1, .int .i64 n1, .int .i64 d1, .string s1, .slice pa1 pl1 pc1, .slice qa1 ql1 qc1, .slice ra1 rl1 rc1]))
    (hrec : ∀ u u2 v, Sub u u2 v → ∀ W2, W.grownBy W2 none → Calls Try.prog 7 #[u, u2, v] W2 fun e w' => e = .returned (.bool true) ∧ W2.grownBy w' none) :
    Calls Try.prog 7 #[tyV 11 (some ⟨bt, ot, none⟩) 2 c, tyV 11 (some ⟨bu, ou, none⟩) 2 c2, vaV xk xn xa xs (some ⟨bv, ov, none⟩) 2 ac ta yl tc na cl nc] W fun e w' => e = .returned (.bool true) ∧ W.grownBy w' none := by
  have HR := Lf.hide hrec
  clear hrec
  obtain ⟨b4, hs⟩ : ∃ b4, Says W (tyV 11 (some ⟨bt, ot, none⟩) 2 c) (tyV 11 (some ⟨bu, ou, none⟩) 2 c2) (vaV xk xn xa xs (some ⟨bv, ov, none⟩) 2 ac ta yl tc na cl nc) true true true b4 := by
    rcases hs with h | h
    · exact ⟨_, h⟩
    · exact ⟨_, h⟩
  have HS := Lf.hide hs
  clear hs
  unfold tyV vaV at *
  have HT0 := Lf.hide (new_1of3 W (.cells #[.int .i64 11, .slice (some ⟨bt, ot, none⟩) 2 c] 24) (.cells #[.int .i64 11, .slice (some ⟨bu, ou, none⟩) 2 c2] 24) (.cells #[.int .i64 xk, .int .i64 xn, .int .i64 xa, .string xs, .slice (some ⟨bv, ov, none⟩) 2 ac, .slice ta yl tc, .slice na cl nc] 28))
  have HU0 := Lf.hide (new_2of3' W (.cells #[.int .i64 11, .slice (some ⟨bt, ot, none⟩) 2 c] 24) (.cells #[.int .i64 11, .slice (some ⟨bu, ou, none⟩) 2 c2] 24) (.cells #[.int .i64 xk, .int .i64 xn, .int .i64 xa, .string xs, .slice (some ⟨bv, ov, none⟩) 2 ac, .slice ta yl tc, .slice na cl nc] 28))
  have HX0 := Lf.hide (new_3of3' W (.cells #[.int .i64 11, .slice (some ⟨bt, ot, none⟩) 2 c] 24) (.cells #[.int .i64 11, .slice (some ⟨bu, ou, none⟩) 2 c2] 24) (.cells #[.int .i64 xk, .int .i64 xn, .int .i64 xa, .string xs, .slice (some ⟨bv, ov, none⟩) 2 ac, .slice ta yl tc, .slice na cl nc] 28))
  have HG0 := Lf.hide (Lf.gbt (Lf.gbt (Lf.gb (w := W) (.cells #[.int .i64 11, .slice (some ⟨bt, ot, none⟩) 2 c] 24)) (Lf.gb (.cells #[.int .i64 11, .slice (some ⟨bu, ou, none⟩) 2 c2] 24))) (Lf.gb (.cells #[.int .i64 xk, .int .i64 xn, .int .i64 xa, .string xs, .slice (some ⟨bv, ov, none⟩) 2 ac, .slice ta yl tc, .slice na cl nc] 28)))
  go_enter Try.func7, Try.ntmps7
  go_wp2_with fail
  refine (HS.out.h1 _ HG0.out).mono ?_; rintro e w1 ⟨rfl, hg⟩
  have HT1 := Lf.hide ((hg.block _ (Array.getElem?_eq_some_iff.1 HT0.out).1 (by simp)).trans HT0.out)
  have HU1 := Lf.hide ((hg.block _ (Array.getElem?_eq_some_iff.1 HU0.out).1 (by simp)).trans HU0.out)
  have HX1 := Lf.hide ((hg.block _ (Array.getElem?_eq_some_iff.1 HX0.out).1 (by simp)).trans HX0.out)
  have HG1 := Lf.hide (Lf.gbt HG0.out hg)
  have t10 := cell0_of HT1.out
  have t11 := cell1_of HT1.out
  have u10 := cell0_of HU1.out
  have u11 := cell1_of HU1.out
  obtain ⟨x10, x11, x12, x13, x14, x15, x16⟩ := box7 HX1.out
  clear hg
  go_wp2_with fail
  refine (HS.out.h2 _ HG1.out).mono ?_; rintro e w2 ⟨rfl, hg⟩
  have HT2 := Lf.hide ((hg.block _ (Array.getElem?_eq_some_iff.1 HT1.out).1 (by simp)).trans HT1.out)
  have HU2 := Lf.hide ((hg.block _ (Array.getElem?_eq_some_iff.1 HU1.out).1 (by simp)).trans HU1.out)
  have HX2 := Lf.hide ((hg.block _ (Array.getElem?_eq_some_iff.1 HX1.out).1 (by simp)).trans HX1.out)
  have HG2 := Lf.hide (Lf.gbt HG1.out hg)
  have t20 := cell0_of HT2.out
  have t21 := cell1_of HT2.out
  have u20 := cell0_of HU2.out
  have u21 := cell1_of HU2.out
  obtain ⟨x20, x21, x22, x23, x24, x25, x26⟩ := box7 HX2.out
  clear hg
  clear t10 t11 u10 u11 x10 x11 x12 x13 x14 x15 x16
  go_wp2_with fail
  refine (HS.out.h3 rfl _ HG2.out).mono ?_; rintro e w3 ⟨rfl, hg⟩
  have HT3 := Lf.hide ((hg.block _ (Array.getElem?_eq_some_iff.1 HT2.out).1 (by simp)).trans HT2.out)
  have HU3 := Lf.hide ((hg.block _ (Array.getElem?_eq_some_iff.1 HU2.out).1 (by simp)).trans HU2.out)
  have HX3 := Lf.hide ((hg.block _ (Array.getElem?_eq_some_iff.1 HX2.out).1 (by simp)).trans HX2.out)
  have HG3 := Lf.hide (Lf.gbt HG2.out hg)
  have t30 := cell0_of HT3.out
  have t31 := cell1_of HT3.out
  have u30 := cell0_of HU3.out
  have u31 := cell1_of HU3.out
  obtain ⟨x30, x31, x32, x33, x34, x35, x36⟩ := box7 HX3.out
  clear hg
  clear t20 t21 u20 u21 x20 x21 x22 x23 x24 x25 x26
  have qbt : bt < w3.heap.size := Nat.lt_of_lt_of_le (World.block_lt_of_cell? W _ ct00) HG3.out.size
  have rbt : bt < W.heap.size := World.block_lt_of_cell? W _ ct00
  have qbu : bu < w3.heap.size := Nat.lt_of_lt_of_le (World.block_lt_of_cell? W _ cy00) HG3.out.size
  have rbu : bu < W.heap.size := World.block_lt_of_cell? W _ cy00
  have qbv : bv < w3.heap.size := Nat.lt_of_lt_of_le (World.block_lt_of_cell? W _ cv00) HG3.out.size
  have rbv : bv < W.heap.size := World.block_lt_of_cell? W _ cv00
  have fct00 : ∀ W3 : World, w3.grownBy W3 none → W3.cell? ⟨bt, ot, none⟩ = some (.int .i64 tk0) := fun W3 h => ((World.cell?_of_block (h.block bt qbt (by simp))).trans (World.cell?_of_block (HG3.out.block bt rbt (by simp)))).trans ct00
  have fct01 : ∀ W3 : World, w3.grownBy W3 none → W3.cell? ⟨bt, ot + 1, none⟩ = some (.slice ta0 tl0 tc0) := fun W3 h => ((World.cell?_of_block (h.block bt qbt (by simp))).trans (World.cell?_of_block (HG3.out.block bt rbt (by simp)))).trans ct01
  have fcy00 : ∀ W3 : World, w3.grownBy W3 none → W3.cell? ⟨bu, ou, none⟩ = some (.int .i64 yk0) := fun W3 h => ((World.cell?_of_block (h.block bu qbu (by simp))).trans (World.cell?_of_block (HG3.out.block bu rbu (by simp)))).trans cy00
  have fcy01 : ∀ W3 : World, w3.grownBy W3 none → W3.cell? ⟨bu, ou + 1, none⟩ = some (.slice ya0 yl0 yc0) := fun W3 h => ((World.cell?_of_block (h.block bu qbu (by simp))).trans (World.cell?_of_block (HG3.out.block bu rbu (by simp)))).trans cy01
  have fcv00 : ∀ W3 : World, w3.grownBy W3 none → W3.cell? ⟨bv, ov, none⟩ = some (.int .i64 k0) := fun W3 h => ((World.cell?_of_block (h.block bv qbv (by simp))).trans (World.cell?_of_block (HG3.out.block bv rbv (by simp)))).trans cv00
  have fcv01 : ∀ W3 : World, w3.grownBy W3 none → W3.cell? ⟨bv, ov + 1, none⟩ = some (.int .i64 n0) := fun W3 h => ((World.cell?_of_block (h.block bv qbv (by simp))).trans (World.cell?_of_block (HG3.out.block bv rbv (by simp)))).trans cv01
  have fcv02 : ∀ W3 : World, w3.grownBy W3 none → W3.cell? ⟨bv, ov + 2, none⟩ = some (.int .i64 d0) := fun W3 h => ((World.cell?_of_block (h.block bv qbv (by simp))).trans (World.cell?_of_block (HG3.out.block bv rbv (by simp)))).trans cv02
  have fcv03 : ∀ W3 : World, w3.grownBy W3 none → W3.cell? ⟨bv, ov + 3, none⟩ = some (.string s0) := fun W3 h => ((World.cell?_of_block (h.block bv qbv (by simp))).trans (World.cell?_of_block (HG3.out.block bv rbv (by simp)))).trans cv03
  have fcv04 : ∀ W3 : World, w3.grownBy W3 none → W3.cell? ⟨bv, ov + 4, none⟩ = some (.slice pa0 pl0 pc0) := fun W3 h => ((World.cell?_of_block (h.block bv qbv (by simp))).trans (World.cell?_of_block (HG3.out.block bv rbv (by simp)))).trans cv04
  have fcv05 : ∀ W3 : World, w3.grownBy W3 none → W3.cell? ⟨bv, ov + 5, none⟩ = some (.slice qa0 ql0 qc0) := fun W3 h => ((World.cell?_of_block (h.block bv qbv (by simp))).trans (World.cell?_of_block (HG3.out.block bv rbv (by simp)))).trans cv05
  have fcv06 : ∀ W3 : World, w3.grownBy W3 none → W3.cell? ⟨bv, ov + 6, none⟩ = some (.slice ra0 rl0 rc0) := fun W3 h => ((World.cell?_of_block (h.block bv qbv (by simp))).trans (World.cell?_of_block (HG3.out.block bv rbv (by simp)))).trans cv06
  have fct10 : ∀ W3 : World, w3.grownBy W3 none → W3.cell? ⟨bt, ot + 1 * 2, none⟩ = some (.int .i64 tk1) := fun W3 h => ((World.cell?_of_block (h.block bt qbt (by simp))).trans (World.cell?_of_block (HG3.out.block bt rbt (by simp)))).trans ct10
  have fct11 : ∀ W3 : World, w3.grownBy W3 none → W3.cell? ⟨bt, ot + 1 * 2 + 1, none⟩ = some (.slice ta1 tl1 tc1) := fun W3 h => ((World.cell?_of_block (h.block bt qbt (by simp))).trans (World.cell?_of_block (HG3.out.block bt rbt (by simp)))).trans ct11
  have fcy10 : ∀ W3 : World, w3.grownBy W3 none → W3.cell? ⟨bu, ou + 1 * 2, none⟩ = some (.int .i64 yk1) := fun W3 h => ((World.cell?_of_block (h.block bu qbu (by simp))).trans (World.cell?_of_block (HG3.out.block bu rbu (by simp)))).trans cy10
  have fcy11 : ∀ W3 : World, w3.grownBy W3 none → W3.cell? ⟨bu, ou + 1 * 2 + 1, none⟩ = some (.slice ya1 yl1 yc1) := fun W3 h => ((World.cell?_of_block (h.block bu qbu (by simp))).trans (World.cell?_of_block (HG3.out.block bu rbu (by simp)))).trans cy11
  have fcv10 : ∀ W3 : World, w3.grownBy W3 none → W3.cell? ⟨bv, ov + 1 * 7, none⟩ = some (.int .i64 k1) := fun W3 h => ((World.cell?_of_block (h.block bv qbv (by simp))).trans (World.cell?_of_block (HG3.out.block bv rbv (by simp)))).trans cv10
  have fcv11 : ∀ W3 : World, w3.grownBy W3 none → W3.cell? ⟨bv, ov + 1 * 7 + 1, none⟩ = some (.int .i64 n1) := fun W3 h => ((World.cell?_of_block (h.block bv qbv (by simp))).trans (World.cell?_of_block (HG3.out.block bv rbv (by simp)))).trans cv11
  have fcv12 : ∀ W3 : World, w3.grownBy W3 none → W3.cell? ⟨bv, ov + 1 * 7 + 2, none⟩ = some (.int .i64 d1) := fun W3 h => ((World.cell?_of_block (h.block bv qbv (by simp))).trans (World.cell?_of_block (HG3.out.block bv rbv (by simp)))).trans cv12
  have fcv13 : ∀ W3 : World, w3.grownBy W3 none → W3.cell? ⟨bv, ov + 1 * 7 + 3, none⟩ = some (.string s1) := fun W3 h => ((World.cell?_of_block (h.block bv qbv (by simp))).trans (World.cell?_of_block (HG3.out.block bv rbv (by simp)))).trans cv13
  have fcv14 : ∀ W3 : World, w3.grownBy W3 none → W3.cell? ⟨bv, ov + 1 * 7 + 4, none⟩ = some (.slice pa1 pl1 pc1) := fun W3 h => ((World.cell?_of_block (h.block bv qbv (by simp))).trans (World.cell?_of_block (HG3.out.block bv rbv (by simp)))).trans cv14
  have fcv15 : ∀ W3 : World, w3.grownBy W3 none → W3.cell? ⟨bv, ov + 1 * 7 + 5, none⟩ = some (.slice qa1 ql1 qc1) := fun W3 h => ((World.cell?_of_block (h.block bv qbv (by simp))).trans (World.cell?_of_block (HG3.out.block bv rbv (by simp)))).trans cv15
  have fcv16 : ∀ W3 : World, w3.grownBy W3 none → W3.cell? ⟨bv, ov + 1 * 7 + 6, none⟩ = some (.slice ra1 rl1 rc1) := fun W3 h => ((World.cell?_of_block (h.block bv qbv (by simp))).trans (World.cell?_of_block (HG3.out.block bv rbv (by simp)))).trans cv16
  have fT1 : ∀ W3 : World, w3.grownBy W3 none → W3.cell? ⟨W.heap.size, 1, none⟩ = some (.slice (some ⟨bt, ot, none⟩) 2 c) := fun W3 h => (World.cell?_of_block (h.block _ (Array.getElem?_eq_some_iff.1 HT3.out).1 (by simp))).trans t31
  have fU0 : ∀ W3 : World, w3.grownBy W3 none → W3.cell? ⟨W.heap.size + 1, 0, none⟩ = some (.int .i64 11) := fun W3 h => (World.cell?_of_block (h.block _ (Array.getElem?_eq_some_iff.1 HU3.out).1 (by simp))).trans u30
  have fU1 : ∀ W3 : World, w3.grownBy W3 none → W3.cell? ⟨W.heap.size + 1, 1, none⟩ = some (.slice (some ⟨bu, ou, none⟩) 2 c2) := fun W3 h => (World.cell?_of_block (h.block _ (Array.getElem?_eq_some_iff.1 HU3.out).1 (by simp))).trans u31
  have fV4 : ∀ W3 : World, w3.grownBy W3 none → W3.cell? ⟨W.heap.size + 1 + 1, 4, none⟩ = some (.slice (some ⟨bv, ov, none⟩) 2 ac) := fun W3 h => (World.cell?_of_block (h.block _ (Array.getElem?_eq_some_iff.1 HX3.out).1 (by simp))).trans x34
  clear ct00 ct01 cy00 cy01 cv00 cv01 cv02 cv03 cv04 cv05 cv06 ct10 ct11 cy10 cy11 cv10 cv11 cv12 cv13 cv14 cv15 cv16 qbt qbu qbv rbt rbu rbv
  go_wp2_with fail
  go_region_held3 (fun w' => w3.grownBy w' none) (first | assumption | exact grow_drew (grow_refl _ _)) (first
    | (go_at_call 7; refine (HR.out _ _ _ (by assumption) _ (Lf.gbt HG3.out (by assumption))).mono ?_; rintro e w' ⟨rfl, hg⟩; have hS := Lf.gbt (by assumption) hg))
  all_goals
    have HS9 := Lf.hide (Lf.gbt HG3.out hS)
    clear hS
    go_wp2_with fail
    go_ret
    exact ⟨rfl, HS9.out⟩

end Go.Proofs.Ytmmgihaoahhkjaa.valueOneType
