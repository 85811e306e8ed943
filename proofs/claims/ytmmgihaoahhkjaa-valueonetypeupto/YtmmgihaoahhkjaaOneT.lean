/- A value that can be compared is of one type alone, but for what an option or an or leaves open: the plain part, and ValueOneType's walk, given what Has and worth answer. -/
import Derived.Test.YtmmgihaoahhkjaaHasG
import Derived.Deep.RegionHeld3
import Derived.Deep.DeepCutAuto
namespace Go.Proofs.Ytmmgihaoahhkjaa.valueOneType
open Go.ChangeShapes Go.WideShapes Go.ChangeAt Go.RowKit
set_option linter.unusedVariables false

theorem formed_args1 {d : Nat} {T : Ty} (h : formedB d T = true) : (T.args.length : Int) = partsF T.t ∧ ∀ y ∈ T.args, formedB (d + 1) y = true := by
  obtain ⟨t, args⟩ := T
  simp only [formedB, Bool.and_eq_true, decide_eq_true_eq] at h
  refine ⟨h.1.2.2, fun y hy => ?_⟩
  have := h.2
  rw [formedBs_all, List.all_eq_true] at this
  exact this y hy

theorem has_k {T : Ty} {x : Va} (h : hasF T x = true) : x.k = T.t ∧ goodTy T = true ∧ fitsF T x = true ∧ ∃ l, partsOf T x = some l := by
  unfold hasF at h
  simp only [Bool.and_eq_true] at h
  obtain ⟨hg, hv⟩ := h
  rw [hasV_eq] at hv
  simp only [Bool.and_eq_true] at hv
  obtain ⟨⟨hf, hp⟩, _⟩ := hv
  have hf2 := hf
  simp only [fitsF, Bool.and_eq_true, decide_eq_true_eq] at hf2
  refine ⟨hf2.1.1.1.1.1, hg, hf, ?_⟩
  cases hq : partsOf T x with
  | none => rw [hq] at hp; cases hp
  | some l => exact ⟨l, rfl⟩

theorem pair_len {T : Ty} {x : Va} (h : hasF T x = true) (h11 : T.t = 11) : T.args.length = 2 ∧ x.args.length = 2 := by
  obtain ⟨_, hg, _, l, hl⟩ := has_k h
  have h1 := (formed_args1 (goodTy_formed hg).1).1
  rw [h11] at h1
  have h2 : T.args.length = 2 := by simp [partsF] at h1; omega
  refine ⟨h2, ?_⟩
  simp only [partsOf, argTys, h11, Option.map_eq_some_iff] at hl
  obtain ⟨ts, hts, _⟩ := hl
  simp at hts
  omega

theorem flat_same {T U : Ty} {x : Va} (h : hasF T x = true) (h' : hasF U x = true) (hc : compT T = true) (h9 : T.t ≠ 9) (h11 : T.t ≠ 11) (h12 : T.t ≠ 12) : sameT T U = true := by
  obtain ⟨k1, g1, _, _⟩ := has_k h
  obtain ⟨k2, g2, _, _⟩ := has_k h'
  have e1 := (formed_args1 (goodTy_formed g1).1).1
  have e2 := (formed_args1 (goodTy_formed g2).1).1
  have hcb : compB T.t = true := by
    obtain ⟨t, args⟩ := T
    simp only [compT, allF, Bool.and_eq_true] at hc
    exact hc.1
  simp only [compB, decide_eq_true_eq] at hcb
  have hp : partsF T.t = 0 := by unfold partsF; rw [if_neg (by omega), if_neg (by omega)]
  have hU : U.t = T.t := by omega
  rw [hp] at e1
  rw [hU, hp] at e2
  obtain ⟨t, args⟩ := T
  obtain ⟨t', args'⟩ := U
  have n1 : args = [] := List.eq_nil_of_length_eq_zero (by simp only [Ty.args] at e1; omega)
  have n2 : args' = [] := List.eq_nil_of_length_eq_zero (by simp only [Ty.args] at e2; omega)
  simp only [Ty.t] at hU
  subst n1; subst n2; subst hU
  simp [sameT, sameTs]


theorem new_1of3 (w : World) (o1 o2 o3 : Obj) : (((w.alloc o1).alloc o2).alloc o3).heap[w.heap.size]? = some o1 := heap_keep (res_new w o1 o2)
theorem new_2of3' (w : World) (o1 o2 o3 : Obj) : (((w.alloc o1).alloc o2).alloc o3).heap[w.heap.size + 1]? = some o2 := by
  have h := res_new (w.alloc o1) o2 o3
  rwa [show (w.alloc o1).heap.size = w.heap.size + 1 from by simp] at h
theorem new_3of3' (w : World) (o1 o2 o3 : Obj) : (((w.alloc o1).alloc o2).alloc o3).heap[w.heap.size + 1 + 1]? = some o3 := by
  have h := heap_alloc_new ((w.alloc o1).alloc o2) o3
  rwa [show ((w.alloc o1).alloc o2).heap.size = w.heap.size + 1 + 1 from by simp] at h

/-- what Has, Comparable, Same and worth answer, in whatever world behind W -/
structure Says (W : World) (u u2 v : Value) (b1 b2 b3 b4 : Bool) : Prop where
  h1 : ∀ W2, W.grownBy W2 none → Calls Try.prog 10 #[u, v] W2 fun e w' => e = .returned (.bool b1) ∧ W2.grownBy w' none
  h2 : ∀ W2, W.grownBy W2 none → Calls Try.prog 10 #[u2, v] W2 fun e w' => e = .returned (.bool b2) ∧ W2.grownBy w' none
  h3 : b1 = true → ∀ W2, W.grownBy W2 none → Calls Try.prog 24 #[u] W2 fun e w' => e = .returned (.bool b3) ∧ W2.grownBy w' none
  h4 : b1 = true → ∀ W2, W.grownBy W2 none → Calls Try.prog 25 #[u, u2] W2 fun e w' => e = .returned (.bool b4) ∧ W2.grownBy w' none
  h5 : ∀ W2, W.grownBy W2 none → Calls Try.prog 17 #[] W2 fun e w' => e = .returned (.bool true) ∧ W2.grownBy w' none

set_option maxRecDepth 100000 in
set_option maxHeartbeats 1000000 in
theorem no1 {W : World} {tt ut xk xn xa : Int} {xs : ByteArray} {a a2 aa ta na : Option Addr} {tn un xl yl cl c c2 ac tc nc : Nat} {b1 b2 b3 b4 : Bool} (hs : Says W (tyV tt a tn c) (tyV ut a2 un c2) (vaV xk xn xa xs aa xl ac ta yl tc na cl nc) b1 b2 b3 b4) (h1 : b1 = false) :
    Calls Try.prog 7 #[tyV tt a tn c, tyV ut a2 un c2, vaV xk xn xa xs aa xl ac ta yl tc na cl nc] W fun e w' => e = .returned (.bool true) ∧ W.grownBy w' none := by
  subst h1
  have HS := Lf.hide hs
  clear hs
  unfold tyV vaV at *
  have HT0 := Lf.hide (new_1of3 W (.cells #[.int .i64 tt, .slice a tn c] 24) (.cells #[.int .i64 ut, .slice a2 un c2] 24) (.cells #[.int .i64 xk, .int .i64 xn, .int .i64 xa, .string xs, .slice aa xl ac, .slice ta yl tc, .slice na cl nc] 28))
  have HU0 := Lf.hide (new_2of3' W (.cells #[.int .i64 tt, .slice a tn c] 24) (.cells #[.int .i64 ut, .slice a2 un c2] 24) (.cells #[.int .i64 xk, .int .i64 xn, .int .i64 xa, .string xs, .slice aa xl ac, .slice ta yl tc, .slice na cl nc] 28))
  have HX0 := Lf.hide (new_3of3' W (.cells #[.int .i64 tt, .slice a tn c] 24) (.cells #[.int .i64 ut, .slice a2 un c2] 24) (.cells #[.int .i64 xk, .int .i64 xn, .int .i64 xa, .string xs, .slice aa xl ac, .slice ta yl tc, .slice na cl nc] 28))
  have HG0 := Lf.hide (Lf.gbt (Lf.gbt (Lf.gb (w := W) (.cells #[.int .i64 tt, .slice a tn c] 24)) (Lf.gb (.cells #[.int .i64 ut, .slice a2 un c2] 24))) (Lf.gb (.cells #[.int .i64 xk, .int .i64 xn, .int .i64 xa, .string xs, .slice aa xl ac, .slice ta yl tc, .slice na cl nc] 28)))
  go_enter Try.func7, Try.ntmps7
  go_wp2_with fail
  refine (HS.out.h1 _ HG0.out).mono ?_; rintro e w1 ⟨rfl, hg⟩
  have HT1 := Lf.hide ((hg.block _ (Array.getElem?_eq_some_iff.1 HT0.out).1 (by simp)).trans HT0.out)
  have HU1 := Lf.hide ((hg.block _ (Array.getElem?_eq_some_iff.1 HU0.out).1 (by simp)).trans HU0.out)
  have HX1 := Lf.hide ((hg.block _ (Array.getElem?_eq_some_iff.1 HX0.out).1 (by simp)).trans HX0.out)
  have HG1 := Lf.hide (Lf.gbt HG0.out hg)
  have t10 := cell0_of HT1.out
  have t11 := cell1_of HT1.out
  have u10 := cell0_of HU1.out
  have u11 := cell1_of HU1.out
  obtain ⟨x10, x11, x12, x13, x14, x15, x16⟩ := box7 HX1.out
  clear hg
  go_wp2_with fail
  refine (HS.out.h5 _ HG1.out).mono ?_; rintro e w9 ⟨rfl, hg⟩
  have HG9 := Lf.hide (Lf.gbt HG1.out hg)
  clear hg
  go_wp2_with fail
  go_ret
  exact ⟨rfl, HG9.out⟩

set_option maxRecDepth 100000 in
set_option maxHeartbeats 1000000 in
theorem no2 {W : World} {tt ut xk xn xa : Int} {xs : ByteArray} {a a2 aa ta na : Option Addr} {tn un xl yl cl c c2 ac tc nc : Nat} {b1 b2 b3 b4 : Bool} (hs : Says W (tyV tt a tn c) (tyV ut a2 un c2) (vaV xk xn xa xs aa xl ac ta yl tc na cl nc) b1 b2 b3 b4) (h1 : b1 = true) (h2 : b2 = false) :
    Calls Try.prog 7 #[tyV tt a tn c, tyV ut a2 un c2, vaV xk xn xa xs aa xl ac ta yl tc na cl nc] W fun e w' => e = .returned (.bool true) ∧ W.grownBy w' none := by
  subst h1; subst h2
  have HS := Lf.hide hs
  clear hs
  unfold tyV vaV at *
  have HT0 := Lf.hide (new_1of3 W (.cells #[.int .i64 tt, .slice a tn c] 24) (.cells #[.int .i64 ut, .slice a2 un c2] 24) (.cells #[.int .i64 xk, .int .i64 xn, .int .i64 xa, .string xs, .slice aa xl ac, .slice ta yl tc, .slice na cl nc] 28))
  have HU0 := Lf.hide (new_2of3' W (.cells #[.int .i64 tt, .slice a tn c] 24) (.cells #[.int .i64 ut, .slice a2 un c2] 24) (.cells #[.int .i64 xk, .int .i64 xn, .int .i64 xa, .string xs, .slice aa xl ac, .slice ta yl tc, .slice na cl nc] 28))
  have HX0 := Lf.hide (new_3of3' W (.cells #[.int .i64 tt, .slice a tn c] 24) (.cells #[.int .i64 ut, .slice a2 un c2] 24) (.cells #[.int .i64 xk, .int .i64 xn, .int .i64 xa, .string xs, .slice aa xl ac, .slice ta yl tc, .slice na cl nc] 28))
  have HG0 := Lf.hide (Lf.gbt (Lf.gbt (Lf.gb (w := W) (.cells #[.int .i64 tt, .slice a tn c] 24)) (Lf.gb (.cells #[.int .i64 ut, .slice a2 un c2] 24))) (Lf.gb (.cells #[.int .i64 xk, .int .i64 xn, .int .i64 xa, .string xs, .slice aa xl ac, .slice ta yl tc, .slice na cl nc] 28)))
  go_enter Try.func7, Try.ntmps7
  go_wp2_with fail
  refine (HS.out.h1 _ HG0.out).mono ?_; rintro e w1 ⟨rfl, hg⟩
  have HT1 := Lf.hide ((hg.block _ (Array.getElem?_eq_some_iff.1 HT0.out).1 (by simp)).trans HT0.out)
  have HU1 := Lf.hide ((hg.block _ (Array.getElem?_eq_some_iff.1 HU0.out).1 (by simp)).trans HU0.out)
  have HX1 := Lf.hide ((hg.block _ (Array.getElem?_eq_some_iff.1 HX0.out).1 (by simp)).trans HX0.out)
  have HG1 := Lf.hide (Lf.gbt HG0.out hg)
  have t10 := cell0_of HT1.out
  have t11 := cell1_of HT1.out
  have u10 := cell0_of HU1.out
  have u11 := cell1_of HU1.out
  obtain ⟨x10, x11, x12, x13, x14, x15, x16⟩ := box7 HX1.out
  clear hg
  go_wp2_with fail
  refine (HS.out.h2 _ HG1.out).mono ?_; rintro e w2 ⟨rfl, hg⟩
  have HT2 := Lf.hide ((hg.block _ (Array.getElem?_eq_some_iff.1 HT1.out).1 (by simp)).trans HT1.out)
  have HU2 := Lf.hide ((hg.block _ (Array.getElem?_eq_some_iff.1 HU1.out).1 (by simp)).trans HU1.out)
  have HX2 := Lf.hide ((hg.block _ (Array.getElem?_eq_some_iff.1 HX1.out).1 (by simp)).trans HX1.out)
  have HG2 := Lf.hide (Lf.gbt HG1.out hg)
  have t20 := cell0_of HT2.out
  have t21 := cell1_of HT2.out
  have u20 := cell0_of HU2.out
  have u21 := cell1_of HU2.out
  obtain ⟨x20, x21, x22, x23, x24, x25, x26⟩ := box7 HX2.out
  clear hg
  clear t10 t11 u10 u11 x10 x11 x12 x13 x14 x15 x16
  go_wp2_with fail
  refine (HS.out.h5 _ HG2.out).mono ?_; rintro e w9 ⟨rfl, hg⟩
  have HG9 := Lf.hide (Lf.gbt HG2.out hg)
  clear hg
  go_wp2_with fail
  go_ret
  exact ⟨rfl, HG9.out⟩

set_option maxRecDepth 100000 in
set_option maxHeartbeats 1000000 in
theorem no9 {W : World} {tt ut xk xn xa : Int} {xs : ByteArray} {a a2 aa ta na : Option Addr} {tn un xl yl cl c c2 ac tc nc : Nat} {b1 b2 b3 b4 : Bool} (hs : Says W (tyV tt a tn c) (tyV ut a2 un c2) (vaV xk xn xa xs aa xl ac ta yl tc na cl nc) b1 b2 b3 b4) (h1 : b1 = true) (h2 : b2 = true) (h9 : tt = 9) :
    Calls Try.prog 7 #[tyV tt a tn c, tyV ut a2 un c2, vaV xk xn xa xs aa xl ac ta yl tc na cl nc] W fun e w' => e = .returned (.bool true) ∧ W.grownBy w' none := by
  subst h1; subst h2; subst h9
  have HS := Lf.hide hs
  clear hs
  unfold tyV vaV at *
  have HT0 := Lf.hide (new_1of3 W (.cells #[.int .i64 9, .slice a tn c] 24) (.cells #[.int .i64 ut, .slice a2 un c2] 24) (.cells #[.int .i64 xk, .int .i64 xn, .int .i64 xa, .string xs, .slice aa xl ac, .slice ta yl tc, .slice na cl nc] 28))
  have HU0 := Lf.hide (new_2of3' W (.cells #[.int .i64 9, .slice a tn c] 24) (.cells #[.int .i64 ut, .slice a2 un c2] 24) (.cells #[.int .i64 xk, .int .i64 xn, .int .i64 xa, .string xs, .slice aa xl ac, .slice ta yl tc, .slice na cl nc] 28))
  have HX0 := Lf.hide (new_3of3' W (.cells #[.int .i64 9, .slice a tn c] 24) (.cells #[.int .i64 ut, .slice a2 un c2] 24) (.cells #[.int .i64 xk, .int .i64 xn, .int .i64 xa, .string xs, .slice aa xl ac, .slice ta yl tc, .slice na cl nc] 28))
  have HG0 := Lf.hide (Lf.gbt (Lf.gbt (Lf.gb (w := W) (.cells #[.int .i64 9, .slice a tn c] 24)) (Lf.gb (.cells #[.int .i64 ut, .slice a2 un c2] 24))) (Lf.gb (.cells #[.int .i64 xk, .int .i64 xn, .int .i64 xa, .string xs, .slice aa xl ac, .slice ta yl tc, .slice na cl nc] 28)))
  go_enter Try.func7, Try.ntmps7
  go_wp2_with fail
  refine (HS.out.h1 _ HG0.out).mono ?_; rintro e w1 ⟨rfl, hg⟩
  have HT1 := Lf.hide ((hg.block _ (Array.getElem?_eq_some_iff.1 HT0.out).1 (by simp)).trans HT0.out)
  have HU1 := Lf.hide ((hg.block _ (Array.getElem?_eq_some_iff.1 HU0.out).1 (by simp)).trans HU0.out)
  have HX1 := Lf.hide ((hg.block _ (Array.getElem?_eq_some_iff.1 HX0.out).1 (by simp)).trans HX0.out)
  have HG1 := Lf.hide (Lf.gbt HG0.out hg)
  have t10 := cell0_of HT1.out
  have t11 := cell1_of HT1.out
  have u10 := cell0_of HU1.out
  have u11 := cell1_of HU1.out
  obtain ⟨x10, x11, x12, x13, x14, x15, x16⟩ := box7 HX1.out
  clear hg
  go_wp2_with fail
  refine (HS.out.h2 _ HG1.out).mono ?_; rintro e w2 ⟨rfl, hg⟩
  have HT2 := Lf.hide ((hg.block _ (Array.getElem?_eq_some_iff.1 HT1.out).1 (by simp)).trans HT1.out)
  have HU2 := Lf.hide ((hg.block _ (Array.getElem?_eq_some_iff.1 HU1.out).1 (by simp)).trans HU1.out)
  have HX2 := Lf.hide ((hg.block _ (Array.getElem?_eq_some_iff.1 HX1.out).1 (by simp)).trans HX1.out)
  have HG2 := Lf.hide (Lf.gbt HG1.out hg)
  have t20 := cell0_of HT2.out
  have t21 := cell1_of HT2.out
  have u20 := cell0_of HU2.out
  have u21 := cell1_of HU2.out
  obtain ⟨x20, x21, x22, x23, x24, x25, x26⟩ := box7 HX2.out
  clear hg
  clear t10 t11 u10 u11 x10 x11 x12 x13 x14 x15 x16
  go_wp2_with fail
  refine (HS.out.h5 _ HG2.out).mono ?_; rintro e w9 ⟨rfl, hg⟩
  have HG9 := Lf.hide (Lf.gbt HG2.out hg)
  clear hg
  go_wp2_with fail
  go_ret
  exact ⟨rfl, HG9.out⟩

set_option maxRecDepth 100000 in
set_option maxHeartbeats 1000000 in
theorem no12 {W : World} {tt ut xk xn xa : Int} {xs : ByteArray} {a a2 aa ta na : Option Addr} {tn un xl yl cl c c2 ac tc nc : Nat} {b1 b2 b3 b4 : Bool} (hs : Says W (tyV tt a tn c) (tyV ut a2 un c2) (vaV xk xn xa xs aa xl ac ta yl tc na cl nc) b1 b2 b3 b4) (h1 : b1 = true) (h2 : b2 = true) (h12 : tt = 12) :
    Calls Try.prog 7 #[tyV tt a tn c, tyV ut a2 un c2, vaV xk xn xa xs aa xl ac ta yl tc na cl nc] W fun e w' => e = .returned (.bool true) ∧ W.grownBy w' none := by
  subst h1; subst h2; subst h12
  have HS := Lf.hide hs
  clear hs
  unfold tyV vaV at *
  have HT0 := Lf.hide (new_1of3 W (.cells #[.int .i64 12, .slice a tn c] 24) (.cells #[.int .i64 ut, .slice a2 un c2] 24) (.cells #[.int .i64 xk, .int .i64 xn, .int .i64 xa, .string xs, .slice aa xl ac, .slice ta yl tc, .slice na cl nc] 28))
  have HU0 := Lf.hide (new_2of3' W (.cells #[.int .i64 12, .slice a tn c] 24) (.cells #[.int .i64 ut, .slice a2 un c2] 24) (.cells #[.int .i64 xk, .int .i64 xn, .int .i64 xa, .string xs, .slice aa xl ac, .slice ta yl tc, .slice na cl nc] 28))
  have HX0 := Lf.hide (new_3of3' W (.cells #[.int .i64 12, .slice a tn c] 24) (.cells #[.int .i64 ut, .slice a2 un c2] 24) (.cells #[.int .i64 xk, .int .i64 xn, .int .i64 xa, .string xs, .slice aa xl ac, .slice ta yl tc, .slice na cl nc] 28))
  have HG0 := Lf.hide (Lf.gbt (Lf.gbt (Lf.gb (w := W) (.cells #[.int .i64 12, .slice a tn c] 24)) (Lf.gb (.cells #[.int .i64 ut, .slice a2 un c2] 24))) (Lf.gb (.cells #[.int .i64 xk, .int .i64 xn, .int .i64 xa, .string xs, .slice aa xl ac, .slice ta yl tc, .slice na cl nc] 28)))
  go_enter Try.func7, Try.ntmps7
  go_wp2_with fail
  refine (HS.out.h1 _ HG0.out).mono ?_; rintro e w1 ⟨rfl, hg⟩
  have HT1 := Lf.hide ((hg.block _ (Array.getElem?_eq_some_iff.1 HT0.out).1 (by simp)).trans HT0.out)
  have HU1 := Lf.hide ((hg.block _ (Array.getElem?_eq_some_iff.1 HU0.out).1 (by simp)).trans HU0.out)
  have HX1 := Lf.hide ((hg.block _ (Array.getElem?_eq_some_iff.1 HX0.out).1 (by simp)).trans HX0.out)
  have HG1 := Lf.hide (Lf.gbt HG0.out hg)
  have t10 := cell0_of HT1.out
  have t11 := cell1_of HT1.out
  have u10 := cell0_of HU1.out
  have u11 := cell1_of HU1.out
  obtain ⟨x10, x11, x12, x13, x14, x15, x16⟩ := box7 HX1.out
  clear hg
  go_wp2_with fail
  refine (HS.out.h2 _ HG1.out).mono ?_; rintro e w2 ⟨rfl, hg⟩
  have HT2 := Lf.hide ((hg.block _ (Array.getElem?_eq_some_iff.1 HT1.out).1 (by simp)).trans HT1.out)
  have HU2 := Lf.hide ((hg.block _ (Array.getElem?_eq_some_iff.1 HU1.out).1 (by simp)).trans HU1.out)
  have HX2 := Lf.hide ((hg.block _ (Array.getElem?_eq_some_iff.1 HX1.out).1 (by simp)).trans HX1.out)
  have HG2 := Lf.hide (Lf.gbt HG1.out hg)
  have t20 := cell0_of HT2.out
  have t21 := cell1_of HT2.out
  have u20 := cell0_of HU2.out
  have u21 := cell1_of HU2.out
  obtain ⟨x20, x21, x22, x23, x24, x25, x26⟩ := box7 HX2.out
  clear hg
  clear t10 t11 u10 u11 x10 x11 x12 x13 x14 x15 x16
  go_wp2_with fail
  refine (HS.out.h5 _ HG2.out).mono ?_; rintro e w9 ⟨rfl, hg⟩
  have HG9 := Lf.hide (Lf.gbt HG2.out hg)
  clear hg
  go_wp2_with fail
  go_ret
  exact ⟨rfl, HG9.out⟩

set_option maxRecDepth 100000 in
set_option maxHeartbeats 1000000 in
theorem no3 {W : World} {tt ut xk xn xa : Int} {xs : ByteArray} {a a2 aa ta na : Option Addr} {tn un xl yl cl c c2 ac tc nc : Nat} {b1 b2 b3 b4 : Bool} (hs : Says W (tyV tt a tn c) (tyV ut a2 un c2) (vaV xk xn xa xs aa xl ac ta yl tc na cl nc) b1 b2 b3 b4) (h1 : b1 = true) (h2 : b2 = true) (h9 : ¬ tt = 9) (h12 : ¬ tt = 12) (h3 : b3 = false) :
    Calls Try.prog 7 #[tyV tt a tn c, tyV ut a2 un c2, vaV xk xn xa xs aa xl ac ta yl tc na cl nc] W fun e w' => e = .returned (.bool true) ∧ W.grownBy w' none := by
  subst h1; subst h2; subst h3
  have q9 : (tt == 9) = false := by simpa using h9
  have q12 : (tt == 12) = false := by simpa using h12
  have HS := Lf.hide hs
  clear hs
  unfold tyV vaV at *
  have HT0 := Lf.hide (new_1of3 W (.cells #[.int .i64 tt, .slice a tn c] 24) (.cells #[.int .i64 ut, .slice a2 un c2] 24) (.cells #[.int .i64 xk, .int .i64 xn, .int .i64 xa, .string xs, .slice aa xl ac, .slice ta yl tc, .slice na cl nc] 28))
  have HU0 := Lf.hide (new_2of3' W (.cells #[.int .i64 tt, .slice a tn c] 24) (.cells #[.int .i64 ut, .slice a2 un c2] 24) (.cells #[.int .i64 xk, .int .i64 xn, .int .i64 xa, .string xs, .slice aa xl ac, .slice ta yl tc, .slice na cl nc] 28))
  have HX0 := Lf.hide (new_3of3' W (.cells #[.int .i64 tt, .slice a tn c] 24) (.cells #[.int .i64 ut, .slice a2 un c2] 24) (.cells #[.int .i64 xk, .int .i64 xn, .int .i64 xa, .string xs, .slice aa xl ac, .slice ta yl tc, .slice na cl nc] 28))
  have HG0 := Lf.hide (Lf.gbt (Lf.gbt (Lf.gb (w := W) (.cells #[.int .i64 tt, .slice a tn c] 24)) (Lf.gb (.cells #[.int .i64 ut, .slice a2 un c2] 24))) (Lf.gb (.cells #[.int .i64 xk, .int .i64 xn, .int .i64 xa, .string xs, .slice aa xl ac, .slice ta yl tc, .slice na cl nc] 28)))
  go_enter Try.func7, Try.ntmps7
  go_wp2_with fail
  refine (HS.out.h1 _ HG0.out).mono ?_; rintro e w1 ⟨rfl, hg⟩
  have HT1 := Lf.hide ((hg.block _ (Array.getElem?_eq_some_iff.1 HT0.out).1 (by simp)).trans HT0.out)
  have HU1 := Lf.hide ((hg.block _ (Array.getElem?_eq_some_iff.1 HU0.out).1 (by simp)).trans HU0.out)
  have HX1 := Lf.hide ((hg.block _ (Array.getElem?_eq_some_iff.1 HX0.out).1 (by simp)).trans HX0.out)
  have HG1 := Lf.hide (Lf.gbt HG0.out hg)
  have t10 := cell0_of HT1.out
  have t11 := cell1_of HT1.out
  have u10 := cell0_of HU1.out
  have u11 := cell1_of HU1.out
  obtain ⟨x10, x11, x12, x13, x14, x15, x16⟩ := box7 HX1.out
  clear hg
  go_wp2_with fail
  refine (HS.out.h2 _ HG1.out).mono ?_; rintro e w2 ⟨rfl, hg⟩
  have HT2 := Lf.hide ((hg.block _ (Array.getElem?_eq_some_iff.1 HT1.out).1 (by simp)).trans HT1.out)
  have HU2 := Lf.hide ((hg.block _ (Array.getElem?_eq_some_iff.1 HU1.out).1 (by simp)).trans HU1.out)
  have HX2 := Lf.hide ((hg.block _ (Array.getElem?_eq_some_iff.1 HX1.out).1 (by simp)).trans HX1.out)
  have HG2 := Lf.hide (Lf.gbt HG1.out hg)
  have t20 := cell0_of HT2.out
  have t21 := cell1_of HT2.out
  have u20 := cell0_of HU2.out
  have u21 := cell1_of HU2.out
  obtain ⟨x20, x21, x22, x23, x24, x25, x26⟩ := box7 HX2.out
  clear hg
  clear t10 t11 u10 u11 x10 x11 x12 x13 x14 x15 x16
  go_wp2_with fail
  refine (HS.out.h3 rfl _ HG2.out).mono ?_; rintro e w3 ⟨rfl, hg⟩
  have HT3 := Lf.hide ((hg.block _ (Array.getElem?_eq_some_iff.1 HT2.out).1 (by simp)).trans HT2.out)
  have HU3 := Lf.hide ((hg.block _ (Array.getElem?_eq_some_iff.1 HU2.out).1 (by simp)).trans HU2.out)
  have HX3 := Lf.hide ((hg.block _ (Array.getElem?_eq_some_iff.1 HX2.out).1 (by simp)).trans HX2.out)
  have HG3 := Lf.hide (Lf.gbt HG2.out hg)
  have t30 := cell0_of HT3.out
  have t31 := cell1_of HT3.out
  have u30 := cell0_of HU3.out
  have u31 := cell1_of HU3.out
  obtain ⟨x30, x31, x32, x33, x34, x35, x36⟩ := box7 HX3.out
  clear hg
  clear t20 t21 u20 u21 x20 x21 x22 x23 x24 x25 x26
  go_wp2_with fail
  refine (HS.out.h5 _ HG3.out).mono ?_; rintro e w9 ⟨rfl, hg⟩
  have HG9 := Lf.hide (Lf.gbt HG3.out hg)
  clear hg
  go_wp2_with fail
  go_ret
  exact ⟨rfl, HG9.out⟩

set_option maxRecDepth 100000 in
set_option maxHeartbeats 1000000 in
theorem flat {W : World} {tt ut xk xn xa : Int} {xs : ByteArray} {a a2 aa ta na : Option Addr} {tn un xl yl cl c c2 ac tc nc : Nat} {b1 b2 b3 b4 : Bool} (hs : Says W (tyV tt a tn c) (tyV ut a2 un c2) (vaV xk xn xa xs aa xl ac ta yl tc na cl nc) b1 b2 b3 b4) (h1 : b1 = true) (h2 : b2 = true) (h9 : ¬ tt = 9) (h12 : ¬ tt = 12) (h3 : b3 = true) (h11 : ¬ tt = 11) (h4 : b4 = true) :
    Calls Try.prog 7 #[tyV tt a tn c, tyV ut a2 un c2, vaV xk xn xa xs aa xl ac ta yl tc na cl nc] W fun e w' => e = .returned (.bool true) ∧ W.grownBy w' none := by
  subst h1; subst h2; subst h3; subst h4
  have q9 : (tt == 9) = false := by simpa using h9
  have q12 : (tt == 12) = false := by simpa using h12
  have q11 : (tt == 11) = false := by simpa using h11
  have HS := Lf.hide hs
  clear hs
  unfold tyV vaV at *
  have HT0 := Lf.hide (new_1of3 W (.cells #[.int .i64 tt, .slice a tn c] 24) (.cells #[.int .i64 ut, .slice a2 un c2] 24) (.cells #[.int .i64 xk, .int .i64 xn, .int .i64 xa, .string xs, .slice aa xl ac, .slice ta yl tc, .slice na cl nc] 28))
  have HU0 := Lf.hide (new_2of3' W (.cells #[.int .i64 tt, .slice a tn c] 24) (.cells #[.int .i64 ut, .slice a2 un c2] 24) (.cells #[.int .i64 xk, .int .i64 xn, .int .i64 xa, .string xs, .slice aa xl ac, .slice ta yl tc, .slice na cl nc] 28))
  have HX0 := Lf.hide (new_3of3' W (.cells #[.int .i64 tt, .slice a tn c] 24) (.cells #[.int .i64 ut, .slice a2 un c2] 24) (.cells #[.int .i64 xk, .int .i64 xn, .int .i64 xa, .string xs, .slice aa xl ac, .slice ta yl tc, .slice na cl nc] 28))
  have HG0 := Lf.hide (Lf.gbt (Lf.gbt (Lf.gb (w := W) (.cells #[.int .i64 tt, .slice a tn c] 24)) (Lf.gb (.cells #[.int .i64 ut, .slice a2 un c2] 24))) (Lf.gb (.cells #[.int .i64 xk, .int .i64 xn, .int .i64 xa, .string xs, .slice aa xl ac, .slice ta yl tc, .slice na cl nc] 28)))
  go_enter Try.func7, Try.ntmps7
  go_wp2_with fail
  refine (HS.out.h1 _ HG0.out).mono ?_; rintro e w1 ⟨rfl, hg⟩
  have HT1 := Lf.hide ((hg.block _ (Array.getElem?_eq_some_iff.1 HT0.out).1 (by simp)).trans HT0.out)
  have HU1 := Lf.hide ((hg.block _ (Array.getElem?_eq_some_iff.1 HU0.out).1 (by simp)).trans HU0.out)
  have HX1 := Lf.hide ((hg.block _ (Array.getElem?_eq_some_iff.1 HX0.out).1 (by simp)).trans HX0.out)
  have HG1 := Lf.hide (Lf.gbt HG0.out hg)
  have t10 := cell0_of HT1.out
  have t11 := cell1_of HT1.out
  have u10 := cell0_of HU1.out
  have u11 := cell1_of HU1.out
  obtain ⟨x10, x11, x12, x13, x14, x15, x16⟩ := box7 HX1.out
  clear hg
  go_wp2_with fail
  refine (HS.out.h2 _ HG1.out).mono ?_; rintro e w2 ⟨rfl, hg⟩
  have HT2 := Lf.hide ((hg.block _ (Array.getElem?_eq_some_iff.1 HT1.out).1 (by simp)).trans HT1.out)
  have HU2 := Lf.hide ((hg.block _ (Array.getElem?_eq_some_iff.1 HU1.out).1 (by simp)).trans HU1.out)
  have HX2 := Lf.hide ((hg.block _ (Array.getElem?_eq_some_iff.1 HX1.out).1 (by simp)).trans HX1.out)
  have HG2 := Lf.hide (Lf.gbt HG1.out hg)
  have t20 := cell0_of HT2.out
  have t21 := cell1_of HT2.out
  have u20 := cell0_of HU2.out
  have u21 := cell1_of HU2.out
  obtain ⟨x20, x21, x22, x23, x24, x25, x26⟩ := box7 HX2.out
  clear hg
  clear t10 t11 u10 u11 x10 x11 x12 x13 x14 x15 x16
  go_wp2_with fail
  refine (HS.out.h3 rfl _ HG2.out).mono ?_; rintro e w3 ⟨rfl, hg⟩
  have HT3 := Lf.hide ((hg.block _ (Array.getElem?_eq_some_iff.1 HT2.out).1 (by simp)).trans HT2.out)
  have HU3 := Lf.hide ((hg.block _ (Array.getElem?_eq_some_iff.1 HU2.out).1 (by simp)).trans HU2.out)
  have HX3 := Lf.hide ((hg.block _ (Array.getElem?_eq_some_iff.1 HX2.out).1 (by simp)).trans HX2.out)
  have HG3 := Lf.hide (Lf.gbt HG2.out hg)
  have t30 := cell0_of HT3.out
  have t31 := cell1_of HT3.out
  have u30 := cell0_of HU3.out
  have u31 := cell1_of HU3.out
  obtain ⟨x30, x31, x32, x33, x34, x35, x36⟩ := box7 HX3.out
  clear hg
  clear t20 t21 u20 u21 x20 x21 x22 x23 x24 x25 x26
  go_wp2_with fail
  refine (HS.out.h4 rfl _ HG3.out).mono ?_; rintro e w4 ⟨rfl, hg⟩
  have HT4 := Lf.hide ((hg.block _ (Array.getElem?_eq_some_iff.1 HT3.out).1 (by simp)).trans HT3.out)
  have HU4 := Lf.hide ((hg.block _ (Array.getElem?_eq_some_iff.1 HU3.out).1 (by simp)).trans HU3.out)
  have HX4 := Lf.hide ((hg.block _ (Array.getElem?_eq_some_iff.1 HX3.out).1 (by simp)).trans HX3.out)
  have HG4 := Lf.hide (Lf.gbt HG3.out hg)
  have t40 := cell0_of HT4.out
  have t41 := cell1_of HT4.out
  have u40 := cell0_of HU4.out
  have u41 := cell1_of HU4.out
  obtain ⟨x40, x41, x42, x43, x44, x45, x46⟩ := box7 HX4.out
  clear hg
  clear t30 t31 u30 u31 x30 x31 x32 x33 x34 x35 x36
  go_wp2_with fail
  refine (HS.out.h5 _ HG4.out).mono ?_; rintro e w9 ⟨rfl, hg⟩
  have HG9 := Lf.hide (Lf.gbt HG4.out hg)
  clear hg
  go_wp2_with fail
  go_ret
  exact ⟨rfl, HG9.out⟩

end Go.Proofs.Ytmmgihaoahhkjaa.valueOneType
