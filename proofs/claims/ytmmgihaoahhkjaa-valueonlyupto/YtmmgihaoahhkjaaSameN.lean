/- sameCode of two empty rows of trees, and Same's comparing of two values without Types and Code. -/
import Derived.Test.YtmmgihaoahhkjaaValA
import Derived.Test.YtmmgihaoahhkjaaHasCC
import Derived.Test.YtmmgihaoahhkjaaSideA
import Derived.Deep.RegionHeld3
import Derived.Deep.DeepCutAuto
namespace Go.Proofs.Ytmmgihaoahhkjaa
open Go.ChangeShapes Go.WideShapes Go.ChangeAt Go.RowKit
set_option linter.unusedVariables false

set_option maxRecDepth 100000 in
set_option maxHeartbeats 1000000 in
theorem sideN0_any (a b : Option Addr) (ca cb : Nat) (f1 f2 : Value) (W : World) : Calls Try.prog 79 #[.slice a 0 ca, .slice b 0 cb, f1, f2] W fun e w' => e = .returned (.int .i64 0) ∧ W.grownBy w' none := by
  have HCI : Hid (∀ w, Calls Try.prog 59 #[.int .i64 0, .int .i64 0] w fun e w' => e = .returned (.int .i64 0) ∧ w' = w) := fun w => cmpI_any 0 0 w
  go_enter Try.func79, Try.ntmps79
  go_wp2_with fail
  go_loopw [9] (fun tv wr => (tv = .slice (some ⟨W.heap.size, 0, none⟩) 1 1 ∨ tv = .slice (some ⟨W.heap.size, 0, none⟩) 0 1) ∧ W.grownBy wr none ∧ wr.heap[W.heap.size]? = some (.cells #[.slice a 0 ca, .slice b 0 cb] 125 (0, 0))) (fun tv _ => match tv with
    | .slice _ n _ => n
    | _ => 0)
  case atStart => exact ⟨.inl rfl, Lf.gb _, heap_alloc_new _ _⟩
  case round =>
    obtain ⟨hh, hg, hb⟩ := hrel
    have HG := Lf.hide hg
    have HB := Lf.hide hb
    have c0 := cell0_of hb
    have c1 := cell1_of hb
    clear hg hb
    rcases hh with rfl | rfl
    · go_wp2_with fail
      go_quiet ((go_at_call 59; exact Calls.quiet_of_same (HCI.out _)))
      go_wp2_with fail
      go_roundw
      case rel => exact ⟨.inr rfl, grow_drewN HG.out, HB.out⟩
      case measure => simp
    · go_wp2_with fail
      go_ret
      exact ⟨rfl, HG.out⟩

set_option maxRecDepth 100000 in
theorem sameCode0_any (a b : Option Addr) (ca cb : Nat) (W : World) : Calls Try.prog 41 #[.slice a 0 ca, .slice b 0 cb] W fun e w' => e = .returned (.bool true) ∧ W.grownBy w' none := by
  have H := Lf.hide (sideN0_any a b ca cb)
  go_enter Try.func41, Try.ntmps41
  go_wp2_with fail
  refine (H.out _ _ _).mono ?_; rintro e w1 ⟨rfl, hg⟩
  have HG := Lf.hide hg
  clear hg
  go_wp2_with fail
  go_ret
  exact ⟨rfl, HG.out⟩

set_option maxRecDepth 100000 in
set_option maxHeartbeats 2000000 in
theorem same1_any {w : World} {x y : Va} {u v : Value} (hx : LiesV (fun _ => True) w x u) (hy : LiesV (fun _ => True) w y v) (px : Plain x) (py : Plain y) (W : World) :
    Calls Try.prog 39 #[u, v] W fun e w' => e = .returned (.int .i64 (sameC x y)) ∧ W.grownBy w' none := by
  obtain ⟨aa, ac, ta, tc, na, nc, _, VT, _, rfl, _, _, hRT, _⟩ := hx.inv
  obtain ⟨aa2, ac2, ta2, tc2, na2, nc2, _, VT2, _, rfl, _, _, hRT2, _⟩ := hy.inv
  have HE : Hid (∀ W2, Calls Try.prog 40 #[.slice ta 0 tc, .slice ta2 0 tc2, .func (.func 25) #[] #[]] W2 fun e w' => e = .returned (.bool true) ∧ W2.grownBy w' none) := fun W2 =>
    eqTypes_any (x := []) (y := []) (V := VT) (V2 := VT2) (RowT.nil _ W2 _ _) (RowT.nil _ W2 _ _) (by simp [tysizes]) W2 (grow_refl _ _)
  have HC := Lf.hide (sameCode0_any na na2 nc nc2)
  have hR : sameC x y = if x.k = y.k ∧ x.n = y.n ∧ x.a = y.a ∧ x.s.toList = y.s.toList then 0 else 1 := rfl
  rw [px.bare.1, px.bare.2, py.bare.1, py.bare.2]
  simp only [List.length_nil]
  clear hx hy px py hRT hRT2
  generalize hq : sameC x y = q at *
  have HR := Lf.hide hR
  clear hR hq
  generalize x.k = xk at *
  generalize y.k = yk at *
  generalize x.n = xn at *
  generalize y.n = yn at *
  generalize x.a = xa at *
  generalize y.a = ya at *
  generalize x.s = xs at *
  generalize y.s = ys at *
  generalize x.args.length = xl at *
  generalize y.args.length = yl at *
  unfold vaV at *
  by_cases h1 : xk = yk
  · subst h1
    by_cases h2 : xn = yn
    · subst h2
      by_cases h3 : xa = ya
      · subst h3
        by_cases h4 : xs.toList = ys.toList
        · obtain rfl : xs = ys := by
            have h5 : xs.data = ys.data := by
              apply Array.ext'
              rw [ByteArray.toList_eq, ByteArray.toList_eq] at h4
              exact h4
            cases xs; cases ys; simp_all
          have HQ : Hid (q = 0) := by show q = 0; rw [HR.out, if_pos ⟨rfl, rfl, rfl, rfl⟩]
          clear HR h4
          have HG0 := Lf.hide (Lf.gbt (Lf.gb (w := W) (.cells #[.int .i64 xk, .int .i64 xn, .int .i64 xa, .string xs, .slice aa xl ac, .slice ta 0 tc, .slice na 0 nc] 28)) (Lf.gb (.cells #[.int .i64 xk, .int .i64 xn, .int .i64 xa, .string xs, .slice aa2 yl ac2, .slice ta2 0 tc2, .slice na2 0 nc2] 28)))
          have HX0 := Lf.hide (res_new W (.cells #[.int .i64 xk, .int .i64 xn, .int .i64 xa, .string xs, .slice aa xl ac, .slice ta 0 tc, .slice na 0 nc] 28) (.cells #[.int .i64 xk, .int .i64 xn, .int .i64 xa, .string xs, .slice aa2 yl ac2, .slice ta2 0 tc2, .slice na2 0 nc2] 28))
          have HY0 := Lf.hide (heap_alloc_new (W.alloc (.cells #[.int .i64 xk, .int .i64 xn, .int .i64 xa, .string xs, .slice aa xl ac, .slice ta 0 tc, .slice na 0 nc] 28)) (.cells #[.int .i64 xk, .int .i64 xn, .int .i64 xa, .string xs, .slice aa2 yl ac2, .slice ta2 0 tc2, .slice na2 0 nc2] 28))
          rw [show (W.alloc (.cells #[.int .i64 xk, .int .i64 xn, .int .i64 xa, .string xs, .slice aa xl ac, .slice ta 0 tc, .slice na 0 nc] 28)).heap.size = W.heap.size + 1 from by simp] at HY0
          go_enter Try.func39, Try.ntmps39
          go_wp2_with fail
          refine (HE.out _).mono ?_; rintro e w1 ⟨rfl, hg⟩
          obtain ⟨_, _, _, _, _, _, m6⟩ := box7 ((hg.block _ (Array.getElem?_eq_some_iff.1 HX0.out).1 (by simp)).trans HX0.out)
          obtain ⟨_, _, _, _, _, _, r6⟩ := box7 ((hg.block _ (Array.getElem?_eq_some_iff.1 HY0.out).1 (by simp)).trans HY0.out)
          have HG1 := Lf.hide (Lf.gbt HG0.out hg)
          clear hg
          go_wp2_with fail
          refine (HC.out _).mono ?_; rintro e w2 ⟨rfl, hg⟩
          have HG2 := Lf.hide (Lf.gbt HG1.out hg)
          clear hg
          go_wp2_with fail
          go_ret
          exact Lf.reti HQ.out.symm HG2.out
        · have z3 : ¬ xs.toList = ys.toList := h4
          have z1 : (xs.toList == ys.toList) = false := by simpa using h4
          have HQ : Hid (q = 1) := by show q = 1; rw [HR.out, if_neg (fun e => h4 e.2.2.2)]
          clear HR
          go_enter Try.func39, Try.ntmps39
          go_wp2_with fail
          go_ret
          exact Lf.reti HQ.out.symm (Lf.gbt (Lf.gb _) (Lf.gb _))
      · have z1 : (xa == ya) = false := by simpa using h3
        have z2 : (xa != ya) = true := by simpa using h3
        have HQ : Hid (q = 1) := by show q = 1; rw [HR.out, if_neg (fun e => h3 e.2.2.1)]
        clear HR
        go_enter Try.func39, Try.ntmps39
        go_wp2_with fail
        go_ret
        exact Lf.reti HQ.out.symm (Lf.gbt (Lf.gb _) (Lf.gb _))
    · have z1 : (xn == yn) = false := by simpa using h2
      have z2 : (xn != yn) = true := by simpa using h2
      have HQ : Hid (q = 1) := by show q = 1; rw [HR.out, if_neg (fun e => h2 e.2.1)]
      clear HR
      go_enter Try.func39, Try.ntmps39
      go_wp2_with fail
      go_ret
      exact Lf.reti HQ.out.symm (Lf.gbt (Lf.gb _) (Lf.gb _))
  · have z1 : (xk == yk) = false := by simpa using h1
    have z2 : (xk != yk) = true := by simpa using h1
    have HQ : Hid (q = 1) := by show q = 1; rw [HR.out, if_neg (fun e => h1 e.1)]
    clear HR
    go_enter Try.func39, Try.ntmps39
    go_wp2_with fail
    go_ret
    exact Lf.reti HQ.out.symm (Lf.gbt (Lf.gb _) (Lf.gb _))

end Go.Proofs.Ytmmgihaoahhkjaa
