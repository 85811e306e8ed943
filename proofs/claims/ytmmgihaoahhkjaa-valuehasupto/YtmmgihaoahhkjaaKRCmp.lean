/- The document's own Compare by its contract. -/
import Derived.Test.YtmmgihaoahhkjaaKRHas
import Derived.Test.YtmmgihaoahhkjaaKCmpV
namespace Go.Proofs.Ytmmgihaoahhkjaa
open Go.ChangeShapes Go.WideShapes Go.ChangeAt Go.RowKit
set_option linter.unusedVariables false

theorem cmpR_yes {T : Ty} {x y : Va} (h : hasF T x = true ∧ hasF T y = true ∧ compT T = true) : cmpR T x y = ordV x y ∧ cmpE T x y = 0 := by unfold cmpR cmpE; rw [if_pos h, if_pos h]; exact ⟨rfl, rfl⟩
theorem cmpR_no {T : Ty} {x y : Va} (h : ¬ (hasF T x = true ∧ hasF T y = true ∧ compT T = true)) : cmpR T x y = 0 ∧ cmpE T x y = 5 := by unfold cmpR cmpE; rw [if_neg h, if_neg h]; exact ⟨rfl, rfl⟩

/-- three new blocks -/
theorem three_new (W : World) (o1 o2 o3 : Obj) : W.grownBy (((W.alloc o1).alloc o2).alloc o3) none ∧ (((W.alloc o1).alloc o2).alloc o3).heap[W.heap.size]? = some o1 ∧ (((W.alloc o1).alloc o2).alloc o3).heap[W.heap.size + 1]? = some o2 ∧ (((W.alloc o1).alloc o2).alloc o3).heap[W.heap.size + 1 + 1]? = some o3 :=
  ⟨Lf.gbt (Lf.gbt (Lf.gb _) (Lf.gb _)) (Lf.gb _), heap_keep (res_new W o1 o2), new_2of3 W o1 o2 o3, new_3of3 W o1 o2 o3⟩

set_option maxRecDepth 100000 in
set_option maxHeartbeats 4000000 in
theorem rcompare_any {w : World} {T : Ty} {x y : Va} {t u v : Value} (hT : LiesT (fun _ => True) w T t) (hx : LiesV (fun _ => True) w x u) (hy : LiesV (fun _ => True) w y v) (W : World) (hW : w.grownBy W none) :
    Calls Try.prog 9 #[t, u, v] W fun e w' => e = .returned (.tuple #[.int .i64 (cmpR T x y), .int .i64 (cmpE T x y)]) ∧ W.grownBy w' none := by
  have H1 := Lf.hide (fun W2 (h2 : W.grownBy W2 none) => (rhas_any hx).2 T t W2 hT (Lf.gbt hW h2))
  have H2 := Lf.hide (fun W2 (h2 : W.grownBy W2 none) => (rhas_any hy).2 T t W2 hT (Lf.gbt hW h2))
  have H3 := Lf.hide (fun W2 (h2 : W.grownBy W2 none) => rcomp_any hT W2 (Lf.gbt hW h2))
  have H4 := Lf.hide (fun (hb : hasF T x = true ∧ hasF T y = true ∧ compT T = true) W2 (h2 : W.grownBy W2 none) => rord_any hx y v W2 hy (by
    obtain ⟨b1, b2, b3⟩ := hb
    unfold hasF at b1 b2
    simp only [Bool.and_eq_true] at b1 b2
    exact evn_of x y T 1 b1.2 b2.2 b3 (goodTy_formed b1.1).1) (Lf.gbt hW h2))
  have HY := Lf.hide (cmpR_yes (T := T) (x := x) (y := y))
  have HN := Lf.hide (cmpR_no (T := T) (x := x) (y := y))
  obtain ⟨k1, n1, a1, s1, aa1, al1, ac1, ta1, tl1, tc1, na1, nl1, nc1, rfl⟩ := hx.vaV
  obtain ⟨k2, n2, a2, s2, aa2, al2, ac2, ta2, tl2, tc2, na2, nl2, nc2, rfl⟩ := hy.vaV
  obtain ⟨a, c, V, rfl, it, hRT⟩ := hT.inv
  clear hT hx hy hW it hRT
  generalize cmpR T x y = rr at *
  generalize cmpE T x y = re at *
  generalize ordV x y = r at *
  generalize hasF T x = b1 at *
  generalize hasF T y = b2 at *
  generalize compT T = b3 at *
  unfold tyV vaV at *
  obtain ⟨g0, g1, g2, g3⟩ := three_new W (.cells #[.int .i64 T.t, .slice a T.args.length c] 24) (.cells #[.int .i64 k1, .int .i64 n1, .int .i64 a1, .string s1, .slice aa1 al1 ac1, .slice ta1 tl1 tc1, .slice na1 nl1 nc1] 28) (.cells #[.int .i64 k2, .int .i64 n2, .int .i64 a2, .string s2, .slice aa2 al2 ac2, .slice ta2 tl2 tc2, .slice na2 nl2 nc2] 28)
  have HG := Lf.hide g0
  have HA := Lf.hide g1
  have HB := Lf.hide g2
  have HC := Lf.hide g3
  clear g0 g1 g2 g3
  cases b3 with
  | false =>
    obtain ⟨rfl, rfl⟩ := HN.out (fun h => by have := h.2.2; cases this)
    clear HN HY H1 H2 H4
    go_enter Try.func9, Try.ntmps9
    go_wp2_with fail
    refine (H3.out _ HG.out).mono ?_; rintro e w1 ⟨rfl, hg⟩
    replace HG := Lf.hide (Lf.gbt HG.out hg)
    clear hg
    go_wp2_with fail
    go_ret2
    exact ⟨rfl, HG.out⟩
  | true =>
    cases b1 with
    | false =>
      obtain ⟨rfl, rfl⟩ := HN.out (fun h => by have := h.1; cases this)
      clear HN HY H2 H4
      go_enter Try.func9, Try.ntmps9
      go_wp2_with fail
      refine (H3.out _ HG.out).mono ?_; rintro e w1 ⟨rfl, hg⟩
      replace HG := Lf.hide (Lf.gbt HG.out hg)
      replace HA := Lf.hide (keepB HA.out hg)
      replace HB := Lf.hide (keepB HB.out hg)
      replace HC := Lf.hide (keepB HC.out hg)
      clear hg
      have t0 := cell0_of HA.out
      have t1 := cell1_of HA.out
      obtain ⟨u0, u1, u2, u3, u4, u5, u6⟩ := box7 HB.out
      go_wp2_with fail
      refine (H1.out _ HG.out).mono ?_; rintro e w1 ⟨rfl, hg⟩
      replace HG := Lf.hide (Lf.gbt HG.out hg)
      clear hg
      go_wp2_with fail
      go_ret2
      exact ⟨rfl, HG.out⟩
    | true =>
      cases b2 with
      | false =>
        obtain ⟨rfl, rfl⟩ := HN.out (fun h => by have := h.2.1; cases this)
        clear HN HY H4
        go_enter Try.func9, Try.ntmps9
        go_wp2_with fail
        refine (H3.out _ HG.out).mono ?_; rintro e w1 ⟨rfl, hg⟩
        replace HG := Lf.hide (Lf.gbt HG.out hg)
        replace HA := Lf.hide (keepB HA.out hg)
        replace HB := Lf.hide (keepB HB.out hg)
        replace HC := Lf.hide (keepB HC.out hg)
        clear hg
        have t0 := cell0_of HA.out
        have t1 := cell1_of HA.out
        obtain ⟨u0, u1, u2, u3, u4, u5, u6⟩ := box7 HB.out
        go_wp2_with fail
        refine (H1.out _ HG.out).mono ?_; rintro e w1 ⟨rfl, hg⟩
        clear t0 t1 u0 u1 u2 u3 u4 u5 u6
        replace HG := Lf.hide (Lf.gbt HG.out hg)
        replace HA := Lf.hide (keepB HA.out hg)
        replace HC := Lf.hide (keepB HC.out hg)
        clear hg
        have t0 := cell0_of HA.out
        have t1 := cell1_of HA.out
        obtain ⟨u0, u1, u2, u3, u4, u5, u6⟩ := box7 HC.out
        go_wp2_with fail
        refine (H2.out _ HG.out).mono ?_; rintro e w1 ⟨rfl, hg⟩
        replace HG := Lf.hide (Lf.gbt HG.out hg)
        clear hg
        go_wp2_with fail
        go_ret2
        exact ⟨rfl, HG.out⟩
      | true =>
        obtain ⟨rfl, rfl⟩ := HY.out ⟨rfl, rfl, rfl⟩
        clear HN HY
        go_enter Try.func9, Try.ntmps9
        go_wp2_with fail
        refine (H3.out _ HG.out).mono ?_; rintro e w1 ⟨rfl, hg⟩
        replace HG := Lf.hide (Lf.gbt HG.out hg)
        replace HA := Lf.hide (keepB HA.out hg)
        replace HB := Lf.hide (keepB HB.out hg)
        replace HC := Lf.hide (keepB HC.out hg)
        clear hg
        have t0 := cell0_of HA.out
        have t1 := cell1_of HA.out
        obtain ⟨u0, u1, u2, u3, u4, u5, u6⟩ := box7 HB.out
        go_wp2_with fail
        refine (H1.out _ HG.out).mono ?_; rintro e w1 ⟨rfl, hg⟩
        clear t0 t1 u0 u1 u2 u3 u4 u5 u6
        replace HG := Lf.hide (Lf.gbt HG.out hg)
        replace HA := Lf.hide (keepB HA.out hg)
        replace HB := Lf.hide (keepB HB.out hg)
        replace HC := Lf.hide (keepB HC.out hg)
        clear hg
        have t0 := cell0_of HA.out
        have t1 := cell1_of HA.out
        obtain ⟨u0, u1, u2, u3, u4, u5, u6⟩ := box7 HC.out
        go_wp2_with fail
        refine (H2.out _ HG.out).mono ?_; rintro e w1 ⟨rfl, hg⟩
        clear t0 t1 u0 u1 u2 u3 u4 u5 u6
        replace HG := Lf.hide (Lf.gbt HG.out hg)
        replace HB := Lf.hide (keepB HB.out hg)
        replace HC := Lf.hide (keepB HC.out hg)
        clear hg
        obtain ⟨u0, u1, u2, u3, u4, u5, u6⟩ := box7 HB.out
        obtain ⟨v0, v1, v2, v3, v4, v5, v6⟩ := box7 HC.out
        go_wp2_with fail
        refine (H4.out ⟨trivial, trivial, trivial⟩ _ HG.out).mono ?_; rintro e w1 ⟨rfl, hg⟩
        replace HG := Lf.hide (Lf.gbt HG.out hg)
        clear hg
        go_wp2_with fail
        go_ret2
        exact ⟨rfl, HG.out⟩

end Go.Proofs.Ytmmgihaoahhkjaa
