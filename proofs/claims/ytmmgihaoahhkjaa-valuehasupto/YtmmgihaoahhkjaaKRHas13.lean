/- The document's own has: RHas13. (Made by wip/tools/gen-rhas.py.) -/
import Derived.Test.YtmmgihaoahhkjaaKRHasV
namespace Go.Proofs.Ytmmgihaoahhkjaa
set_option maxRecDepth 20000
open Go.ChangeShapes Go.WideShapes Go.ChangeAt Go.RowKit
set_option linter.unusedVariables false

set_option maxRecDepth 100000 in
set_option maxHeartbeats 8000000 in
theorem rhas_13_no {W : World} {xa : Int} {s : ByteArray} {na : Option Addr} {nl nc : Nat} {a aa ta : Option Addr} {tn c al ac tl tc : Nat} {n : Int}  (HB : Hid (Ans 74 #[.agg #[.int .i64 13, .int .i64 n, .int .i64 xa, .string s, .slice aa al ac, .slice ta tl tc, .slice na nl nc], .bool false, .bool false, .bool false, .int .i64 (al : Int), .int .i64 0, .bool false] W false)) :
    Calls Try.prog 36 #[.agg #[.int .i64 13, .slice a tn c], .agg #[.int .i64 13, .int .i64 n, .int .i64 xa, .string s, .slice aa al ac, .slice ta tl tc, .slice na nl nc]] W fun e w' => e = .returned (.bool false) ∧ W.grownBy w' none := by
  have HG0 := Lf.hide (Lf.gbt (Lf.gb (w := W) (.cells #[.int .i64 13, .slice a tn c] 24)) (Lf.gb (.cells #[.int .i64 13, .int .i64 n, .int .i64 xa, .string s, .slice aa al ac, .slice ta tl tc, .slice na nl nc] 28)))
  have HA0 := Lf.hide (res_new W (.cells #[.int .i64 13, .slice a tn c] 24) (.cells #[.int .i64 13, .int .i64 n, .int .i64 xa, .string s, .slice aa al ac, .slice ta tl tc, .slice na nl nc] 28))
  have HB0 := Lf.hide (rnew_two W (.cells #[.int .i64 13, .slice a tn c] 24) (.cells #[.int .i64 13, .int .i64 n, .int .i64 xa, .string s, .slice aa al ac, .slice ta tl tc, .slice na nl nc] 28))
  go_enter Try.func36, Try.ntmps36
  go_wp2_with fail
  refine (HB.out _ HG0.out).mono ?_; rintro e w1 ⟨rfl, hg⟩
  have HG1 := Lf.hide (Lf.gbt HG0.out hg)
  have HA1 := Lf.hide (keepB HA0.out hg)
  have HB1 := Lf.hide (keepB HB0.out hg)
  have q10 := cell0_of HA1.out
  have q11 := cell1_of HA1.out
  obtain ⟨b10, b11, b12, b13, b14, b15, b16⟩ := box7 HB1.out
  clear hg
  go_wp2_with fail
  go_ret
  exact ⟨rfl, HG1.out⟩

set_option maxRecDepth 100000 in
set_option maxHeartbeats 8000000 in
theorem rhas_13_long {W : World} {xa : Int} {s : ByteArray} {na : Option Addr} {nl nc : Nat} {a aa ta : Option Addr} {tn c al ac tl tc : Nat} {n : Int}  (HB : Hid (Ans 74 #[.agg #[.int .i64 13, .int .i64 n, .int .i64 xa, .string s, .slice aa al ac, .slice ta tl tc, .slice na nl nc], .bool false, .bool false, .bool false, .int .i64 (al : Int), .int .i64 0, .bool false] W true)) (h1 : (24 : Int) < (al : Int)) :
    Calls Try.prog 36 #[.agg #[.int .i64 13, .slice a tn c], .agg #[.int .i64 13, .int .i64 n, .int .i64 xa, .string s, .slice aa al ac, .slice ta tl tc, .slice na nl nc]] W fun e w' => e = .returned (.bool false) ∧ W.grownBy w' none := by
  have HG0 := Lf.hide (Lf.gbt (Lf.gb (w := W) (.cells #[.int .i64 13, .slice a tn c] 24)) (Lf.gb (.cells #[.int .i64 13, .int .i64 n, .int .i64 xa, .string s, .slice aa al ac, .slice ta tl tc, .slice na nl nc] 28)))
  have HA0 := Lf.hide (res_new W (.cells #[.int .i64 13, .slice a tn c] 24) (.cells #[.int .i64 13, .int .i64 n, .int .i64 xa, .string s, .slice aa al ac, .slice ta tl tc, .slice na nl nc] 28))
  have HB0 := Lf.hide (rnew_two W (.cells #[.int .i64 13, .slice a tn c] 24) (.cells #[.int .i64 13, .int .i64 n, .int .i64 xa, .string s, .slice aa al ac, .slice ta tl tc, .slice na nl nc] 28))
  go_enter Try.func36, Try.ntmps36
  go_wp2_with fail
  refine (HB.out _ HG0.out).mono ?_; rintro e w1 ⟨rfl, hg⟩
  have HG1 := Lf.hide (Lf.gbt HG0.out hg)
  have HA1 := Lf.hide (keepB HA0.out hg)
  have HB1 := Lf.hide (keepB HB0.out hg)
  have q10 := cell0_of HA1.out
  have q11 := cell1_of HA1.out
  obtain ⟨b10, b11, b12, b13, b14, b15, b16⟩ := box7 HB1.out
  clear hg
  go_wp2_with fail
  go_ret
  exact ⟨rfl, HG1.out⟩

set_option maxRecDepth 100000 in
set_option maxHeartbeats 8000000 in
theorem rhas_13_q {W : World} {xa : Int} {s : ByteArray} {na : Option Addr} {nl nc : Nat} {a aa ta : Option Addr} {tn c ac tl tc : Nat} {n : Int} {l : List Bool} {E KV : Nat → Value} {r : Nat → Int}  (HB : Hid (Ans 74 #[.agg #[.int .i64 13, .int .i64 n, .int .i64 xa, .string s, .slice aa l.length ac, .slice ta tl tc, .slice na nl nc], .bool false, .bool false, .bool false, .int .i64 (l.length : Int), .int .i64 0, .bool false] W true)) (hl : l.length ≤ 24) (HE : Hid (∀ j (h : j < l.length), VaAt (fun _ => True) W aa j (E j) ∧ Ans 36 #[.agg #[.int .i64 11, .slice a tn c], E j] W l[j]))
    (HK : Hid (∀ j (h : j < l.length), l[j] = true → ∃ k n x s ba oa c ta tl tc na nl nc, E j = vaV k n x s (some ⟨ba, oa, none⟩) 2 c ta tl tc na nl nc ∧ VaAt (fun _ => True) W (some ⟨ba, oa, none⟩) 0 (KV j)))
    (HO : Hid (∀ j (h : j + 1 < l.length), l[j] = true → l[j + 1] = true → ∀ W2, W.grownBy W2 none → Calls Try.prog 28 #[KV j, KV (j + 1)] W2 fun e w' => e = .returned (.int .i64 (r j)) ∧ W2.grownBy w' none)) :
    Calls Try.prog 36 #[.agg #[.int .i64 13, .slice a tn c], .agg #[.int .i64 13, .int .i64 n, .int .i64 xa, .string s, .slice aa l.length ac, .slice ta tl tc, .slice na nl nc]] W fun e w' => (∃ b, e = .returned (.bool b) ∧ (b = true ↔ (∀ i (h : i < l.length), l[i] = true) ∧ ∀ i, i + 1 < l.length → r i < 0)) ∧ W.grownBy w' none := by
  have HG0 := Lf.hide (Lf.gbt (Lf.gb (w := W) (.cells #[.int .i64 13, .slice a tn c] 24)) (Lf.gb (.cells #[.int .i64 13, .int .i64 n, .int .i64 xa, .string s, .slice aa l.length ac, .slice ta tl tc, .slice na nl nc] 28)))
  have HA0 := Lf.hide (res_new W (.cells #[.int .i64 13, .slice a tn c] 24) (.cells #[.int .i64 13, .int .i64 n, .int .i64 xa, .string s, .slice aa l.length ac, .slice ta tl tc, .slice na nl nc] 28))
  have HB0 := Lf.hide (rnew_two W (.cells #[.int .i64 13, .slice a tn c] 24) (.cells #[.int .i64 13, .int .i64 n, .int .i64 xa, .string s, .slice aa l.length ac, .slice ta tl tc, .slice na nl nc] 28))
  have g1 : ¬ (24 : Int) < (l.length : Int) := by omega
  go_enter Try.func36, Try.ntmps36
  go_wp2_with fail
  refine (HB.out _ HG0.out).mono ?_; rintro e w1 ⟨rfl, hg⟩
  have HG1 := Lf.hide (Lf.gbt HG0.out hg)
  have HA1 := Lf.hide (keepB HA0.out hg)
  have HB1 := Lf.hide (keepB HB0.out hg)
  have q10 := cell0_of HA1.out
  have q11 := cell1_of HA1.out
  obtain ⟨b10, b11, b12, b13, b14, b15, b16⟩ := box7 HB1.out
  clear hg
  go_wp2_with fail
  clear b10 b11 b12 b13 b14 b15 b16 q10 q11
  go_loopw [202] (fun i wr => ∃ j : Nat, j ≤ l.length ∧ i = .int .i64 j ∧ W.grownBy wr none ∧ wr.heap[W.heap.size]? = some (.cells #[.int .i64 13, .slice a tn c] 24) ∧ wr.heap[W.heap.size + 1]? = some (.cells #[.int .i64 13, .int .i64 n, .int .i64 xa, .string s, .slice aa l.length ac, .slice ta tl tc, .slice na nl nc] 28) ∧ (∀ i (h : i < l.length), i < j → l[i] = true) ∧ ∀ i, i + 1 < j → r i < 0) (fun i _ => l.length - (intOf i).toNat)
  case atStart => exact ⟨0, Nat.zero_le _, rfl, HG1.out, HA1.out, HB1.out, fun i h hi => by omega, fun i hi => by omega⟩
  case round =>
    obtain ⟨j, hj, rfl, hgr, hA, hB, hF, hR⟩ := hrel
    by_cases hlt : j < l.length
    · obtain ⟨hVa, hAn⟩ := HE.out j hlt
      obtain ⟨bv, ov, rfl, _, y_k, y_n, y_x, y_s, y_a, y_l, y_c, y_ta, y_tl, y_tc, y_na, y_nl, y_nc, hv, e0, e1, e2, e3, e4, e5, e6⟩ := hVa.same (sameAll hgr)
      have HEV := Lf.hide hv
      rw [hv] at hAn
      unfold vaV at hAn
      have HAN := Lf.hide hAn
      have hGn := Lf.gb (w := wr) (.cells #[.int .i64 y_k, .int .i64 y_n, .int .i64 y_x, .string y_s, .slice y_a y_l y_c, .slice y_ta y_tl y_tc, .slice y_na y_nl y_nc] 28)
      have HGR := Lf.hide (Lf.gbt hgr hGn)
      have HA := Lf.hide (keepB hA hGn)
      have HB2 := Lf.hide (keepB hB hGn)
      have HN := Lf.hide (heap_alloc_new wr (.cells #[.int .i64 y_k, .int .i64 y_n, .int .i64 y_x, .string y_s, .slice y_a y_l y_c, .slice y_ta y_tl y_tc, .slice y_na y_nl y_nc] 28))
      have HF := Lf.hide hF
      have HR := Lf.hide hR
      have HG9 := Lf.hide hgr
      have w2 : (j : Int) < (l.length : Int) := by omega
      clear hAn hgr hA hB hF hR hv hVa hGn
      cases hr : l[j] with
      | false =>
        have HNO : Hid (¬ ∀ i (h : i < l.length), l[i] = true) := fun h => by rw [h j hlt] at hr; cases hr
        rw [hr] at HAN
        clear hr
        go_wp2_with fail
        generalize wr.alloc (.cells #[.int .i64 y_k, .int .i64 y_n, .int .i64 y_x, .string y_s, .slice y_a y_l y_c, .slice y_ta y_tl y_tc, .slice y_na y_nl y_nc] 28) = w5 at *
        have hA := HA.out
        have hN := HN.out
        have qd1 := bq1 hA
        have yd0 := bx0 hN
        have yd1 := bx1 hN
        have yd2 := bx2 hN
        have yd3 := bx3 hN
        have yd4 := bx4 hN
        have yd5 := bx5 hN
        have yd6 := bx6 hN
        clear hA hN
        clear e0 e1 e2 e3 e4 e5 e6
        refine wp_region_held_drew (S := fun w' => w5.grownBy w' none) (by kernel_rfl) ?_ (fun hHeld => ?_)
        · exact grow_drew (grow_refl _ _)
        refine reg_go 0 207 ?_
        simp only [Act.put, pS]
        refine reg_go 1 208 ?_
        simp only [Act.put, pS]
        refine reg_go 2 209 ?_
        simp only [Act.put, pS]
        refine reg_go 3 210 ?_
        simp only [Act.put, pS]
        refine wpAnyH_ready (rs := [4]) (by kernel_rfl) (by simp) ?_
        refine AllReadyH.cons rfl (fun K hK => ?_) AllReadyH.nil
        go_simp
        go_at_call 36
        refine (HAN.out _ (Lf.gbt HGR.out hHeld)).mono ?_; rintro e v0 ⟨rfl, hg0⟩
        have hH0 := Lf.gbt hHeld hg0
        refine hK.out _ _ hH0 (fun _ => ?_)
        clear hK K hHeld hg0
        have hHeld := hH0
        clear hH0
        refine reg_go 5 212 ?_
        simp only [Act.put, pS]
        refine reg_go 6 213 ?_
        simp only [Act.put, pS]
        refine reg_no 7 214 ?_
        simp only [Act.put, pS]
        refine reg_no 8 215 ?_
        simp only [Act.put, pS]
        refine reg_no 9 216 ?_
        simp only [Act.put, pS]
        refine reg_no 10 217 ?_
        simp only [Act.put, pS]
        refine reg_no 11 218 ?_
        simp only [Act.put, pS]
        refine reg_no 12 219 ?_
        simp only [Act.put, pS]
        refine reg_no 13 220 ?_
        simp only [Act.put, pS]
        refine reg_no 14 221 ?_
        simp only [Act.put, pS]
        refine reg_no 15 222 ?_
        simp only [Act.put, pS]
        refine reg_no 16 223 ?_
        simp only [Act.put, pS]
        refine reg_no 17 224 ?_
        simp only [Act.put, pS]
        refine reg_no 18 225 ?_
        simp only [Act.put, pS]
        refine reg_no 19 226 ?_
        simp only [Act.put, pS]
        refine reg_no 20 227 ?_
        simp only [Act.put, pS]
        refine reg_no 21 228 ?_
        simp only [Act.put, pS]
        refine reg_no 22 229 ?_
        simp only [Act.put, pS]
        refine reg_no 23 230 ?_
        simp only [Act.put, pS]
        refine reg_no 24 231 ?_
        simp only [Act.put, pS]
        refine reg_no 25 232 ?_
        simp only [Act.put, pS]
        refine reg_go 26 233 ?_
        simp only [Act.put, pS]
        refine wpAnyH_done (by kernel_rfl) ?_ _
        have HS9 := Lf.hide (Lf.gbt HGR.out hHeld)
        have HA9 := Lf.hide (keepB HA.out hHeld)
        have HB9 := Lf.hide (keepB HB2.out hHeld)
        clear hHeld
        go_wp2_with fail
        go_ret
        exact ⟨⟨_, rfl, ⟨fun h => (by cases h), fun h => absurd h.1 HNO.out⟩⟩, HS9.out⟩
      | true =>
        have HJ := Lf.hide hr
        rw [hr] at HAN
        clear hr
        have HALL : Hid (∀ i (h : i < l.length), i < j + 1 → l[i] = true) := fun i h hi => by
          by_cases e : i = j
          · subst e; exact HJ.out
          · exact HF.out i h (by omega)
        by_cases hj0 : j = 0
        · subst hj0
          rw [Nat.zero_mul, Nat.add_zero] at e0 e1 e2 e3 e4 e5 e6
          go_wp2_with fail
          generalize wr.alloc (.cells #[.int .i64 y_k, .int .i64 y_n, .int .i64 y_x, .string y_s, .slice y_a y_l y_c, .slice y_ta y_tl y_tc, .slice y_na y_nl y_nc] 28) = w5 at *
          have hA := HA.out
          have hN := HN.out
          have qd1 := bq1 hA
          have yd0 := bx0 hN
          have yd1 := bx1 hN
          have yd2 := bx2 hN
          have yd3 := bx3 hN
          have yd4 := bx4 hN
          have yd5 := bx5 hN
          have yd6 := bx6 hN
          clear hA hN
          clear e0 e1 e2 e3 e4 e5 e6
          refine wp_region_held_drew (S := fun w' => w5.grownBy w' none) (by kernel_rfl) ?_ (fun hHeld => ?_)
          · exact grow_drew (grow_refl _ _)
          refine reg_go 0 207 ?_
          simp only [Act.put, pS]
          refine reg_go 1 208 ?_
          simp only [Act.put, pS]
          refine reg_go 2 209 ?_
          simp only [Act.put, pS]
          refine reg_go 3 210 ?_
          simp only [Act.put, pS]
          refine wpAnyH_ready (rs := [4]) (by kernel_rfl) (by simp) ?_
          refine AllReadyH.cons rfl (fun K hK => ?_) AllReadyH.nil
          go_simp
          go_at_call 36
          refine (HAN.out _ (Lf.gbt HGR.out hHeld)).mono ?_; rintro e v0 ⟨rfl, hg0⟩
          have hH0 := Lf.gbt hHeld hg0
          refine hK.out _ _ hH0 (fun _ => ?_)
          clear hK K hHeld hg0
          have hHeld := hH0
          clear hH0
          refine reg_go 5 212 ?_
          simp only [Act.put, pS]
          refine reg_go 6 213 ?_
          simp only [Act.put, pS]
          refine reg_go 7 214 ?_
          simp only [Act.put, pS]
          refine reg_go 8 215 ?_
          simp only [Act.put, pS]
          refine reg_go 9 216 ?_
          simp only [Act.put, pS]
          refine reg_no 10 217 ?_
          simp only [Act.put, pS]
          refine reg_no 11 218 ?_
          simp only [Act.put, pS]
          refine reg_no 12 219 ?_
          simp only [Act.put, pS]
          refine reg_no 13 220 ?_
          simp only [Act.put, pS]
          refine reg_no 14 221 ?_
          simp only [Act.put, pS]
          refine reg_no 15 222 ?_
          simp only [Act.put, pS]
          refine reg_no 16 223 ?_
          simp only [Act.put, pS]
          refine reg_no 17 224 ?_
          simp only [Act.put, pS]
          refine reg_no 18 225 ?_
          simp only [Act.put, pS]
          refine reg_no 19 226 ?_
          simp only [Act.put, pS]
          refine reg_no 20 227 ?_
          simp only [Act.put, pS]
          refine reg_no 21 228 ?_
          simp only [Act.put, pS]
          refine reg_no 22 229 ?_
          simp only [Act.put, pS]
          refine reg_no 23 230 ?_
          simp only [Act.put, pS]
          refine reg_no 24 231 ?_
          simp only [Act.put, pS]
          refine reg_go 25 232 ?_
          simp only [Act.put, pS]
          refine reg_go 26 233 ?_
          simp only [Act.put, pS]
          refine wpAnyH_done (by kernel_rfl) ?_ _
          have HS9 := Lf.hide (Lf.gbt HGR.out hHeld)
          have HA9 := Lf.hide (keepB HA.out hHeld)
          have HB9 := Lf.hide (keepB HB2.out hHeld)
          clear hHeld
          go_wp2_with fail
          go_roundw
          case rel => exact ⟨_, by omega, by go_num, HS9.out, HA9.out, HB9.out, fun i h hi => HALL.out i h hi, fun i hi => by omega⟩
          case measure => simp [intOf]; omega
        · obtain ⟨m, rfl⟩ : ∃ m, j = m + 1 := ⟨j - 1, by omega⟩
          have hm : m < l.length := by omega
          have hlm : l[m] = true := HF.out m hm (by omega)
          obtain ⟨kk, kn, kx, ks, ba2, oa2, kc, kta, ktl, ktc, kna, knl, knc, hE2, hKey2⟩ := HK.out (m + 1) hlt HJ.out
          obtain ⟨jk, jn, jx, js, ba1, oa1, jc, jta, jtl, jtc, jna, jnl, jnc, hE1, hKey1⟩ := HK.out m hm hlm
          have hq := HEV.out
          rw [hE2] at hq
          have hq := hq.symm
          unfold vaV at hq
          simp only [Value.agg.injEq, Array.mk.injEq, List.cons.injEq, Value.slice.injEq, Value.int.injEq, Value.string.injEq, true_and, and_true] at hq
          obtain ⟨rfl, rfl, rfl, rfl, ⟨rfl, rfl, rfl⟩, ⟨rfl, rfl, rfl⟩, rfl, rfl, rfl⟩ := hq
          have hG0 : W.grownBy wr none := HG9.out
          obtain ⟨bm, om, hbm, _, jk', jn', jx', js', ja', jl', jc', jta', jtl', jtc', jna', jnl', jnc', hvm, f0, f1, f2, f3, f4, f5, f6⟩ := (HE.out m hm).1.same (sameAll hG0)
          rw [hE1] at hvm
          unfold vaV at hvm
          simp only [Value.agg.injEq, Array.mk.injEq, List.cons.injEq, Value.slice.injEq, Value.int.injEq, Value.string.injEq, true_and, and_true] at hvm
          obtain ⟨rfl, rfl, rfl, rfl, ⟨rfl, rfl, rfl⟩, ⟨rfl, rfl, rfl⟩, rfl, rfl, rfl⟩ := hvm
          simp only [Option.some.injEq, Addr.mk.injEq, and_true] at hbm
          obtain ⟨rfl, rfl⟩ := hbm
          obtain ⟨bu, ou, hbu, _, u_k, u_n, u_x, u_s, u_a, u_l, u_c, u_ta, u_tl, u_tc, u_na, u_nl, u_nc, hku, u0, u1, u2, u3, u4, u5, u6⟩ := hKey1.same (sameAll hG0)
          obtain ⟨bz, oz, hbz, _, z_k, z_n, z_x, z_s, z_a, z_l, z_c, z_ta, z_tl, z_tc, z_na, z_nl, z_nc, hkz, z0, z1, z2, z3, z4, z5, z6⟩ := hKey2.same (sameAll hG0)
          simp only [Option.some.injEq, Addr.mk.injEq, and_true] at hbu hbz
          obtain ⟨rfl, rfl⟩ := hbu
          obtain ⟨rfl, rfl⟩ := hbz
          rw [Nat.zero_mul, Nat.add_zero] at u0 u1 u2 u3 u4 u5 u6 z0 z1 z2 z3 z4 z5 z6
          have hOrd := HO.out m hlt hlm HJ.out
          rw [hku, hkz] at hOrd
          unfold vaV at hOrd
          have HORD := Lf.hide hOrd
          have qf : bv < wr.heap.size := World.block_lt_of_cell? wr _ f0
          have qu : ba1 < wr.heap.size := World.block_lt_of_cell? wr _ u0
          have qz : ba2 < wr.heap.size := World.block_lt_of_cell? wr _ z0
          have hGn := Lf.gb (w := wr) (.cells #[.int .i64 y_k, .int .i64 y_n, .int .i64 y_x, .string y_s, .slice (some ⟨ba2, oa2, none⟩) 2 y_c, .slice y_ta y_tl y_tc, .slice y_na y_nl y_nc] 28)
          have HF4 : Hid (∀ W3 : World, (wr.alloc (.cells #[.int .i64 y_k, .int .i64 y_n, .int .i64 y_x, .string y_s, .slice (some ⟨ba2, oa2, none⟩) 2 y_c, .slice y_ta y_tl y_tc, .slice y_na y_nl y_nc] 28)).grownBy W3 none → W3.cell? ⟨bv, ov + m * 7 + 4, none⟩ = some (.slice (some ⟨ba1, oa1, none⟩) 2 jc)) := fun W3 h => (World.cell?_of_block ((Lf.gbt hGn h).block _ qf (by simp))).trans f4
          have HU0 : Hid (∀ W3 : World, (wr.alloc (.cells #[.int .i64 y_k, .int .i64 y_n, .int .i64 y_x, .string y_s, .slice (some ⟨ba2, oa2, none⟩) 2 y_c, .slice y_ta y_tl y_tc, .slice y_na y_nl y_nc] 28)).grownBy W3 none → W3.cell? ⟨ba1, oa1, none⟩ = some (.int .i64 u_k)) := fun W3 h => (World.cell?_of_block ((Lf.gbt hGn h).block _ qu (by simp))).trans u0
          have HU1 : Hid (∀ W3 : World, (wr.alloc (.cells #[.int .i64 y_k, .int .i64 y_n, .int .i64 y_x, .string y_s, .slice (some ⟨ba2, oa2, none⟩) 2 y_c, .slice y_ta y_tl y_tc, .slice y_na y_nl y_nc] 28)).grownBy W3 none → W3.cell? ⟨ba1, oa1 + 1, none⟩ = some (.int .i64 u_n)) := fun W3 h => (World.cell?_of_block ((Lf.gbt hGn h).block _ qu (by simp))).trans u1
          have HU2 : Hid (∀ W3 : World, (wr.alloc (.cells #[.int .i64 y_k, .int .i64 y_n, .int .i64 y_x, .string y_s, .slice (some ⟨ba2, oa2, none⟩) 2 y_c, .slice y_ta y_tl y_tc, .slice y_na y_nl y_nc] 28)).grownBy W3 none → W3.cell? ⟨ba1, oa1 + 2, none⟩ = some (.int .i64 u_x)) := fun W3 h => (World.cell?_of_block ((Lf.gbt hGn h).block _ qu (by simp))).trans u2
          have HU3 : Hid (∀ W3 : World, (wr.alloc (.cells #[.int .i64 y_k, .int .i64 y_n, .int .i64 y_x, .string y_s, .slice (some ⟨ba2, oa2, none⟩) 2 y_c, .slice y_ta y_tl y_tc, .slice y_na y_nl y_nc] 28)).grownBy W3 none → W3.cell? ⟨ba1, oa1 + 3, none⟩ = some (.string u_s)) := fun W3 h => (World.cell?_of_block ((Lf.gbt hGn h).block _ qu (by simp))).trans u3
          have HU4 : Hid (∀ W3 : World, (wr.alloc (.cells #[.int .i64 y_k, .int .i64 y_n, .int .i64 y_x, .string y_s, .slice (some ⟨ba2, oa2, none⟩) 2 y_c, .slice y_ta y_tl y_tc, .slice y_na y_nl y_nc] 28)).grownBy W3 none → W3.cell? ⟨ba1, oa1 + 4, none⟩ = some (.slice u_a u_l u_c)) := fun W3 h => (World.cell?_of_block ((Lf.gbt hGn h).block _ qu (by simp))).trans u4
          have HU5 : Hid (∀ W3 : World, (wr.alloc (.cells #[.int .i64 y_k, .int .i64 y_n, .int .i64 y_x, .string y_s, .slice (some ⟨ba2, oa2, none⟩) 2 y_c, .slice y_ta y_tl y_tc, .slice y_na y_nl y_nc] 28)).grownBy W3 none → W3.cell? ⟨ba1, oa1 + 5, none⟩ = some (.slice u_ta u_tl u_tc)) := fun W3 h => (World.cell?_of_block ((Lf.gbt hGn h).block _ qu (by simp))).trans u5
          have HU6 : Hid (∀ W3 : World, (wr.alloc (.cells #[.int .i64 y_k, .int .i64 y_n, .int .i64 y_x, .string y_s, .slice (some ⟨ba2, oa2, none⟩) 2 y_c, .slice y_ta y_tl y_tc, .slice y_na y_nl y_nc] 28)).grownBy W3 none → W3.cell? ⟨ba1, oa1 + 6, none⟩ = some (.slice u_na u_nl u_nc)) := fun W3 h => (World.cell?_of_block ((Lf.gbt hGn h).block _ qu (by simp))).trans u6
          have HZ0 : Hid (∀ W3 : World, (wr.alloc (.cells #[.int .i64 y_k, .int .i64 y_n, .int .i64 y_x, .string y_s, .slice (some ⟨ba2, oa2, none⟩) 2 y_c, .slice y_ta y_tl y_tc, .slice y_na y_nl y_nc] 28)).grownBy W3 none → W3.cell? ⟨ba2, oa2, none⟩ = some (.int .i64 z_k)) := fun W3 h => (World.cell?_of_block ((Lf.gbt hGn h).block _ qz (by simp))).trans z0
          have HZ1 : Hid (∀ W3 : World, (wr.alloc (.cells #[.int .i64 y_k, .int .i64 y_n, .int .i64 y_x, .string y_s, .slice (some ⟨ba2, oa2, none⟩) 2 y_c, .slice y_ta y_tl y_tc, .slice y_na y_nl y_nc] 28)).grownBy W3 none → W3.cell? ⟨ba2, oa2 + 1, none⟩ = some (.int .i64 z_n)) := fun W3 h => (World.cell?_of_block ((Lf.gbt hGn h).block _ qz (by simp))).trans z1
          have HZ2 : Hid (∀ W3 : World, (wr.alloc (.cells #[.int .i64 y_k, .int .i64 y_n, .int .i64 y_x, .string y_s, .slice (some ⟨ba2, oa2, none⟩) 2 y_c, .slice y_ta y_tl y_tc, .slice y_na y_nl y_nc] 28)).grownBy W3 none → W3.cell? ⟨ba2, oa2 + 2, none⟩ = some (.int .i64 z_x)) := fun W3 h => (World.cell?_of_block ((Lf.gbt hGn h).block _ qz (by simp))).trans z2
          have HZ3 : Hid (∀ W3 : World, (wr.alloc (.cells #[.int .i64 y_k, .int .i64 y_n, .int .i64 y_x, .string y_s, .slice (some ⟨ba2, oa2, none⟩) 2 y_c, .slice y_ta y_tl y_tc, .slice y_na y_nl y_nc] 28)).grownBy W3 none → W3.cell? ⟨ba2, oa2 + 3, none⟩ = some (.string z_s)) := fun W3 h => (World.cell?_of_block ((Lf.gbt hGn h).block _ qz (by simp))).trans z3
          have HZ4 : Hid (∀ W3 : World, (wr.alloc (.cells #[.int .i64 y_k, .int .i64 y_n, .int .i64 y_x, .string y_s, .slice (some ⟨ba2, oa2, none⟩) 2 y_c, .slice y_ta y_tl y_tc, .slice y_na y_nl y_nc] 28)).grownBy W3 none → W3.cell? ⟨ba2, oa2 + 4, none⟩ = some (.slice z_a z_l z_c)) := fun W3 h => (World.cell?_of_block ((Lf.gbt hGn h).block _ qz (by simp))).trans z4
          have HZ5 : Hid (∀ W3 : World, (wr.alloc (.cells #[.int .i64 y_k, .int .i64 y_n, .int .i64 y_x, .string y_s, .slice (some ⟨ba2, oa2, none⟩) 2 y_c, .slice y_ta y_tl y_tc, .slice y_na y_nl y_nc] 28)).grownBy W3 none → W3.cell? ⟨ba2, oa2 + 5, none⟩ = some (.slice z_ta z_tl z_tc)) := fun W3 h => (World.cell?_of_block ((Lf.gbt hGn h).block _ qz (by simp))).trans z5
          have HZ6 : Hid (∀ W3 : World, (wr.alloc (.cells #[.int .i64 y_k, .int .i64 y_n, .int .i64 y_x, .string y_s, .slice (some ⟨ba2, oa2, none⟩) 2 y_c, .slice y_ta y_tl y_tc, .slice y_na y_nl y_nc] 28)).grownBy W3 none → W3.cell? ⟨ba2, oa2 + 6, none⟩ = some (.slice z_na z_nl z_nc)) := fun W3 h => (World.cell?_of_block ((Lf.gbt hGn h).block _ qz (by simp))).trans z6
          have w3 : IntKind.i64.wrap (m : Int) = (m : Int) := rwrapN m (by omega)
          have w4 : IntKind.i64.wrap ((m : Int) + 1 - 1) = (m : Int) := by rw [show (m : Int) + 1 - 1 = (m : Int) from by omega]; exact w3
          have w5' : (m : Int) < (l.length : Int) := by omega
          have w6 : decide ((0 : Int) < (m : Int) + 1) = true := decide_eq_true (by omega)
          have w7 : (0 : Int) < (m : Int) + 1 := by omega
          have hrm : r m < 0 ∨ ¬ r m < 0 := by omega
          have HRM : Hid (r m < 0 → ∀ i, i + 1 < m + 1 + 1 → r i < 0) := fun h i hi => by
            by_cases e : i = m
            · subst e; exact h
            · exact HR.out i (by omega)
          have HRN : Hid (¬ r m < 0 → ¬ ∀ i, i + 1 < l.length → r i < 0) := fun h h2 => h (h2 m hlt)
          clear hOrd hku hkz hKey1 hKey2 hE1 hE2 hG0 hGn hlm f0 f1 f2 f3 f4 f5 f6 u0 u1 u2 u3 u4 u5 u6 z0 z1 z2 z3 z4 z5 z6
          generalize r m = rm at *
          go_wp2_with fail
          generalize wr.alloc (.cells #[.int .i64 y_k, .int .i64 y_n, .int .i64 y_x, .string y_s, .slice (some ⟨ba2, oa2, none⟩) 2 y_c, .slice y_ta y_tl y_tc, .slice y_na y_nl y_nc] 28) = w5 at *
          have hA := HA.out
          have hN := HN.out
          have qd1 := bq1 hA
          have yd0 := bx0 hN
          have yd1 := bx1 hN
          have yd2 := bx2 hN
          have yd3 := bx3 hN
          have yd4 := bx4 hN
          have yd5 := bx5 hN
          have yd6 := bx6 hN
          have hB := HB2.out
          have bd4 := bx4 hB
          clear hB
          clear hA hN
          clear e0 e1 e2 e3 e4 e5 e6
          have fd4 := HF4.out
          have ud0 := HU0.out
          have ud1 := HU1.out
          have ud2 := HU2.out
          have ud3 := HU3.out
          have ud4 := HU4.out
          have ud5 := HU5.out
          have ud6 := HU6.out
          have zd0 := HZ0.out
          have zd1 := HZ1.out
          have zd2 := HZ2.out
          have zd3 := HZ3.out
          have zd4 := HZ4.out
          have zd5 := HZ5.out
          have zd6 := HZ6.out
          clear HF4 HU0 HU1 HU2 HU3 HU4 HU5 HU6 HZ0 HZ1 HZ2 HZ3 HZ4 HZ5 HZ6
          rcases hrm with hrm | hrm
          · have hdc : decide ((0 : Int) ≤ rm) = false := decide_eq_false (by omega)
            refine wp_region_held_drew (S := fun w' => w5.grownBy w' none) (by kernel_rfl) ?_ (fun hHeld => ?_)
            · exact grow_drew (grow_refl _ _)
            refine reg_go 0 207 ?_
            simp only [Act.put, pS]
            refine reg_go 1 208 ?_
            simp only [Act.put, pS]
            refine reg_go 2 209 ?_
            simp only [Act.put, pS]
            refine reg_go 3 210 ?_
            simp only [Act.put, pS]
            refine wpAnyH_ready (rs := [4]) (by kernel_rfl) (by simp) ?_
            refine AllReadyH.cons rfl (fun K hK => ?_) AllReadyH.nil
            go_simp
            go_at_call 36
            refine (HAN.out _ (Lf.gbt HGR.out hHeld)).mono ?_; rintro e v0 ⟨rfl, hg0⟩
            have hH0 := Lf.gbt hHeld hg0
            refine hK.out _ _ hH0 (fun _ => ?_)
            clear hK K hHeld hg0
            have hHeld := hH0
            clear hH0
            refine reg_go 5 212 ?_
            simp only [Act.put, pS]
            refine reg_go 6 213 ?_
            simp only [Act.put, pS]
            refine reg_go 7 214 ?_
            simp only [Act.put, pS]
            refine reg_go 8 215 ?_
            simp only [Act.put, pS]
            refine reg_go 9 216 ?_
            simp only [Act.put, pS]
            refine reg_go 10 217 ?_
            simp only [Act.put, pS]
            refine reg_go 11 218 ?_
            simp only [Act.put, pS]
            refine reg_go 12 219 ?_
            simp only [Act.put, pS]
            refine reg_go 13 220 ?_
            simp only [Act.put, pS]
            refine reg_go 14 221 ?_
            simp only [Act.put, pS]
            refine reg_go 15 222 ?_
            simp only [Act.put, pS]
            refine reg_go 16 223 ?_
            simp only [Act.put, pS]
            refine reg_go 17 224 ?_
            simp only [Act.put, pS]
            refine reg_go 18 225 ?_
            simp only [Act.put, pS]
            refine reg_go 19 226 ?_
            simp only [Act.put, pS]
            refine reg_go 20 227 ?_
            simp only [Act.put, pS]
            refine reg_go 21 228 ?_
            simp only [Act.put, pS]
            refine reg_go 22 229 ?_
            simp only [Act.put, pS]
            refine wpAnyH_ready (rs := [23]) (by kernel_rfl) (by simp) ?_
            refine AllReadyH.cons rfl (fun K hK => ?_) AllReadyH.nil
            go_simp
            go_at_call 28
            refine (HORD.out _ (Lf.gbt HGR.out hHeld)).mono ?_; rintro e v1 ⟨rfl, hg1⟩
            have hH1 := Lf.gbt hHeld hg1
            refine hK.out _ _ hH1 (fun _ => ?_)
            clear hK K hHeld hg1
            have hHeld := hH1
            clear hH1
            refine reg_go 24 231 ?_
            simp only [Act.put, pS]
            refine reg_go 25 232 ?_
            simp only [Act.put, pS]
            refine reg_go 26 233 ?_
            simp only [Act.put, pS]
            refine wpAnyH_done (by kernel_rfl) ?_ _
            have HS9 := Lf.hide (Lf.gbt HGR.out hHeld)
            have HA9 := Lf.hide (keepB HA.out hHeld)
            have HB9 := Lf.hide (keepB HB2.out hHeld)
            clear hHeld
            go_wp2_with fail
            go_roundw
            case rel => exact ⟨_, by omega, by go_num, HS9.out, HA9.out, HB9.out, fun i h hi => HALL.out i h hi, HRM.out hrm⟩
            case measure => simp [intOf]; omega
          · have hdc : decide ((0 : Int) ≤ rm) = true := decide_eq_true (by omega)
            refine wp_region_held_drew (S := fun w' => w5.grownBy w' none) (by kernel_rfl) ?_ (fun hHeld => ?_)
            · exact grow_drew (grow_refl _ _)
            refine reg_go 0 207 ?_
            simp only [Act.put, pS]
            refine reg_go 1 208 ?_
            simp only [Act.put, pS]
            refine reg_go 2 209 ?_
            simp only [Act.put, pS]
            refine reg_go 3 210 ?_
            simp only [Act.put, pS]
            refine wpAnyH_ready (rs := [4]) (by kernel_rfl) (by simp) ?_
            refine AllReadyH.cons rfl (fun K hK => ?_) AllReadyH.nil
            go_simp
            go_at_call 36
            refine (HAN.out _ (Lf.gbt HGR.out hHeld)).mono ?_; rintro e v0 ⟨rfl, hg0⟩
            have hH0 := Lf.gbt hHeld hg0
            refine hK.out _ _ hH0 (fun _ => ?_)
            clear hK K hHeld hg0
            have hHeld := hH0
            clear hH0
            refine reg_go 5 212 ?_
            simp only [Act.put, pS]
            refine reg_go 6 213 ?_
            simp only [Act.put, pS]
            refine reg_go 7 214 ?_
            simp only [Act.put, pS]
            refine reg_go 8 215 ?_
            simp only [Act.put, pS]
            refine reg_go 9 216 ?_
            simp only [Act.put, pS]
            refine reg_go 10 217 ?_
            simp only [Act.put, pS]
            refine reg_go 11 218 ?_
            simp only [Act.put, pS]
            refine reg_go 12 219 ?_
            simp only [Act.put, pS]
            refine reg_go 13 220 ?_
            simp only [Act.put, pS]
            refine reg_go 14 221 ?_
            simp only [Act.put, pS]
            refine reg_go 15 222 ?_
            simp only [Act.put, pS]
            refine reg_go 16 223 ?_
            simp only [Act.put, pS]
            refine reg_go 17 224 ?_
            simp only [Act.put, pS]
            refine reg_go 18 225 ?_
            simp only [Act.put, pS]
            refine reg_go 19 226 ?_
            simp only [Act.put, pS]
            refine reg_go 20 227 ?_
            simp only [Act.put, pS]
            refine reg_go 21 228 ?_
            simp only [Act.put, pS]
            refine reg_go 22 229 ?_
            simp only [Act.put, pS]
            refine wpAnyH_ready (rs := [23]) (by kernel_rfl) (by simp) ?_
            refine AllReadyH.cons rfl (fun K hK => ?_) AllReadyH.nil
            go_simp
            go_at_call 28
            refine (HORD.out _ (Lf.gbt HGR.out hHeld)).mono ?_; rintro e v1 ⟨rfl, hg1⟩
            have hH1 := Lf.gbt hHeld hg1
            refine hK.out _ _ hH1 (fun _ => ?_)
            clear hK K hHeld hg1
            have hHeld := hH1
            clear hH1
            refine reg_go 24 231 ?_
            simp only [Act.put, pS]
            refine reg_go 25 232 ?_
            simp only [Act.put, pS]
            refine reg_go 26 233 ?_
            simp only [Act.put, pS]
            refine wpAnyH_done (by kernel_rfl) ?_ _
            have HS9 := Lf.hide (Lf.gbt HGR.out hHeld)
            have HA9 := Lf.hide (keepB HA.out hHeld)
            have HB9 := Lf.hide (keepB HB2.out hHeld)
            clear hHeld
            go_wp2_with fail
            go_ret
            exact ⟨⟨_, rfl, ⟨fun h => (by cases h), fun h => absurd h.2 (HRN.out hrm)⟩⟩, HS9.out⟩
    · have hje : j = l.length := by omega
      have HZ : Hid ((∀ i (h : i < l.length), l[i] = true) ∧ ∀ i, i + 1 < l.length → r i < 0) := ⟨fun i h => hF i h (by omega), fun i h => hR i (by omega)⟩
      have HGR := Lf.hide hgr
      have hj3 : ¬ (j : Int) < (l.length : Int) := by omega
      clear hgr hF hR hA hB
      go_wp2_with fail
      go_ret
      first | exact ⟨⟨true, rfl, Iff.intro (fun _ => HZ.out) (fun _ => rfl)⟩, HGR.out⟩ | exact ⟨.inr ⟨rfl, HZ.out⟩, HGR.out⟩

end Go.Proofs.Ytmmgihaoahhkjaa
