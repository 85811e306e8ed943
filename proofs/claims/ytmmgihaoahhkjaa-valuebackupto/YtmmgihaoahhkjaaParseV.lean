/- value.Parse by its contract. -/
import Derived.Test.YtmmgihaoahhkjaaReadC
import Derived.Test.YtmmgihaoahhkjaaTreeB
namespace Go.Proofs.Ytmmgihaoahhkjaa
set_option maxRecDepth 20000
open Go.ChangeShapes Go.WideShapes Go.ChangeAt Go.RowKit
set_option linter.unusedVariables false

mutual
/-- what is read is no larger than its tree -/
theorem readT_size : ∀ (t : Tr) (T : Ty) (x : Va), readT t T = some x → x.size ≤ t.size
  | .nd k n p s args, T, x => by
    intro h
    have hv : ∀ (a b : Int) (c : ByteArray) (ys : List Va), (leafVa a b c ys).size = vsizes ys + 1 := fun a b c ys => by simp [leafVa, Va.size, tysizes, sizes]
    have h0 : vsizes [] = 0 := rfl
    rw [Tr.size]
    rw [readT] at h
    split at h
    · split at h
      · simp only [Option.some.injEq] at h; subst h; rw [hv, h0]; omega
      · cases h
    · split at h
      · split at h
        · simp only [Option.some.injEq] at h; subst h; rw [hv, h0]; omega
        · cases h
      · split at h
        · split at h
          · simp only [Option.map_eq_some_iff] at h
            obtain ⟨ys, h1, rfl⟩ := h
            have := readTs_size args _ ys h1
            rw [hv]; omega
          · cases h
        · split at h
          · split at h
            · simp only [Option.map_eq_some_iff] at h
              obtain ⟨ys, h1, rfl⟩ := h
              have := readEs_size args _ ys h1
              rw [hv]; omega
            · cases h
          · split at h
            · cases h
            · simp only [Option.map_eq_some_iff] at h
              obtain ⟨ys, h1, rfl⟩ := h
              have := readTs_size args _ ys h1
              rw [hv]; omega
theorem readTs_size : ∀ (l : List Tr) (ts : List Ty) (xs : List Va), readTs l ts = some xs → vsizes xs ≤ sizes l
  | [], [], xs => by intro h; simp [readTs] at h; subst h; simp [vsizes, sizes]
  | [], _ :: _, xs => by intro h; simp [readTs] at h
  | _ :: _, [], xs => by intro h; simp [readTs] at h
  | t :: l, T :: ts, xs => by
    intro h
    rw [readTs] at h
    cases hx : readT t T with
    | none => rw [hx] at h; cases h
    | some x =>
      rw [hx] at h
      simp only [Option.map_eq_some_iff] at h
      obtain ⟨ys, h1, rfl⟩ := h
      have e1 := readT_size t T x hx
      have e2 := readTs_size l ts ys h1
      rw [vsizes, sizes]; omega
theorem readEs_size : ∀ (l : List Tr) (ts : List Ty) (xs : List Va), readEs l ts = some xs → vsizes xs ≤ sizes l
  | [], ts, xs => by intro h; simp [readEs] at h; subst h; simp [vsizes, sizes]
  | .nd k n p s args :: l, ts, xs => by
    intro h
    rw [readEs] at h
    cases hx : readTs args ts with
    | none => rw [hx] at h; cases h
    | some ys =>
      rw [hx] at h
      simp only at h
      split at h
      · simp only [Option.map_eq_some_iff] at h
        obtain ⟨zs, h1, rfl⟩ := h
        have e1 := readTs_size args ts ys hx
        have e2 := readEs_size l ts zs h1
        have hv : (leafVa 11 0 ⟨#[]⟩ ys).size = vsizes ys + 1 := by simp [leafVa, Va.size, tysizes, sizes]
        rw [vsizes, sizes, hv, Tr.size]; omega
      · cases h
end

/-- what Parse says -/
def parseF (T : Ty) (t : Tr) : Option Va := if goodTy T = true ∧ goodF t = 0 then (match readT t T with
    | none => none
    | some x => if hasF T x = true then some x else none) else none

def ParsePost (T : Ty) (t : Tr) (W : World) (e : Ending) (w' : World) : Prop :=
  W.grownBy w' none ∧ ((∃ x v, parseF T t = some x ∧ e = .returned (.tuple #[v, .int .i64 0]) ∧ LiesV (W.heap.size ≤ ·) w' x v) ∨ (parseF T t = none ∧ e = .returned (.tuple #[vaV 0 0 0 ⟨#[]⟩ none 0 0 none 0 0 none 0 0, .int .i64 1])))

set_option maxRecDepth 100000 in
set_option maxHeartbeats 1000000 in
theorem parse_any {W : World} {T : Ty} {t : Tr} {tv u : Value} (hT : LiesT (fun _ => True) W T tv) (hL : Lies (fun _ => True) W t u) (hz : t.size ≤ 4611686018427387903) : Calls Try.prog 19 #[tv, u] W (ParsePost T t W) := by
  obtain ⟨k, n, p, s, na, nl, nc, rfl⟩ := hL.nodeV
  have hT0 := hT
  obtain ⟨ta, tc, VT, rfl, it, hRT⟩ := hT.inv
  have HG : Hid (∀ W2, W.grownBy W2 none → Calls Try.prog 29 #[tyV T.t ta T.args.length tc] W2 fun e w' => e = .returned (.bool (goodTy T)) ∧ W2.grownBy w' none) := fun W2 hg => kgood_any (LiesT.up hT0 hg)
  have HN : Hid (∀ W2, W.grownBy W2 none → Calls Try.prog 46 #[nodeV k n p s na nl nc] W2 fun e w' => e = .returned (.int .i64 (goodF t)) ∧ W2.grownBy w' none) := fun W2 hg => good_any ((hL.same (sameAll hg)).okMono (fun b hb _ => hb)) (by omega)
  have HR : Hid (goodTy T = true → goodF t = 0 → ∀ W2, W.grownBy W2 none → Calls Try.prog 47 #[tyV T.t ta T.args.length tc, nodeV k n p s na nl nc] W2 (ReadPost t T W2)) := fun h1 h2 W2 hg => by
    have hs := (goodF_zero h2).2
    exact read_all t.size t T _ _ W2 1 (Nat.le_refl _) (by omega) (hL.same (sameAll hg)) (LiesT.same hT0 (sameAll hg)) (goodTy_formed h1).1
  have HH : Hid (∀ (x : Va) (v : Value) (W2 : World), W.grownBy W2 none → LiesV (fun _ => True) W2 x v → x.size ≤ 20000000 → Calls Try.prog 10 #[tyV T.t ta T.args.length tc, v] W2 fun e w' => e = .returned (.bool (hasF T x)) ∧ W2.grownBy w' none) := fun x v W2 hg hx hzx => has_any (LiesT.same hT0 (sameAll hg)) hx hzx W2 (grow_refl _ _)
  have HA0 := Lf.hide (heap_keep (o := (.cells #[.int .i64 0, .int .i64 0, .int .i64 0, .string ⟨#[]⟩, .slice none 0 0, .slice none 0 0, .slice none 0 0] 28)) (res_new W (.cells #[.int .i64 T.t, .slice ta T.args.length tc] 24) (.cells #[.int .i64 k, .int .i64 n, .int .i64 p, .string s, .slice na nl nc] 39)))
  have HB0 := Lf.hide (new_2of3 W (.cells #[.int .i64 T.t, .slice ta T.args.length tc] 24) (.cells #[.int .i64 k, .int .i64 n, .int .i64 p, .string s, .slice na nl nc] 39) (.cells #[.int .i64 0, .int .i64 0, .int .i64 0, .string ⟨#[]⟩, .slice none 0 0, .slice none 0 0, .slice none 0 0] 28))
  have HZ0 := Lf.hide (new_3of3 W (.cells #[.int .i64 T.t, .slice ta T.args.length tc] 24) (.cells #[.int .i64 k, .int .i64 n, .int .i64 p, .string s, .slice na nl nc] 39) (.cells #[.int .i64 0, .int .i64 0, .int .i64 0, .string ⟨#[]⟩, .slice none 0 0, .slice none 0 0, .slice none 0 0] 28))
  have HG0 := Lf.hide (Lf.gbt (Lf.gbt (Lf.gb (w := W) (.cells #[.int .i64 T.t, .slice ta T.args.length tc] 24)) (Lf.gb (.cells #[.int .i64 k, .int .i64 n, .int .i64 p, .string s, .slice na nl nc] 39))) (Lf.gb (.cells #[.int .i64 0, .int .i64 0, .int .i64 0, .string ⟨#[]⟩, .slice none 0 0, .slice none 0 0, .slice none 0 0] 28)))
  clear hT hL hT0 hRT it
  unfold tyV nodeV at *
  cases hgd : goodTy T with
  | false =>
    have HP : Hid (parseF T t = none) := by show _ = _; unfold parseF; rw [if_neg (by rw [hgd]; simp)]
    have HGD := Lf.hide hgd
    clear hgd
    go_enter Try.func19, Try.ntmps19
    go_wp2_with fail
    refine (HG.out _ HG0.out).mono ?_; rintro e w1 ⟨rfl, hg⟩
    rw [HGD.out]
    have HZ1 := Lf.hide ((hg.block _ (lt_of_blk2 HZ0.out) (by simp)).trans HZ0.out)
    have HG1 := Lf.hide (Lf.gbt HG0.out hg)
    obtain ⟨z10, z11, z12, z13, z14, z15, z16⟩ := box7 HZ1.out
    have y1 := free7 HZ1.out
    clear hg
    go_wp2_with fail
    change bodyPost _ _ _ _ _ (set7 w1 (W.heap.size + 1 + 1) (.int .i64 0) (.int .i64 0) (.int .i64 0) (.string ⟨#[]⟩) (.slice none 0 0) (.slice none 0 0) (.slice none 0 0))
    have hb' := set7_block HZ1.out (.int .i64 0) (.int .i64 0) (.int .i64 0) (.string ⟨#[]⟩) (.slice none 0 0) (.slice none 0 0) (.slice none 0 0)
    have hgs := set7_grow w1 (W.heap.size + 1 + 1) (.int .i64 0) (.int .i64 0) (.int .i64 0) (.string ⟨#[]⟩) (.slice none 0 0) (.slice none 0 0) (.slice none 0 0)
    have hg' := grow_new HG1.out hgs (by omega)
    generalize set7 w1 (W.heap.size + 1 + 1) (.int .i64 0) (.int .i64 0) (.int .i64 0) (.string ⟨#[]⟩) (.slice none 0 0) (.slice none 0 0) (.slice none 0 0) = wf at *
    obtain ⟨f0, f1, f2, f3, f4, f5, f6⟩ := box7 hb'
    exact bodyPost_ret (v := .tuple #[vaV 0 0 0 ⟨#[]⟩ none 0 0 none 0 0 none 0 0, .int .i64 1]) (by simp [results, Try.results19, go_sem, f0, f1, f2, f3, f4, f5, f6, vaV]) rfl ⟨hg', .inr ⟨HP.out, rfl⟩⟩
  | true =>
    by_cases hgn : goodF t = 0
    · have HRD := Lf.hide (HR.out hgd hgn)
      have HPF : Hid (parseF T t = match readT t T with
          | none => none
          | some x => if hasF T x = true then some x else none) := by show _ = _; unfold parseF; rw [if_pos ⟨hgd, hgn⟩]
      have HSZ : Hid (∀ x, readT t T = some x → x.size ≤ 20000000) := fun x hx => by have h1 := readT_size t T x hx; have h2 := (goodF_zero hgn).2; omega
      have HGD := Lf.hide hgd
      have HGN := Lf.hide hgn
      clear hgd hgn HR
      go_enter Try.func19, Try.ntmps19
      go_wp2_with fail
      refine (HG.out _ HG0.out).mono ?_; rintro e w1 ⟨rfl, hg⟩
      rw [HGD.out]
      have HA1 := Lf.hide ((hg.block _ (lt_of_blk2 HA0.out) (by simp)).trans HA0.out)
      have HB1 := Lf.hide ((hg.block _ (lt_of_blk2 HB0.out) (by simp)).trans HB0.out)
      have HZ1 := Lf.hide ((hg.block _ (lt_of_blk2 HZ0.out) (by simp)).trans HZ0.out)
      have HG1 := Lf.hide (Lf.gbt HG0.out hg)
      have a10 := cell0_of HA1.out
      have a11 := cell1_of HA1.out
      obtain ⟨b10, b11, b12, b13, b14⟩ := box5 HB1.out
      obtain ⟨z10, z11, z12, z13, z14, z15, z16⟩ := box7 HZ1.out
      have y1 := free7 HZ1.out
      clear hg
      go_wp2_with fail
      refine (HN.out _ HG1.out).mono ?_; rintro e w2 ⟨rfl, hg⟩
      rw [HGN.out]
      have HA2 := Lf.hide ((hg.block _ (lt_of_blk2 HA1.out) (by simp)).trans HA1.out)
      have HB2 := Lf.hide ((hg.block _ (lt_of_blk2 HB1.out) (by simp)).trans HB1.out)
      have HZ2 := Lf.hide ((hg.block _ (lt_of_blk2 HZ1.out) (by simp)).trans HZ1.out)
      have HG2 := Lf.hide (Lf.gbt HG1.out hg)
      have a20 := cell0_of HA2.out
      have a21 := cell1_of HA2.out
      obtain ⟨b20, b21, b22, b23, b24⟩ := box5 HB2.out
      obtain ⟨z20, z21, z22, z23, z24, z25, z26⟩ := box7 HZ2.out
      have y2 := free7 HZ2.out
      clear hg
      clear a10 a11 b10 b11 b12 b13 b14 z10 z11 z12 z13 z14 z15 z16 y1
      go_wp2_with fail
      refine (HRD.out _ HG2.out).mono ?_; rintro e w3 ⟨hg, kk, nn, aa, ss, xa, xl, xc, ya, yl, yc, za, zl, zc, bb, rfl, hpt, hpf⟩
      have HA3 := Lf.hide ((hg.block _ (lt_of_blk2 HA2.out) (by simp)).trans HA2.out)
      have HZ3 := Lf.hide ((hg.block _ (lt_of_blk2 HZ2.out) (by simp)).trans HZ2.out)
      have HW23 := Lf.hide hg
      have HG3 := Lf.hide (Lf.gbt HG2.out hg)
      have a30 := cell0_of HA3.out
      have a31 := cell1_of HA3.out
      obtain ⟨z30, z31, z32, z33, z34, z35, z36⟩ := box7 HZ3.out
      have y3 := free7 HZ3.out
      clear hg
      clear a20 a21 b20 b21 b22 b23 b24 z20 z21 z22 z23 z24 z25 z26 y2
      have l2 : W.heap.size + 1 + 1 < w3.heap.size := lt_of_blk2 HZ3.out
      have l0 : W.heap.size < w3.heap.size := by omega
      have lz2 : W.heap.size + 1 + 1 < w2.heap.size := lt_of_blk2 HZ2.out
      have HX9 := Lf.hide (heap_alloc_new w3 (.cells #[.int .i64 kk, .int .i64 nn, .int .i64 aa, .string ss, .slice xa xl xc, .slice ya yl yc, .slice za zl zc] 28))
      have HA9 := Lf.hide (heap_keep (o := (.cells #[.int .i64 kk, .int .i64 nn, .int .i64 aa, .string ss, .slice xa xl xc, .slice ya yl yc, .slice za zl zc] 28)) HA3.out)
      have HZ9 := Lf.hide (heap_keep (o := (.cells #[.int .i64 kk, .int .i64 nn, .int .i64 aa, .string ss, .slice xa xl xc, .slice ya yl yc, .slice za zl zc] 28)) HZ3.out)
      have HG9 := Lf.hide (Lf.gbt HG3.out (Lf.gb (w := w3) (.cells #[.int .i64 kk, .int .i64 nn, .int .i64 aa, .string ss, .slice xa xl xc, .slice ya yl yc, .slice za zl zc] 28)))
      unfold vaV
      cases bb with
      | false =>
        have HP : Hid (parseF T t = none) := by show _ = _; rw [HPF.out, hpf rfl]
        clear hpt hpf HPF HSZ HRD HH HG HN
        go_wp2_with fail
        change bodyPost _ _ _ _ _ ((set7 w3 (W.heap.size + 1 + 1) (.int .i64 0) (.int .i64 0) (.int .i64 0) (.string ⟨#[]⟩) (.slice none 0 0) (.slice none 0 0) (.slice none 0 0)).alloc (.cells #[.int .i64 kk, .int .i64 nn, .int .i64 aa, .string ss, .slice xa xl xc, .slice ya yl yc, .slice za zl zc] 28))
        have hb' := heap_keep (o := (.cells #[.int .i64 kk, .int .i64 nn, .int .i64 aa, .string ss, .slice xa xl xc, .slice ya yl yc, .slice za zl zc] 28)) (set7_block HZ3.out (.int .i64 0) (.int .i64 0) (.int .i64 0) (.string ⟨#[]⟩) (.slice none 0 0) (.slice none 0 0) (.slice none 0 0))
        have hg' := Lf.gbt (grow_new HG3.out (set7_grow w3 (W.heap.size + 1 + 1) (.int .i64 0) (.int .i64 0) (.int .i64 0) (.string ⟨#[]⟩) (.slice none 0 0) (.slice none 0 0) (.slice none 0 0)) (by omega)) (Lf.gb (.cells #[.int .i64 kk, .int .i64 nn, .int .i64 aa, .string ss, .slice xa xl xc, .slice ya yl yc, .slice za zl zc] 28))
        generalize (set7 w3 (W.heap.size + 1 + 1) (.int .i64 0) (.int .i64 0) (.int .i64 0) (.string ⟨#[]⟩) (.slice none 0 0) (.slice none 0 0) (.slice none 0 0)).alloc (.cells #[.int .i64 kk, .int .i64 nn, .int .i64 aa, .string ss, .slice xa xl xc, .slice ya yl yc, .slice za zl zc] 28) = wf at *
        obtain ⟨f0, f1, f2, f3, f4, f5, f6⟩ := box7 hb'
        exact bodyPost_ret (v := .tuple #[vaV 0 0 0 ⟨#[]⟩ none 0 0 none 0 0 none 0 0, .int .i64 1]) (by simp [results, Try.results19, go_sem, f0, f1, f2, f3, f4, f5, f6, vaV]) rfl ⟨hg', .inr ⟨HP.out, rfl⟩⟩
      | true =>
        obtain ⟨x, hx, hLx⟩ := hpt rfl
        have HPX : Hid (parseF T t = if hasF T x = true then some x else none) := by show _ = _; rw [HPF.out, hx]
        have hLx9 := hLx.same (w' := w3.alloc (.cells #[.int .i64 kk, .int .i64 nn, .int .i64 aa, .string ss, .slice xa xl xc, .slice ya yl yc, .slice za zl zc] 28)) (fun b o _ hlt => World.cell?_of_block (heap_alloc_old (w := w3) (o := _) (h := hlt)))
        have HC := Lf.hide (HH.out x _ _ HG9.out (hLx9.okMono (fun _ _ _ => trivial)) (HSZ.out x hx))
        unfold vaV at HC
        have HLX9 := Lf.hide hLx9
        clear hpt hpf HPF HSZ HRD HH HG HN hx hLx hLx9
        go_wp2_with fail
        refine HC.out.mono ?_; rintro e w4 ⟨rfl, hg⟩
        have HZ4 := Lf.hide ((hg.block _ (lt_of_blk2 HZ9.out) (by simp)).trans HZ9.out)
        have HX4 := Lf.hide ((hg.block _ (lt_of_blk2 HX9.out) (by simp)).trans HX9.out)
        have HG4 := Lf.hide (Lf.gbt HG9.out hg)
        obtain ⟨z40, z41, z42, z43, z44, z45, z46⟩ := box7 HZ4.out
        obtain ⟨v40, v41, v42, v43, v44, v45, v46⟩ := box7 HX4.out
        have y4 := free7 HZ4.out
        have HLX := Lf.hide (HLX9.out.same (w' := w4) (fun b o _ hlt => World.cell?_of_block (hg.block b hlt (by simp))))
        clear hg a30 a31 z30 z31 z32 z33 z34 z35 z36 y3 HLX9 HC
        cases hh : hasF T x with
        | false =>
          have HP : Hid (parseF T t = none) := by show _ = _; rw [HPX.out, hh]; rfl
          clear hh HPX
          go_wp2_with fail
          change bodyPost _ _ _ _ _ (set7 w4 (W.heap.size + 1 + 1) (.int .i64 0) (.int .i64 0) (.int .i64 0) (.string ⟨#[]⟩) (.slice none 0 0) (.slice none 0 0) (.slice none 0 0))
          have hb' := set7_block HZ4.out (.int .i64 0) (.int .i64 0) (.int .i64 0) (.string ⟨#[]⟩) (.slice none 0 0) (.slice none 0 0) (.slice none 0 0)
          have hgs := set7_grow w4 (W.heap.size + 1 + 1) (.int .i64 0) (.int .i64 0) (.int .i64 0) (.string ⟨#[]⟩) (.slice none 0 0) (.slice none 0 0) (.slice none 0 0)
          have hg' := grow_new HG4.out hgs (by omega)
          generalize set7 w4 (W.heap.size + 1 + 1) (.int .i64 0) (.int .i64 0) (.int .i64 0) (.string ⟨#[]⟩) (.slice none 0 0) (.slice none 0 0) (.slice none 0 0) = wf at *
          obtain ⟨f0, f1, f2, f3, f4, f5, f6⟩ := box7 hb'
          exact bodyPost_ret (v := .tuple #[vaV 0 0 0 ⟨#[]⟩ none 0 0 none 0 0 none 0 0, .int .i64 1]) (by simp [results, Try.results19, go_sem, f0, f1, f2, f3, f4, f5, f6, vaV]) rfl ⟨hg', .inr ⟨HP.out, rfl⟩⟩
        | true =>
          have HP : Hid (parseF T t = some x) := by show _ = _; rw [HPX.out, hh]; rfl
          clear hh HPX
          go_wp2_with fail
          change bodyPost _ _ _ _ _ (set7 w4 (W.heap.size + 1 + 1) (.int .i64 kk) (.int .i64 nn) (.int .i64 aa) (.string ss) (.slice xa xl xc) (.slice ya yl yc) (.slice za zl zc))
          have hb' := set7_block HZ4.out (.int .i64 kk) (.int .i64 nn) (.int .i64 aa) (.string ss) (.slice xa xl xc) (.slice ya yl yc) (.slice za zl zc)
          have hgs := set7_grow w4 (W.heap.size + 1 + 1) (.int .i64 kk) (.int .i64 nn) (.int .i64 aa) (.string ss) (.slice xa xl xc) (.slice ya yl yc) (.slice za zl zc)
          have hg' := grow_new HG4.out hgs (by omega)
          generalize set7 w4 (W.heap.size + 1 + 1) (.int .i64 kk) (.int .i64 nn) (.int .i64 aa) (.string ss) (.slice xa xl xc) (.slice ya yl yc) (.slice za zl zc) = wf at *
          obtain ⟨f0, f1, f2, f3, f4, f5, f6⟩ := box7 hb'
          refine bodyPost_ret (v := .tuple #[vaV kk nn aa ss xa xl xc ya yl yc za zl zc, .int .i64 0]) (by simp [results, Try.results19, go_sem, f0, f1, f2, f3, f4, f5, f6, vaV]) rfl ⟨hg', .inl ⟨_, _, HP.out, rfl, ?_⟩⟩
          exact HLX.out.same (w' := wf) (fun b o hb hlt => World.cell?_of_block (hgs.block b hlt (by simp; have h : w2.heap.size ≤ b := hb; omega))) |>.okMono (fun b _ hb => by have h : w2.heap.size ≤ b := hb; show W.heap.size ≤ b; omega)
    · have HP : Hid (parseF T t = none) := by show _ = _; unfold parseF; rw [if_neg (by intro h; exact hgn h.2)]
      have hgnb : (goodF t == 0) = false := by simpa using hgn
      generalize goodF t = gf at *
      have HGD := Lf.hide hgd
      clear hgd HR hgn
      go_enter Try.func19, Try.ntmps19
      go_wp2_with fail
      refine (HG.out _ HG0.out).mono ?_; rintro e w1 ⟨rfl, hg⟩
      rw [HGD.out]
      have HA1 := Lf.hide ((hg.block _ (lt_of_blk2 HA0.out) (by simp)).trans HA0.out)
      have HB1 := Lf.hide ((hg.block _ (lt_of_blk2 HB0.out) (by simp)).trans HB0.out)
      have HZ1 := Lf.hide ((hg.block _ (lt_of_blk2 HZ0.out) (by simp)).trans HZ0.out)
      have HG1 := Lf.hide (Lf.gbt HG0.out hg)
      have a10 := cell0_of HA1.out
      have a11 := cell1_of HA1.out
      obtain ⟨b10, b11, b12, b13, b14⟩ := box5 HB1.out
      obtain ⟨z10, z11, z12, z13, z14, z15, z16⟩ := box7 HZ1.out
      have y1 := free7 HZ1.out
      clear hg
      go_wp2_with fail
      refine (HN.out _ HG1.out).mono ?_; rintro e w2 ⟨rfl, hg⟩
      have HZ2 := Lf.hide ((hg.block _ (lt_of_blk2 HZ1.out) (by simp)).trans HZ1.out)
      have HG2 := Lf.hide (Lf.gbt HG1.out hg)
      obtain ⟨z20, z21, z22, z23, z24, z25, z26⟩ := box7 HZ2.out
      have y2 := free7 HZ2.out
      clear hg
      clear a10 a11 b10 b11 b12 b13 b14 z10 z11 z12 z13 z14 z15 z16 y1
      go_wp2_with fail
      change bodyPost _ _ _ _ _ (set7 w2 (W.heap.size + 1 + 1) (.int .i64 0) (.int .i64 0) (.int .i64 0) (.string ⟨#[]⟩) (.slice none 0 0) (.slice none 0 0) (.slice none 0 0))
      have hb' := set7_block HZ2.out (.int .i64 0) (.int .i64 0) (.int .i64 0) (.string ⟨#[]⟩) (.slice none 0 0) (.slice none 0 0) (.slice none 0 0)
      have hgs := set7_grow w2 (W.heap.size + 1 + 1) (.int .i64 0) (.int .i64 0) (.int .i64 0) (.string ⟨#[]⟩) (.slice none 0 0) (.slice none 0 0) (.slice none 0 0)
      have hg' := grow_new HG2.out hgs (by omega)
      generalize set7 w2 (W.heap.size + 1 + 1) (.int .i64 0) (.int .i64 0) (.int .i64 0) (.string ⟨#[]⟩) (.slice none 0 0) (.slice none 0 0) (.slice none 0 0) = wf at *
      obtain ⟨f0, f1, f2, f3, f4, f5, f6⟩ := box7 hb'
      exact bodyPost_ret (v := .tuple #[vaV 0 0 0 ⟨#[]⟩ none 0 0 none 0 0 none 0 0, .int .i64 1]) (by simp [results, Try.results19, go_sem, f0, f1, f2, f3, f4, f5, f6, vaV]) rfl ⟨hg', .inr ⟨HP.out, rfl⟩⟩

end Go.Proofs.Ytmmgihaoahhkjaa
