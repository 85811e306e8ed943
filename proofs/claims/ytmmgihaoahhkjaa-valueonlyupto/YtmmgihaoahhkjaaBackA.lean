/- Values that can be told: plain all through, like themselves, and read as they were told. -/
import Derived.Test.YtmmgihaoahhkjaaUnpackA
import Derived.Test.YtmmgihaoahhkjaaTellN
import Derived.Test.YtmmgihaoahhkjaaSameV
namespace Go.Proofs.Ytmmgihaoahhkjaa
set_option linter.unusedVariables false

mutual
theorem sbs_self : ∀ x : Va, sbsV sameC x x = 0
  | .mk k n a s args ty co => by
    have h : sameC (.mk k n a s args ty co) (.mk k n a s args ty co) = 0 := by simp [sameC]
    rw [sbsV, if_neg (by simpa using h)]
    exact sbss_self args
theorem sbss_self : ∀ xs : List Va, sbsVs sameC xs xs = 0
  | [] => rfl
  | x :: xs => by
    rw [sbsVs, if_neg (by simpa using sbs_self x)]
    exact sbss_self xs
end

mutual
theorem plain_pack : ∀ (x : Va) (T : Ty) (d : Nat), hasV x T = true → packT T = true → formedB d T = true → Plain x
  | .mk k n a s args ty co, T, d => by
    intro hv hp hf
    obtain ⟨_, _, h3, h4, _, _, ts, hts, hh⟩ := pack_fits hv hp
    have hok := ts_ok hv hp hf hts
    simp only [Va.types, Va.code] at h3 h4
    subst h3; subst h4
    exact .mk (plains_pack args ts hh hok)
theorem plains_pack : ∀ (xs : List Va) (ts : List Ty), hasVs xs ts = true → (∀ U ∈ ts, packT U = true ∧ ∃ d, formedB d U = true) → ∀ x ∈ xs, Plain x
  | [], _ => by intros _ _ x hx; simp at hx
  | x :: xs, [] => by intro h; simp [hasVs] at h
  | x :: xs, T :: ts => by
    intro hx hc z hz
    simp only [hasVs, Bool.and_eq_true] at hx
    obtain ⟨h1, d, h2⟩ := hc T (by simp)
    rcases List.mem_cons.1 hz with he | hz
    · rw [he]; exact plain_pack x T d hx.1 h1 h2
    · exact plains_pack xs ts hx.2 (fun z hz => hc z (by simp [hz])) z hz
end

/-- what is told is read as it was -/
theorem told_back {T : Ty} {x : Va} (hc : canF T x = true) (hg : goodF (toldF x) = 0) : parseF T (toldF x) = some x := by
  obtain ⟨h1, h2, h3⟩ := can_parts hc
  have hf := (goodTy_formed h1).1
  have he := (told_good h2 h3 hf).2.1 hg
  rw [he] at hg ⊢
  unfold parseF
  rw [if_pos ⟨h1, hg⟩, read_back x T 1 h2 h3 hf]
  have hh : hasF T x = true := by unfold hasF; rw [h1, h2]; rfl
  simp [hh]

theorem decode_told {t : Tr} (h : goodF t = 0) : pDecode (encTr t) = .ok t := by
  obtain ⟨h1, h2⟩ := goodF_zero h
  have := pNode_complete 24 (by omega) t 0 [] h1 (by omega)
  rw [List.append_nil] at this
  unfold pDecode
  rw [this]
  simp

end Go.Proofs.Ytmmgihaoahhkjaa

/- ValueBack's walk. -/
namespace Go.Proofs.Ytmmgihaoahhkjaa
set_option maxRecDepth 20000
open Go.ChangeShapes Go.WideShapes Go.ChangeAt Go.RowKit
set_option linter.unusedVariables false

set_option maxRecDepth 100000 in
set_option maxHeartbeats 1000000 in
/-- a value that has no tree: neither Node nor Pack gives one -/
theorem back_no4 {W : World} {tv v : Value} {t0 : Int} {a : Option Addr} {l c : Nat} (htv : tv = tyV t0 a l c) {k1 n1 a1 : Int} {s1 : ByteArray} {aa1 : Option Addr} {al1 ac1 : Nat} {ta1 : Option Addr} {tl1 tc1 : Nat} {na1 : Option Addr} {nl1 nc1 : Nat} (hv : v = vaV k1 n1 a1 s1 aa1 al1 ac1 ta1 tl1 tc1 na1 nl1 nc1)
    (HN : Hid (∀ W2, W.grownBy W2 none → Calls Try.prog 18 #[tv, v] W2 fun e w' => W2.grownBy w' none ∧ e = .returned (.tuple #[nodeV 0 0 0 ⟨#[]⟩ none 0 0, .int .i64 4])))
    (HP : Hid (∀ W2, W.grownBy W2 none → Calls Try.prog 20 #[tv, v] W2 fun e w' => W2.grownBy w' none ∧ e = .returned (.tuple #[.string ⟨#[]⟩, .int .i64 4]))) :
    Calls Try.prog 5 #[tv, v] W fun e w' => e = .returned (.bool true) ∧ W.grownBy w' none := by
  subst htv hv
  have HWO := Lf.hide worth_any
  let A : Obj := .cells #[.int .i64 t0, .slice a l c] 24
  let B : Obj := .cells #[.int .i64 k1, .int .i64 n1, .int .i64 a1, .string s1, .slice aa1 al1 ac1, .slice ta1 tl1 tc1, .slice na1 nl1 nc1] 28
  have HA0 := Lf.hide (res_new W A B)
  have HB0 := Lf.hide (new_twoI W A B)
  have HG0 := Lf.hide (Lf.gbt (Lf.gb (w := W) A) (Lf.gb B))
  unfold tyV vaV nodeV at *
  go_enter Try.func5, Try.ntmps5
  go_wp2_with fail
  refine (HN.out _ HG0.out).mono ?_; rintro e w1 ⟨hg, rfl⟩
  have HA1 := Lf.hide ((hg.block _ (lt_of_blk2 HA0.out) (by simp)).trans HA0.out)
  have HB1 := Lf.hide ((hg.block _ (lt_of_blk2 HB0.out) (by simp)).trans HB0.out)
  have HG1 := Lf.hide (Lf.gbt (Lf.gbt HG0.out hg) (Lf.gb (.cells #[.int .i64 0, .int .i64 0, .int .i64 0, .string ⟨#[]⟩, .slice none 0 0] 39)))
  have q0 := cell0_of HA1.out
  have q1 := cell1_of HA1.out
  obtain ⟨b0, b1, b2, b3, b4, b5, b6⟩ := box7 HB1.out
  have la := lt_of_blk2 HA1.out
  have lb := lt_of_blk2 HB1.out
  clear hg
  go_wp2_with fail
  refine (HP.out _ HG1.out).mono ?_; rintro e w2 ⟨hg, rfl⟩
  have HG2 := Lf.hide (Lf.gbt HG1.out hg)
  clear hg
  go_wp2_with fail
  refine (HWO.out _).mono ?_; rintro e w3 ⟨rfl, hg⟩
  have HG3 := Lf.hide (Lf.gbt HG2.out hg)
  clear hg
  go_wp2_with fail
  go_ret
  exact ⟨rfl, HG3.out⟩

set_option maxRecDepth 100000 in
set_option maxHeartbeats 1000000 in
/-- a value that has no tree: neither Node nor Pack gives one -/
theorem back_no5 {W : World} {tv v : Value} {t0 : Int} {a : Option Addr} {l c : Nat} (htv : tv = tyV t0 a l c) {k1 n1 a1 : Int} {s1 : ByteArray} {aa1 : Option Addr} {al1 ac1 : Nat} {ta1 : Option Addr} {tl1 tc1 : Nat} {na1 : Option Addr} {nl1 nc1 : Nat} (hv : v = vaV k1 n1 a1 s1 aa1 al1 ac1 ta1 tl1 tc1 na1 nl1 nc1)
    (HN : Hid (∀ W2, W.grownBy W2 none → Calls Try.prog 18 #[tv, v] W2 fun e w' => W2.grownBy w' none ∧ e = .returned (.tuple #[nodeV 0 0 0 ⟨#[]⟩ none 0 0, .int .i64 5])))
    (HP : Hid (∀ W2, W.grownBy W2 none → Calls Try.prog 20 #[tv, v] W2 fun e w' => W2.grownBy w' none ∧ e = .returned (.tuple #[.string ⟨#[]⟩, .int .i64 5]))) :
    Calls Try.prog 5 #[tv, v] W fun e w' => e = .returned (.bool true) ∧ W.grownBy w' none := by
  subst htv hv
  have HWO := Lf.hide worth_any
  let A : Obj := .cells #[.int .i64 t0, .slice a l c] 24
  let B : Obj := .cells #[.int .i64 k1, .int .i64 n1, .int .i64 a1, .string s1, .slice aa1 al1 ac1, .slice ta1 tl1 tc1, .slice na1 nl1 nc1] 28
  have HA0 := Lf.hide (res_new W A B)
  have HB0 := Lf.hide (new_twoI W A B)
  have HG0 := Lf.hide (Lf.gbt (Lf.gb (w := W) A) (Lf.gb B))
  unfold tyV vaV nodeV at *
  go_enter Try.func5, Try.ntmps5
  go_wp2_with fail
  refine (HN.out _ HG0.out).mono ?_; rintro e w1 ⟨hg, rfl⟩
  have HA1 := Lf.hide ((hg.block _ (lt_of_blk2 HA0.out) (by simp)).trans HA0.out)
  have HB1 := Lf.hide ((hg.block _ (lt_of_blk2 HB0.out) (by simp)).trans HB0.out)
  have HG1 := Lf.hide (Lf.gbt (Lf.gbt HG0.out hg) (Lf.gb (.cells #[.int .i64 0, .int .i64 0, .int .i64 0, .string ⟨#[]⟩, .slice none 0 0] 39)))
  have q0 := cell0_of HA1.out
  have q1 := cell1_of HA1.out
  obtain ⟨b0, b1, b2, b3, b4, b5, b6⟩ := box7 HB1.out
  have la := lt_of_blk2 HA1.out
  have lb := lt_of_blk2 HB1.out
  clear hg
  go_wp2_with fail
  refine (HP.out _ HG1.out).mono ?_; rintro e w2 ⟨hg, rfl⟩
  have HG2 := Lf.hide (Lf.gbt HG1.out hg)
  clear hg
  go_wp2_with fail
  refine (HWO.out _).mono ?_; rintro e w3 ⟨rfl, hg⟩
  have HG3 := Lf.hide (Lf.gbt HG2.out hg)
  clear hg
  go_wp2_with fail
  go_ret
  exact ⟨rfl, HG3.out⟩

set_option maxRecDepth 100000 in
set_option maxHeartbeats 2000000 in
/-- a value that has a tree -/
theorem back_yes {W : World} {tv v : Value} {x : Va} {t : Tr} {s : ByteArray} {er : Int} {t0 : Int} {a : Option Addr} {l c : Nat} (htv : tv = tyV t0 a l c) {k1 n1 a1 : Int} {s1 : ByteArray} {aa1 : Option Addr} {al1 ac1 : Nat} {ta1 : Option Addr} {tl1 tc1 : Nat} {na1 : Option Addr} {nl1 nc1 : Nat} (hv : v = vaV k1 n1 a1 s1 aa1 al1 ac1 ta1 tl1 tc1 na1 nl1 nc1)
    (HN : Hid (∀ W2, W.grownBy W2 none → Calls Try.prog 18 #[tv, v] W2 fun e w' => W2.grownBy w' none ∧ ∃ u, e = .returned (.tuple #[u, .int .i64 0]) ∧ Lies (fun _ => True) w' t u))
    (HR : Hid (∀ (W2 : World) (u : Value), W.grownBy W2 none → Lies (fun _ => True) W2 t u → Calls Try.prog 19 #[tv, u] W2 fun e w' => W2.grownBy w' none ∧ ∃ v', e = .returned (.tuple #[v', .int .i64 0]) ∧ LiesV (fun _ => True) w' x v'))
    (HS : Hid (∀ (W2 : World) (v' : Value), W.grownBy W2 none → LiesV (fun _ => True) W2 x v' → Calls Try.prog 14 #[v, v'] W2 fun e w' => e = .returned (.bool true) ∧ W2.grownBy w' none))
    (HP : Hid (∀ W2, W.grownBy W2 none → Calls Try.prog 20 #[tv, v] W2 fun e w' => W2.grownBy w' none ∧ e = .returned (.tuple #[.string s, .int .i64 er])))
    (hcase : (er = 4 ∧ s = ⟨#[]⟩) ∨ (er = 0 ∧ s.size ≤ 200 ∧ ∀ (W2 : World), W.grownBy W2 none → Calls Try.prog 21 #[tv, .string s] W2 fun e w' => W2.grownBy w' none ∧ ∃ v', e = .returned (.tuple #[v', .int .i64 0]) ∧ LiesV (fun _ => True) w' x v')) :
    Calls Try.prog 5 #[tv, v] W fun e w' => e = .returned (.bool true) ∧ W.grownBy w' none := by
  subst htv hv
  have HWO := Lf.hide worth_any
  have HCASE := Lf.hide hcase
  let A : Obj := .cells #[.int .i64 t0, .slice a l c] 24
  let B : Obj := .cells #[.int .i64 k1, .int .i64 n1, .int .i64 a1, .string s1, .slice aa1 al1 ac1, .slice ta1 tl1 tc1, .slice na1 nl1 nc1] 28
  have HA0 := Lf.hide (res_new W A B)
  have HB0 := Lf.hide (new_twoI W A B)
  have HG0 := Lf.hide (Lf.gbt (Lf.gb (w := W) A) (Lf.gb B))
  clear hcase
  unfold tyV vaV at *
  go_enter Try.func5, Try.ntmps5
  go_wp2_with fail
  refine (HN.out _ HG0.out).mono ?_; rintro e w1 ⟨hg, u, rfl, hLu⟩
  obtain ⟨ku, nu, pu, su, au, lu, cu, rfl⟩ := hLu.nodeV
  have HA1 := Lf.hide ((hg.block _ (lt_of_blk2 HA0.out) (by simp)).trans HA0.out)
  have HB1 := Lf.hide ((hg.block _ (lt_of_blk2 HB0.out) (by simp)).trans HB0.out)
  have HG1 := Lf.hide (Lf.gbt (Lf.gbt HG0.out hg) (Lf.gb (.cells #[.int .i64 ku, .int .i64 nu, .int .i64 pu, .string su, .slice au lu cu] 39)))
  have HA2 := Lf.hide (heap_keep (o := .cells #[.int .i64 ku, .int .i64 nu, .int .i64 pu, .string su, .slice au lu cu] 39) HA1.out)
  have HB2 := Lf.hide (heap_keep (o := .cells #[.int .i64 ku, .int .i64 nu, .int .i64 pu, .string su, .slice au lu cu] 39) HB1.out)
  have HCR := Lf.hide (HR.out _ _ HG1.out (hLu.same (w' := w1.alloc (.cells #[.int .i64 ku, .int .i64 nu, .int .i64 pu, .string su, .slice au lu cu] 39)) (fun b o _ hlt => World.cell?_of_block (heap_alloc_old (w := w1) (o := _) (h := hlt)))))
  have q0 := cell0_of HA1.out
  have q1 := cell1_of HA1.out
  have la := lt_of_blk2 HA1.out
  clear hg hLu HN HR
  unfold nodeV at HCR ⊢
  go_wp2_with fail
  refine HCR.out.mono ?_; rintro e w2 ⟨hg, v', rfl, hLv⟩
  obtain ⟨kk, nn, aa, ss, xa, xl, xc, ya, yl, yc, za, zl, zc, rfl⟩ := hLv.vaV
  have HA3 := Lf.hide ((hg.block _ (lt_of_blk2 HA2.out) (by simp)).trans HA2.out)
  have HB3 := Lf.hide ((hg.block _ (lt_of_blk2 HB2.out) (by simp)).trans HB2.out)
  have HG3 := Lf.hide (Lf.gbt (Lf.gbt HG1.out hg) (Lf.gb (.cells #[.int .i64 kk, .int .i64 nn, .int .i64 aa, .string ss, .slice xa xl xc, .slice ya yl yc, .slice za zl zc] 28)))
  have HA9 := Lf.hide (heap_keep (o := .cells #[.int .i64 kk, .int .i64 nn, .int .i64 aa, .string ss, .slice xa xl xc, .slice ya yl yc, .slice za zl zc] 28) HA3.out)
  have HB9 := Lf.hide (heap_keep (o := .cells #[.int .i64 kk, .int .i64 nn, .int .i64 aa, .string ss, .slice xa xl xc, .slice ya yl yc, .slice za zl zc] 28) HB3.out)
  have HCS := Lf.hide (HS.out _ _ HG3.out (hLv.same (w' := w2.alloc (.cells #[.int .i64 kk, .int .i64 nn, .int .i64 aa, .string ss, .slice xa xl xc, .slice ya yl yc, .slice za zl zc] 28)) (fun b o _ hlt => World.cell?_of_block (heap_alloc_old (w := w2) (o := _) (h := hlt)))))
  obtain ⟨b0, b1, b2, b3, b4, b5, b6⟩ := box7 HB3.out
  have lb := lt_of_blk2 HB3.out
  clear hg hLv q0 q1 la HCR
  unfold vaV at HCS ⊢
  go_wp2_with fail
  refine HCS.out.mono ?_; rintro e w3 ⟨rfl, hg⟩
  have HA4 := Lf.hide ((hg.block _ (lt_of_blk2 HA9.out) (by simp)).trans HA9.out)
  have HB4 := Lf.hide ((hg.block _ (lt_of_blk2 HB9.out) (by simp)).trans HB9.out)
  have HG4 := Lf.hide (Lf.gbt HG3.out hg)
  clear hg b0 b1 b2 b3 b4 b5 b6 lb HCS
  have q0 := cell0_of HA4.out
  have q1 := cell1_of HA4.out
  obtain ⟨b0, b1, b2, b3, b4, b5, b6⟩ := box7 HB4.out
  go_wp2_with fail
  refine (HP.out _ HG4.out).mono ?_; rintro e w4 ⟨hg, rfl⟩
  have HA5 := Lf.hide ((hg.block _ (lt_of_blk2 HA4.out) (by simp)).trans HA4.out)
  have HB5 := Lf.hide ((hg.block _ (lt_of_blk2 HB4.out) (by simp)).trans HB4.out)
  have HG5 := Lf.hide (Lf.gbt HG4.out hg)
  clear hg b0 b1 b2 b3 b4 b5 b6 q0 q1 HP
  rcases HCASE.out with ⟨rfl, rfl⟩ | ⟨rfl, hs2, hu⟩
  · clear HCASE
    go_wp2_with fail
    refine (HWO.out _).mono ?_; rintro e w5 ⟨rfl, hg⟩
    have HG6 := Lf.hide (Lf.gbt HG5.out hg)
    clear hg
    go_wp2_with fail
    go_ret
    exact ⟨rfl, HG6.out⟩
  · have HU := Lf.hide hu
    clear hu HCASE
    go_wp2_with fail
    refine (HWO.out _).mono ?_; rintro e w5 ⟨rfl, hg⟩
    have HA6 := Lf.hide ((hg.block _ (lt_of_blk2 HA5.out) (by simp)).trans HA5.out)
    have HB6 := Lf.hide ((hg.block _ (lt_of_blk2 HB5.out) (by simp)).trans HB5.out)
    have HG6 := Lf.hide (Lf.gbt HG5.out hg)
    have q0 := cell0_of HA6.out
    have q1 := cell1_of HA6.out
    clear hg
    go_wp2_with fail
    refine (HU.out _ HG6.out).mono ?_; rintro e w6 ⟨hg, v', rfl, hLv⟩
    obtain ⟨kk, nn, aa, ss, xa, xl, xc, ya, yl, yc, za, zl, zc, rfl⟩ := hLv.vaV
    have HB7 := Lf.hide ((hg.block _ (lt_of_blk2 HB6.out) (by simp)).trans HB6.out)
    have HG7 := Lf.hide (Lf.gbt (Lf.gbt HG6.out hg) (Lf.gb (.cells #[.int .i64 kk, .int .i64 nn, .int .i64 aa, .string ss, .slice xa xl xc, .slice ya yl yc, .slice za zl zc] 28)))
    have HCS := Lf.hide (HS.out _ _ HG7.out (hLv.same (w' := w6.alloc (.cells #[.int .i64 kk, .int .i64 nn, .int .i64 aa, .string ss, .slice xa xl xc, .slice ya yl yc, .slice za zl zc] 28)) (fun b o _ hlt => World.cell?_of_block (heap_alloc_old (w := w6) (o := _) (h := hlt)))))
    obtain ⟨b0, b1, b2, b3, b4, b5, b6⟩ := box7 HB7.out
    have lb := lt_of_blk2 HB7.out
    have hsi : (s.size : Int) ≤ 200 := by omega
    clear hg hLv q0 q1 HU HS
    unfold vaV at HCS ⊢
    go_wp2_with fail
    refine HCS.out.mono ?_; rintro e w7 ⟨rfl, hg⟩
    have HG8 := Lf.hide (Lf.gbt HG7.out hg)
    clear hg HCS
    go_wp2_with fail
    go_ret
    exact ⟨rfl, HG8.out⟩

end Go.Proofs.Ytmmgihaoahhkjaa
