/- Unpack by its contract: a mark, but no value behind it. -/
import Derived.Test.YtmmgihaoahhkjaaUnpackA
namespace Go.Proofs.Ytmmgihaoahhkjaa
set_option maxRecDepth 20000
open Go.ChangeShapes Go.WideShapes Go.ChangeAt Go.RowKit
set_option linter.unusedVariables false

set_option maxRecDepth 100000 in
set_option maxHeartbeats 1000000 in
theorem unpack_nopack {W : World} {T : Ty} {tv : Value} {l : List UInt8} {t : Tr} {x : Va} (hT : LiesT (fun _ => True) W T tv) (hl : l.length ≤ 199) (hd : pDecode l = .ok t) (hts : t.size ≤ 300) (hp : parseF T t = some x) (hk : packT T = false) (hts2 : T.size ≤ 50000000) :
    Calls Try.prog 21 #[tv, .string ⟨((5 : UInt8) :: l).toArray⟩] W fun e w' => W.grownBy w' none ∧ e = .returned (.tuple #[vaV 0 0 0 ⟨#[]⟩ none 0 0 none 0 0 none 0 0, .int .i64 1]) := by
  obtain ⟨q1, q2, q3⟩ := bs5 l
  have HC := Lf.hide (cutPrefix_yes _ _ l.length q1 (by omega) q2 q3)
  have HD := Lf.hide (fun W2 => decode_ok hd (by unfold maxLen; omega) W2)
  have HP : Hid (∀ (W2 : World) (u : Value), W.grownBy W2 none → Lies (fun _ => True) W2 t u → Calls Try.prog 19 #[tv, u] W2 (ParsePost T t W2)) := fun W2 u hg hu => parse_any (LiesT.same hT (sameAll hg)) hu (by omega)
  have HK : Hid (∀ W2, W.grownBy W2 none → Calls Try.prog 22 #[tv] W2 fun e w' => e = .returned (.bool false) ∧ W2.grownBy w' none) := fun W2 hg => by
    have h := packed_any (LiesT.up hT hg) hts2
    rw [hk] at h
    exact h
  obtain ⟨ta, tc, VT, rfl, it, hRT⟩ := hT.inv
  have HPF := Lf.hide hp
  let A : Obj := .cells #[.int .i64 T.t, .slice ta T.args.length tc] 24
  let Z : Obj := .cells #[.int .i64 0, .int .i64 0, .int .i64 0, .string ⟨#[]⟩, .slice none 0 0, .slice none 0 0, .slice none 0 0] 28
  have HA0 := Lf.hide (res_new W A Z)
  have HZ0 := Lf.hide (new_twoI W A Z)
  have HG0 := Lf.hide (Lf.gbt (Lf.gb (w := W) A) (Lf.gb Z))
  clear hT hd hp hk it hRT q2 q3 hts2
  generalize (⟨((5 : UInt8) :: l).toArray⟩ : ByteArray) = sv at *
  have hli : ¬ (200 : Int) < (l.length : Int) + 1 := by omega
  generalize bs l = rest at *
  unfold tyV at *
  go_enter Try.func21, Try.ntmps21
  go_wp2_with fail
  refine (HC.out _).mono ?_; rintro e w0 ⟨rfl, rfl⟩
  go_wp2_with fail
  refine (HD.out _).mono ?_; rintro e w1 ⟨u, rfl, hLu, hg⟩
  obtain ⟨ku, nu, pu, su, au, lu, cu, rfl⟩ := hLu.nodeV
  have HA1 := Lf.hide ((hg.block _ (lt_of_blk2 HA0.out) (by simp)).trans HA0.out)
  have HZ1 := Lf.hide ((hg.block _ (lt_of_blk2 HZ0.out) (by simp)).trans HZ0.out)
  have HG1 := Lf.hide (Lf.gbt (Lf.gbt HG0.out hg) (Lf.gb (.cells #[.int .i64 ku, .int .i64 nu, .int .i64 pu, .string su, .slice au lu cu] 39)))
  have HA2 := Lf.hide (heap_keep (o := .cells #[.int .i64 ku, .int .i64 nu, .int .i64 pu, .string su, .slice au lu cu] 39) HA1.out)
  have HZ2 := Lf.hide (heap_keep (o := .cells #[.int .i64 ku, .int .i64 nu, .int .i64 pu, .string su, .slice au lu cu] 39) HZ1.out)
  have HCP := Lf.hide (HP.out _ _ HG1.out ((hLu.same (w' := w1.alloc (.cells #[.int .i64 ku, .int .i64 nu, .int .i64 pu, .string su, .slice au lu cu] 39)) (fun b o _ hlt => World.cell?_of_block (heap_alloc_old (w := w1) (o := _) (h := hlt)))).okMono (fun _ _ _ => trivial)))
  have a10 := cell0_of HA1.out
  have a11 := cell1_of HA1.out
  have la := lt_of_blk2 HA1.out
  have lz := lt_of_blk2 HZ1.out
  clear hg hLu HP HD HC
  unfold nodeV at HCP ⊢
  go_wp2_with fail
  refine HCP.out.mono ?_; rintro e w2 ⟨hg, hw⟩
  rcases hw with ⟨x', v, hx', rfl, hLv⟩ | ⟨hn, rfl⟩
  · have hxe : x' = x := by have h := HPF.out; rw [hx'] at h; exact Option.some.inj h
    subst hxe
    obtain ⟨kk, nn, aa, ss, xa, xl, xc, ya, yl, yc, za, zl, zc, rfl⟩ := hLv.vaV
    have HA3 := Lf.hide ((hg.block _ (lt_of_blk2 HA2.out) (by simp)).trans HA2.out)
    have HZ3 := Lf.hide ((hg.block _ (lt_of_blk2 HZ2.out) (by simp)).trans HZ2.out)
    have HG3 := Lf.hide (Lf.gbt HG1.out hg)
    have HA9 := Lf.hide (heap_keep (o := .cells #[.int .i64 kk, .int .i64 nn, .int .i64 aa, .string ss, .slice xa xl xc, .slice ya yl yc, .slice za zl zc] 28) HA3.out)
    have HZ9 := Lf.hide (heap_keep (o := .cells #[.int .i64 kk, .int .i64 nn, .int .i64 aa, .string ss, .slice xa xl xc, .slice ya yl yc, .slice za zl zc] 28) HZ3.out)
    have HX9 := Lf.hide (heap_alloc_new w2 (.cells #[.int .i64 kk, .int .i64 nn, .int .i64 aa, .string ss, .slice xa xl xc, .slice ya yl yc, .slice za zl zc] 28))
    have HG9 := Lf.hide (Lf.gbt HG3.out (Lf.gb (.cells #[.int .i64 kk, .int .i64 nn, .int .i64 aa, .string ss, .slice xa xl xc, .slice ya yl yc, .slice za zl zc] 28)))
    have a30 := cell0_of HA3.out
    have a31 := cell1_of HA3.out
    have la3 := lt_of_blk2 HA3.out
    have HCK := Lf.hide (HK.out _ HG9.out)
    have hz1 : W.heap.size + 1 + 1 ≤ (w1.alloc (.cells #[.int .i64 ku, .int .i64 nu, .int .i64 pu, .string su, .slice au lu cu] 39)).heap.size := by rw [World.size_alloc]; omega
    have HL9 := Lf.hide ((hLv.same (w' := w2.alloc (.cells #[.int .i64 kk, .int .i64 nn, .int .i64 aa, .string ss, .slice xa xl xc, .slice ya yl yc, .slice za zl zc] 28)) (fun b o _ hlt => World.cell?_of_block (heap_alloc_old (w := w2) (o := _) (h := hlt)))).okMono (ok' := (W.heap.size + 1 + 1 ≤ ·)) (fun b _ hb => by have h : (w1.alloc (.cells #[.int .i64 ku, .int .i64 nu, .int .i64 pu, .string su, .slice au lu cu] 39)).heap.size ≤ b := hb; show W.heap.size + 1 + 1 ≤ b; omega))
    clear hg hLv hx' hz1 HCP HK a10 a11
    unfold vaV
    go_wp2_with fail
    refine HCK.out.mono ?_; rintro e w3 ⟨rfl, hg⟩
    have HZ4 := Lf.hide ((hg.block _ (lt_of_blk2 HZ9.out) (by simp)).trans HZ9.out)
    have HX4 := Lf.hide ((hg.block _ (lt_of_blk2 HX9.out) (by simp)).trans HX9.out)
    have HG4 := Lf.hide (Lf.gbt HG9.out hg)
    have HL4 := Lf.hide (HL9.out.same (w' := w3) (fun b o _ hlt => World.cell?_of_block (hg.block b hlt (by simp))))
    obtain ⟨z40, z41, z42, z43, z44, z45, z46⟩ := box7 HZ4.out
    obtain ⟨v40, v41, v42, v43, v44, v45, v46⟩ := box7 HX4.out
    have y4 := free7 HZ4.out
    clear hg a30 a31
    go_wp2_with fail
    change bodyPost _ _ _ _ _ (set7 w3 (W.heap.size + 1) (.int .i64 0) (.int .i64 0) (.int .i64 0) (.string ⟨#[]⟩) (.slice none 0 0) (.slice none 0 0) (.slice none 0 0))
    have hb' := set7_block HZ4.out (.int .i64 0) (.int .i64 0) (.int .i64 0) (.string ⟨#[]⟩) (.slice none 0 0) (.slice none 0 0) (.slice none 0 0)
    have hg' := grow_new HG4.out (set7_grow w3 (W.heap.size + 1) (.int .i64 0) (.int .i64 0) (.int .i64 0) (.string ⟨#[]⟩) (.slice none 0 0) (.slice none 0 0) (.slice none 0 0)) (by omega)
    generalize set7 w3 (W.heap.size + 1) (.int .i64 0) (.int .i64 0) (.int .i64 0) (.string ⟨#[]⟩) (.slice none 0 0) (.slice none 0 0) (.slice none 0 0) = wf at *
    obtain ⟨f0, f1, f2, f3, f4, f5, f6⟩ := box7 hb'
    exact bodyPost_ret (v := .tuple #[vaV 0 0 0 ⟨#[]⟩ none 0 0 none 0 0 none 0 0, .int .i64 1]) (by simp [results, Try.results21, go_sem, f0, f1, f2, f3, f4, f5, f6, vaV]) rfl ⟨hg', rfl⟩
  · rw [HPF.out] at hn; cases hn


set_option maxRecDepth 100000 in
set_option maxHeartbeats 1000000 in
theorem unpack_noparse {W : World} {T : Ty} {tv : Value} {l : List UInt8} {t : Tr} (hT : LiesT (fun _ => True) W T tv) (hl : l.length ≤ 199) (hd : pDecode l = .ok t) (hts : t.size ≤ 300) (hp : parseF T t = none) :
    Calls Try.prog 21 #[tv, .string ⟨((5 : UInt8) :: l).toArray⟩] W fun e w' => W.grownBy w' none ∧ e = .returned (.tuple #[vaV 0 0 0 ⟨#[]⟩ none 0 0 none 0 0 none 0 0, .int .i64 1]) := by
  obtain ⟨q1, q2, q3⟩ := bs5 l
  have HC := Lf.hide (cutPrefix_yes _ _ l.length q1 (by omega) q2 q3)
  have HD := Lf.hide (fun W2 => decode_ok hd (by unfold maxLen; omega) W2)
  have HP : Hid (∀ (W2 : World) (u : Value), W.grownBy W2 none → Lies (fun _ => True) W2 t u → Calls Try.prog 19 #[tv, u] W2 (ParsePost T t W2)) := fun W2 u hg hu => parse_any (LiesT.same hT (sameAll hg)) hu (by omega)
  obtain ⟨ta, tc, VT, rfl, it, hRT⟩ := hT.inv
  have HPF := Lf.hide hp
  let A : Obj := .cells #[.int .i64 T.t, .slice ta T.args.length tc] 24
  let Z : Obj := .cells #[.int .i64 0, .int .i64 0, .int .i64 0, .string ⟨#[]⟩, .slice none 0 0, .slice none 0 0, .slice none 0 0] 28
  have HA0 := Lf.hide (res_new W A Z)
  have HZ0 := Lf.hide (new_twoI W A Z)
  have HG0 := Lf.hide (Lf.gbt (Lf.gb (w := W) A) (Lf.gb Z))
  clear hT hd hp it hRT q2 q3
  generalize (⟨((5 : UInt8) :: l).toArray⟩ : ByteArray) = sv at *
  have hli : ¬ (200 : Int) < (l.length : Int) + 1 := by omega
  generalize bs l = rest at *
  unfold tyV at *
  go_enter Try.func21, Try.ntmps21
  go_wp2_with fail
  refine (HC.out _).mono ?_; rintro e w0 ⟨rfl, rfl⟩
  go_wp2_with fail
  refine (HD.out _).mono ?_; rintro e w1 ⟨u, rfl, hLu, hg⟩
  obtain ⟨ku, nu, pu, su, au, lu, cu, rfl⟩ := hLu.nodeV
  have HA1 := Lf.hide ((hg.block _ (lt_of_blk2 HA0.out) (by simp)).trans HA0.out)
  have HZ1 := Lf.hide ((hg.block _ (lt_of_blk2 HZ0.out) (by simp)).trans HZ0.out)
  have HG1 := Lf.hide (Lf.gbt (Lf.gbt HG0.out hg) (Lf.gb (.cells #[.int .i64 ku, .int .i64 nu, .int .i64 pu, .string su, .slice au lu cu] 39)))
  have HA2 := Lf.hide (heap_keep (o := .cells #[.int .i64 ku, .int .i64 nu, .int .i64 pu, .string su, .slice au lu cu] 39) HA1.out)
  have HZ2 := Lf.hide (heap_keep (o := .cells #[.int .i64 ku, .int .i64 nu, .int .i64 pu, .string su, .slice au lu cu] 39) HZ1.out)
  have HCP := Lf.hide (HP.out _ _ HG1.out ((hLu.same (w' := w1.alloc (.cells #[.int .i64 ku, .int .i64 nu, .int .i64 pu, .string su, .slice au lu cu] 39)) (fun b o _ hlt => World.cell?_of_block (heap_alloc_old (w := w1) (o := _) (h := hlt)))).okMono (fun _ _ _ => trivial)))
  have a10 := cell0_of HA1.out
  have a11 := cell1_of HA1.out
  have la := lt_of_blk2 HA1.out
  have lz := lt_of_blk2 HZ1.out
  clear hg hLu HP HD HC
  unfold nodeV at HCP ⊢
  go_wp2_with fail
  refine HCP.out.mono ?_; rintro e w2 ⟨hg, hw⟩
  rcases hw with ⟨x', v, hx', rfl, hLv⟩ | ⟨hn, rfl⟩
  · rw [HPF.out] at hx'; cases hx'
  · have HZ3 := Lf.hide ((hg.block _ (lt_of_blk2 HZ2.out) (by simp)).trans HZ2.out)
    have HG3 := Lf.hide (Lf.gbt HG1.out hg)
    obtain ⟨z30, z31, z32, z33, z34, z35, z36⟩ := box7 HZ3.out
    have y3 := free7 HZ3.out
    have lz3 := lt_of_blk2 HZ3.out
    clear hg HCP a10 a11 hn
    unfold vaV
    go_wp2_with fail
    change bodyPost _ _ _ _ _ ((set7 w2 (W.heap.size + 1) (.int .i64 0) (.int .i64 0) (.int .i64 0) (.string ⟨#[]⟩) (.slice none 0 0) (.slice none 0 0) (.slice none 0 0)).alloc (.cells #[.int .i64 0, .int .i64 0, .int .i64 0, .string ⟨#[]⟩, .slice none 0 0, .slice none 0 0, .slice none 0 0] 28))
    have hb' := heap_keep (o := (.cells #[.int .i64 0, .int .i64 0, .int .i64 0, .string ⟨#[]⟩, .slice none 0 0, .slice none 0 0, .slice none 0 0] 28)) (set7_block HZ3.out (.int .i64 0) (.int .i64 0) (.int .i64 0) (.string ⟨#[]⟩) (.slice none 0 0) (.slice none 0 0) (.slice none 0 0))
    have hg' := Lf.gbt (grow_new HG3.out (set7_grow w2 (W.heap.size + 1) (.int .i64 0) (.int .i64 0) (.int .i64 0) (.string ⟨#[]⟩) (.slice none 0 0) (.slice none 0 0) (.slice none 0 0)) (by omega)) (Lf.gb (.cells #[.int .i64 0, .int .i64 0, .int .i64 0, .string ⟨#[]⟩, .slice none 0 0, .slice none 0 0, .slice none 0 0] 28))
    generalize (set7 w2 (W.heap.size + 1) (.int .i64 0) (.int .i64 0) (.int .i64 0) (.string ⟨#[]⟩) (.slice none 0 0) (.slice none 0 0) (.slice none 0 0)).alloc (.cells #[.int .i64 0, .int .i64 0, .int .i64 0, .string ⟨#[]⟩, .slice none 0 0, .slice none 0 0, .slice none 0 0] 28) = wf at *
    obtain ⟨f0, f1, f2, f3, f4, f5, f6⟩ := box7 hb'
    exact bodyPost_ret (v := .tuple #[vaV 0 0 0 ⟨#[]⟩ none 0 0 none 0 0 none 0 0, .int .i64 1]) (by simp [results, Try.results21, go_sem, f0, f1, f2, f3, f4, f5, f6, vaV]) rfl ⟨hg', rfl⟩

set_option maxRecDepth 100000 in
set_option maxHeartbeats 1000000 in
theorem unpack_nodec {W : World} {T : Ty} {tv : Value} {l : List UInt8} {er : Int} (hT : LiesT (fun _ => True) W T tv) (hl : l.length ≤ 199) (hd : pDecode l = .error er) :
    Calls Try.prog 21 #[tv, .string ⟨((5 : UInt8) :: l).toArray⟩] W fun e w' => W.grownBy w' none ∧ e = .returned (.tuple #[vaV 0 0 0 ⟨#[]⟩ none 0 0 none 0 0 none 0 0, .int .i64 1]) := by
  obtain ⟨q1, q2, q3⟩ := bs5 l
  have HC := Lf.hide (cutPrefix_yes _ _ l.length q1 (by omega) q2 q3)
  have HD := Lf.hide (fun W2 => decode_no hd (by unfold maxLen; omega) W2)
  obtain ⟨ta, tc, VT, rfl, it, hRT⟩ := hT.inv
  let A : Obj := .cells #[.int .i64 T.t, .slice ta T.args.length tc] 24
  let Z : Obj := .cells #[.int .i64 0, .int .i64 0, .int .i64 0, .string ⟨#[]⟩, .slice none 0 0, .slice none 0 0, .slice none 0 0] 28
  have HA0 := Lf.hide (res_new W A Z)
  have HZ0 := Lf.hide (new_twoI W A Z)
  have HG0 := Lf.hide (Lf.gbt (Lf.gb (w := W) A) (Lf.gb Z))
  clear hT hd it hRT q2 q3
  generalize (⟨((5 : UInt8) :: l).toArray⟩ : ByteArray) = sv at *
  have hli : ¬ (200 : Int) < (l.length : Int) + 1 := by omega
  generalize bs l = rest at *
  unfold tyV at *
  go_enter Try.func21, Try.ntmps21
  go_wp2_with fail
  refine (HC.out _).mono ?_; rintro e w0 ⟨rfl, rfl⟩
  go_wp2_with fail
  refine (HD.out _).mono ?_; rintro e w1 ⟨rfl, hx, hg⟩
  have hxb : (er == 0) = false := by simpa using hx
  have HZ1 := Lf.hide ((hg.block _ (lt_of_blk2 HZ0.out) (by simp)).trans HZ0.out)
  have HG1 := Lf.hide (Lf.gbt HG0.out hg)
  obtain ⟨z30, z31, z32, z33, z34, z35, z36⟩ := box7 HZ1.out
  have y3 := free7 HZ1.out
  have lz3 := lt_of_blk2 HZ1.out
  clear hg HD HC hx
  unfold nodeV
  go_wp2_with fail
  change bodyPost _ _ _ _ _ ((set7 w1 (W.heap.size + 1) (.int .i64 0) (.int .i64 0) (.int .i64 0) (.string ⟨#[]⟩) (.slice none 0 0) (.slice none 0 0) (.slice none 0 0)).alloc (.cells #[.int .i64 0, .int .i64 0, .int .i64 0, .string ⟨#[]⟩, .slice none 0 0] 39))
  have hb' := heap_keep (o := (.cells #[.int .i64 0, .int .i64 0, .int .i64 0, .string ⟨#[]⟩, .slice none 0 0] 39)) (set7_block HZ1.out (.int .i64 0) (.int .i64 0) (.int .i64 0) (.string ⟨#[]⟩) (.slice none 0 0) (.slice none 0 0) (.slice none 0 0))
  have hg' := Lf.gbt (grow_new HG1.out (set7_grow w1 (W.heap.size + 1) (.int .i64 0) (.int .i64 0) (.int .i64 0) (.string ⟨#[]⟩) (.slice none 0 0) (.slice none 0 0) (.slice none 0 0)) (by omega)) (Lf.gb (.cells #[.int .i64 0, .int .i64 0, .int .i64 0, .string ⟨#[]⟩, .slice none 0 0] 39))
  generalize (set7 w1 (W.heap.size + 1) (.int .i64 0) (.int .i64 0) (.int .i64 0) (.string ⟨#[]⟩) (.slice none 0 0) (.slice none 0 0) (.slice none 0 0)).alloc (.cells #[.int .i64 0, .int .i64 0, .int .i64 0, .string ⟨#[]⟩, .slice none 0 0] 39) = wf at *
  obtain ⟨f0, f1, f2, f3, f4, f5, f6⟩ := box7 hb'
  exact bodyPost_ret (v := .tuple #[vaV 0 0 0 ⟨#[]⟩ none 0 0 none 0 0 none 0 0, .int .i64 1]) (by simp [results, Try.results21, go_sem, f0, f1, f2, f3, f4, f5, f6, vaV]) rfl ⟨hg', rfl⟩

/-- what Unpack says -/
def unpackF (T : Ty) : List UInt8 → Option Va
  | [] => none
  | b :: r => if b = 5 ∧ r.length ≤ 199 then (match pDecode r with
    | .error _ => none
    | .ok t => match parseF T t with
      | none => none
      | some x => if packT T = true then some x else none) else none

def UnpackPost (T : Ty) (l : List UInt8) (W : World) (e : Ending) (w' : World) : Prop :=
  W.grownBy w' none ∧ ((∃ x v, unpackF T l = some x ∧ e = .returned (.tuple #[v, .int .i64 0]) ∧ LiesV (fun _ => True) w' x v) ∨ (unpackF T l = none ∧ e = .returned (.tuple #[vaV 0 0 0 ⟨#[]⟩ none 0 0 none 0 0 none 0 0, .int .i64 1])))

def UnpackPostN (T : Ty) (l : List UInt8) (W : World) (e : Ending) (w' : World) : Prop :=
  W.grownBy w' none ∧ ((∃ x v, unpackF T l = some x ∧ e = .returned (.tuple #[v, .int .i64 0]) ∧ LiesV (W.heap.size ≤ ·) w' x v) ∨ (unpackF T l = none ∧ e = .returned (.tuple #[vaV 0 0 0 ⟨#[]⟩ none 0 0 none 0 0 none 0 0, .int .i64 1])))

theorem parse_size {T : Ty} {t : Tr} {x : Va} (h : parseF T t = some x) : T.size ≤ 50000000 := by
  unfold parseF at h
  split at h
  · rename_i hh; have := (goodTy_formed hh.1).2.1; omega
  · cases h

theorem decode_size {l : List UInt8} {t : Tr} (h : goodF t = 0) : t.size ≤ 300 := (goodF_zero h).2

theorem unpackF_no {T : Ty} {b : UInt8} {r : List UInt8} (h : ¬ (b = 5 ∧ r.length ≤ 199)) : unpackF T (b :: r) = none := by
  rw [unpackF, if_neg h]
theorem unpackF_err {T : Ty} {r : List UInt8} {er : Int} (h : r.length ≤ 199) (hd : pDecode r = .error er) : unpackF T (5 :: r) = none := by
  rw [unpackF, if_pos ⟨rfl, h⟩, hd]
theorem unpackF_none {T : Ty} {r : List UInt8} {t : Tr} (h : r.length ≤ 199) (hd : pDecode r = .ok t) (hp : parseF T t = none) : unpackF T (5 :: r) = none := by
  rw [unpackF, if_pos ⟨rfl, h⟩, hd]
  simp only [hp]
theorem unpackF_some {T : Ty} {r : List UInt8} {t : Tr} {x : Va} (h : r.length ≤ 199) (hd : pDecode r = .ok t) (hp : parseF T t = some x) : unpackF T (5 :: r) = if packT T = true then some x else none := by
  rw [unpackF, if_pos ⟨rfl, h⟩, hd]
  simp only [hp]

theorem unpackPost_no {T : Ty} {l : List UInt8} {W : World} {tv : Value} {sv : ByteArray} (h1 : Calls Try.prog 21 #[tv, .string sv] W fun e w' => W.grownBy w' none ∧ e = .returned (.tuple #[vaV 0 0 0 ⟨#[]⟩ none 0 0 none 0 0 none 0 0, .int .i64 1])) (h2 : unpackF T l = none) : Calls Try.prog 21 #[tv, .string sv] W (UnpackPostN T l W) := h1.mono fun e w' h => ⟨h.1, .inr ⟨h2, h.2⟩⟩

theorem first5 {b : UInt8} {r : List UInt8} (hb : b ≠ 5) : ((⟨(b :: r).toArray⟩ : ByteArray).extract 0 1).toList ≠ [5] := by
  intro h
  apply hb
  rw [ByteArray.toList_eq] at h
  simp [ByteArray.data_extract] at h
  exact h

theorem cons_size (b : UInt8) (r : List UInt8) : (⟨(b :: r).toArray⟩ : ByteArray).size = r.length + 1 := by simp [ByteArray.size]
theorem nil_size : (⟨([] : List UInt8).toArray⟩ : ByteArray).size = 0 := rfl

theorem unpack_anyN {W : World} {T : Ty} {tv : Value} (hT : LiesT (fun _ => True) W T tv) (l : List UInt8) (hl : l.length ≤ 1000000000) (hdec : ∀ r t, pDecode r = .ok t → t.size ≤ 300) : Calls Try.prog 21 #[tv, .string ⟨l.toArray⟩] W (UnpackPostN T l W) := by
  cases l with
  | nil => exact unpackPost_no (unpack_bare hT _ (cutPrefix_no _ (hasPrefix_short _ nil_size))) (by rw [unpackF])
  | cons b r =>
    have hsz := cons_size b r
    simp only [List.length_cons] at hl
    by_cases hb : b = 5
    · subst hb
      by_cases hr : r.length ≤ 199
      · cases hd : pDecode r with
        | error er => exact unpackPost_no (unpack_nodec hT hr hd) (unpackF_err hr hd)
        | ok t =>
          have hts := hdec r t hd
          cases hp : parseF T t with
          | none => exact unpackPost_no (unpack_noparse hT hr hd hts hp) (unpackF_none hr hd hp)
          | some x =>
            have h2 := parse_size hp
            have hu := unpackF_some hr hd hp
            cases hk : packT T with
            | false =>
              rw [hk] at hu
              exact unpackPost_no (unpack_nopack hT hr hd hts hp hk h2) hu
            | true =>
              rw [hk] at hu
              exact (unpack_yesN hT hr hd hts hp hk h2).mono fun e w' ⟨h1, v, he, hv⟩ => ⟨h1, .inl ⟨x, v, hu, he, hv⟩⟩
      · have h5 := (bs5 r).2.1
        have hi : (200 : Int) < ((⟨((5 : UInt8) :: r).toArray⟩ : ByteArray).size : Int) := by rw [hsz]; omega
        have hn := unpackF_no (T := T) (b := 5) (r := r) (fun h => hr h.2)
        generalize (⟨((5 : UInt8) :: r).toArray⟩ : ByteArray) = sv at *
        exact unpackPost_no (unpack_long hT sv _ hi (cutPrefix_long sv _ r.length hsz (by omega) h5 rfl)) hn
    · exact unpackPost_no (unpack_bare hT _ (cutPrefix_no _ (hasPrefix_other _ r.length hsz (by omega) (first5 hb)))) (unpackF_no (fun h => hb h.1))

theorem unpack_any {W : World} {T : Ty} {tv : Value} (hT : LiesT (fun _ => True) W T tv) (l : List UInt8) (hl : l.length ≤ 1000000000) (hdec : ∀ r t, pDecode r = .ok t → t.size ≤ 300) : Calls Try.prog 21 #[tv, .string ⟨l.toArray⟩] W (UnpackPost T l W) :=
  (unpack_anyN hT l hl hdec).mono fun e w' h => ⟨h.1, h.2.imp (fun ⟨x, v, h1, h2, h3⟩ => ⟨x, v, h1, h2, h3.okMono fun _ _ _ => trivial⟩) id⟩

end Go.Proofs.Ytmmgihaoahhkjaa
