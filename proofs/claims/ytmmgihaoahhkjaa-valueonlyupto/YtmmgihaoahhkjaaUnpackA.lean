/- Unpack of a text that a value's tree was written to, by its contract. -/
import Derived.Test.YtmmgihaoahhkjaaParseV
import Derived.Test.YtmmgihaoahhkjaaDecode
namespace Go.Proofs.Ytmmgihaoahhkjaa
set_option maxRecDepth 20000
open Go.ChangeShapes Go.WideShapes Go.ChangeAt Go.RowKit
set_option linter.unusedVariables false

theorem hasPrefix_yes (sv : ByteArray) (m : Nat) (h1 : sv.size = m + 1) (hm : m ≤ 1000) (h2 : sv.extract 0 1 = ⟨#[5]⟩) (W : World) : Calls Try.prog 110 #[.string sv, .string ⟨#[5]⟩] W fun e w' => e = .returned (.bool true) ∧ w' = W := by
  have hs5 : (⟨#[5]⟩ : ByteArray).size = 1 := rfl
  have hi : (1 : Int) ≤ (m : Int) + 1 := by omega
  go_enter Try.func110, Try.ntmps110
  go_wp2_with fail
  go_ret
  exact ⟨rfl, rfl⟩

theorem cutPrefixL_yes (sv r : ByteArray) (m : Nat) (h1 : sv.size = m + 1) (hm : m ≤ 1000) (h2 : sv.extract 0 1 = ⟨#[5]⟩) (h3 : sv.extract 1 (m + 1) = r) (W : World) : Calls Try.prog 90 #[.string sv, .string ⟨#[5]⟩] W fun e w' => e = .returned (.tuple #[.string r, .bool true]) ∧ w' = W := by
  have HP := Lf.hide (hasPrefix_yes sv m h1 hm h2)
  have hs5 : (⟨#[5]⟩ : ByteArray).size = 1 := rfl
  have hi : (1 : Int) ≤ (m : Int) + 1 := by omega
  go_enter Try.func90, Try.ntmps90
  go_wp2_with fail
  refine (HP.out _).mono ?_; rintro e w1 ⟨rfl, rfl⟩
  go_wp2_with fail
  go_ret2
  exact ⟨rfl, rfl⟩

theorem cutPrefix_yes (sv r : ByteArray) (m : Nat) (h1 : sv.size = m + 1) (hm : m ≤ 1000) (h2 : sv.extract 0 1 = ⟨#[5]⟩) (h3 : sv.extract 1 (m + 1) = r) (W : World) : Calls Try.prog 49 #[.string sv, .string ⟨#[5]⟩] W fun e w' => e = .returned (.tuple #[.string r, .bool true]) ∧ w' = W := by
  have HP := Lf.hide (cutPrefixL_yes sv r m h1 hm h2 h3)
  go_enter Try.func49, Try.ntmps49
  go_wp2_with fail
  refine (HP.out _).mono ?_; rintro e w1 ⟨rfl, rfl⟩
  go_wp2_with fail
  go_ret2
  exact ⟨rfl, rfl⟩

theorem bs5 (l : List UInt8) : (⟨((5 : UInt8) :: l).toArray⟩ : ByteArray).size = l.length + 1 ∧ (⟨((5 : UInt8) :: l).toArray⟩ : ByteArray).extract 0 1 = ⟨#[5]⟩ ∧ (⟨((5 : UInt8) :: l).toArray⟩ : ByteArray).extract 1 (l.length + 1) = bs l := by
  refine ⟨by simp [ByteArray.size], ?_, ?_⟩
  · apply ByteArray.ext
    simp [ByteArray.data_extract]
  · apply ByteArray.ext
    simp [ByteArray.data_extract, bs]

set_option maxRecDepth 100000 in
set_option maxHeartbeats 1000000 in
theorem unpack_yesN {W : World} {T : Ty} {tv : Value} {l : List UInt8} {t : Tr} {x : Va} (hT : LiesT (fun _ => True) W T tv) (hl : l.length ≤ 199) (hd : pDecode l = .ok t) (hts : t.size ≤ 300) (hp : parseF T t = some x) (hk : packT T = true) (hts2 : T.size ≤ 50000000) :
    Calls Try.prog 21 #[tv, .string ⟨((5 : UInt8) :: l).toArray⟩] W fun e w' => W.grownBy w' none ∧ ∃ v, e = .returned (.tuple #[v, .int .i64 0]) ∧ LiesV (W.heap.size ≤ ·) w' x v := by
  obtain ⟨q1, q2, q3⟩ := bs5 l
  have HC := Lf.hide (cutPrefix_yes _ _ l.length q1 (by omega) q2 q3)
  have HD := Lf.hide (fun W2 => decode_ok hd (by unfold maxLen; omega) W2)
  have HP : Hid (∀ (W2 : World) (u : Value), W.grownBy W2 none → Lies (fun _ => True) W2 t u → Calls Try.prog 19 #[tv, u] W2 (ParsePost T t W2)) := fun W2 u hg hu => parse_any (LiesT.same hT (sameAll hg)) hu (by omega)
  have HK : Hid (∀ W2, W.grownBy W2 none → Calls Try.prog 22 #[tv] W2 fun e w' => e = .returned (.bool true) ∧ W2.grownBy w' none) := fun W2 hg => by
    have h := packed_any (LiesT.up hT hg) hts2
    rw [hk] at h
    exact h
  obtain ⟨ta, tc, VT, rfl, it, hRT⟩ := hT.inv
  have HPF := Lf.hide hp
  let A : Obj := .cells #[.int .i64 T.t, .slice ta T.args.length tc] 24
  let Z : Obj := .cells #[.int .i64 0, .int .i64 0, .int .i64 0, .string ⟨#[]⟩, .slice none 0 0, .slice none 0 0, .slice none 0 0] 28
  have HA0 := Lf.hide (res_new W A Z)
  have HZ0 := Lf.hide (new_twoI W A Z)
  have HG0 := Lf.hide (Lf.gbt (Lf.gb (w := W) A) (Lf.gb Z))
  clear hT hd hp hk it hRT q2 q3 hts2
  generalize (⟨((5 : UInt8) :: l).toArray⟩ : ByteArray) = sv at *
  have hli : ¬ (200 : Int) < (l.length : Int) + 1 := by omega
  generalize bs l = rest at *
  unfold tyV at *
  go_enter Try.func21, Try.ntmps21
  go_wp2_with fail
  refine (HC.out _).mono ?_; rintro e w0 ⟨rfl, rfl⟩
  go_wp2_with fail
  refine (HD.out _).mono ?_; rintro e w1 ⟨u, rfl, hLu, hg⟩
  obtain ⟨ku, nu, pu, su, au, lu, cu, rfl⟩ := hLu.nodeV
  have HA1 := Lf.hide ((hg.block _ (lt_of_blk2 HA0.out) (by simp)).trans HA0.out)
  have HZ1 := Lf.hide ((hg.block _ (lt_of_blk2 HZ0.out) (by simp)).trans HZ0.out)
  have HG1 := Lf.hide (Lf.gbt (Lf.gbt HG0.out hg) (Lf.gb (.cells #[.int .i64 ku, .int .i64 nu, .int .i64 pu, .string su, .slice au lu cu] 39)))
  have HA2 := Lf.hide (heap_keep (o := .cells #[.int .i64 ku, .int .i64 nu, .int .i64 pu, .string su, .slice au lu cu] 39) HA1.out)
  have HZ2 := Lf.hide (heap_keep (o := .cells #[.int .i64 ku, .int .i64 nu, .int .i64 pu, .string su, .slice au lu cu] 39) HZ1.out)
  have HCP := Lf.hide (HP.out _ _ HG1.out ((hLu.same (w' := w1.alloc (.cells #[.int .i64 ku, .int .i64 nu, .int .i64 pu, .string su, .slice au lu cu] 39)) (fun b o _ hlt => World.cell?_of_block (heap_alloc_old (w := w1) (o := _) (h := hlt)))).okMono (fun _ _ _ => trivial)))
  have a10 := cell0_of HA1.out
  have a11 := cell1_of HA1.out
  have la := lt_of_blk2 HA1.out
  have lz := lt_of_blk2 HZ1.out
  clear hg hLu HP HD HC
  unfold nodeV at HCP ⊢
  go_wp2_with fail
  refine HCP.out.mono ?_; rintro e w2 ⟨hg, hw⟩
  rcases hw with ⟨x', v, hx', rfl, hLv⟩ | ⟨hn, rfl⟩
  · have hxe : x' = x := by have h := HPF.out; rw [hx'] at h; exact Option.some.inj h
    subst hxe
    obtain ⟨kk, nn, aa, ss, xa, xl, xc, ya, yl, yc, za, zl, zc, rfl⟩ := hLv.vaV
    have HA3 := Lf.hide ((hg.block _ (lt_of_blk2 HA2.out) (by simp)).trans HA2.out)
    have HZ3 := Lf.hide ((hg.block _ (lt_of_blk2 HZ2.out) (by simp)).trans HZ2.out)
    have HG3 := Lf.hide (Lf.gbt HG1.out hg)
    have HA9 := Lf.hide (heap_keep (o := .cells #[.int .i64 kk, .int .i64 nn, .int .i64 aa, .string ss, .slice xa xl xc, .slice ya yl yc, .slice za zl zc] 28) HA3.out)
    have HZ9 := Lf.hide (heap_keep (o := .cells #[.int .i64 kk, .int .i64 nn, .int .i64 aa, .string ss, .slice xa xl xc, .slice ya yl yc, .slice za zl zc] 28) HZ3.out)
    have HX9 := Lf.hide (heap_alloc_new w2 (.cells #[.int .i64 kk, .int .i64 nn, .int .i64 aa, .string ss, .slice xa xl xc, .slice ya yl yc, .slice za zl zc] 28))
    have HG9 := Lf.hide (Lf.gbt HG3.out (Lf.gb (.cells #[.int .i64 kk, .int .i64 nn, .int .i64 aa, .string ss, .slice xa xl xc, .slice ya yl yc, .slice za zl zc] 28)))
    have a30 := cell0_of HA3.out
    have a31 := cell1_of HA3.out
    have la3 := lt_of_blk2 HA3.out
    have HCK := Lf.hide (HK.out _ HG9.out)
    have hz1 : W.heap.size + 1 + 1 ≤ (w1.alloc (.cells #[.int .i64 ku, .int .i64 nu, .int .i64 pu, .string su, .slice au lu cu] 39)).heap.size := by rw [World.size_alloc]; omega
    have HL9 := Lf.hide ((hLv.same (w' := w2.alloc (.cells #[.int .i64 kk, .int .i64 nn, .int .i64 aa, .string ss, .slice xa xl xc, .slice ya yl yc, .slice za zl zc] 28)) (fun b o _ hlt => World.cell?_of_block (heap_alloc_old (w := w2) (o := _) (h := hlt)))).okMono (ok' := (W.heap.size + 1 + 1 ≤ ·)) (fun b _ hb => by have h : (w1.alloc (.cells #[.int .i64 ku, .int .i64 nu, .int .i64 pu, .string su, .slice au lu cu] 39)).heap.size ≤ b := hb; show W.heap.size + 1 + 1 ≤ b; omega))
    clear hg hLv hx' hz1 HCP HK a10 a11
    unfold vaV
    go_wp2_with fail
    refine HCK.out.mono ?_; rintro e w3 ⟨rfl, hg⟩
    have HZ4 := Lf.hide ((hg.block _ (lt_of_blk2 HZ9.out) (by simp)).trans HZ9.out)
    have HX4 := Lf.hide ((hg.block _ (lt_of_blk2 HX9.out) (by simp)).trans HX9.out)
    have HG4 := Lf.hide (Lf.gbt HG9.out hg)
    have HL4 := Lf.hide (HL9.out.same (w' := w3) (fun b o _ hlt => World.cell?_of_block (hg.block b hlt (by simp))))
    obtain ⟨z40, z41, z42, z43, z44, z45, z46⟩ := box7 HZ4.out
    obtain ⟨v40, v41, v42, v43, v44, v45, v46⟩ := box7 HX4.out
    have y4 := free7 HZ4.out
    clear hg a30 a31
    go_wp2_with fail
    change bodyPost _ _ _ _ _ (set7 w3 (W.heap.size + 1) (.int .i64 kk) (.int .i64 nn) (.int .i64 aa) (.string ss) (.slice xa xl xc) (.slice ya yl yc) (.slice za zl zc))
    have hb' := set7_block HZ4.out (.int .i64 kk) (.int .i64 nn) (.int .i64 aa) (.string ss) (.slice xa xl xc) (.slice ya yl yc) (.slice za zl zc)
    have hgs := set7_grow w3 (W.heap.size + 1) (.int .i64 kk) (.int .i64 nn) (.int .i64 aa) (.string ss) (.slice xa xl xc) (.slice ya yl yc) (.slice za zl zc)
    have hg' := grow_new HG4.out hgs (by omega)
    generalize set7 w3 (W.heap.size + 1) (.int .i64 kk) (.int .i64 nn) (.int .i64 aa) (.string ss) (.slice xa xl xc) (.slice ya yl yc) (.slice za zl zc) = wf at *
    obtain ⟨f0, f1, f2, f3, f4, f5, f6⟩ := box7 hb'
    refine bodyPost_ret (v := .tuple #[vaV kk nn aa ss xa xl xc ya yl yc za zl zc, .int .i64 0]) (by simp [results, Try.results21, go_sem, f0, f1, f2, f3, f4, f5, f6, vaV]) rfl ⟨hg', _, rfl, ?_⟩
    exact (HL4.out.same (w' := wf) (fun b o hb hlt => World.cell?_of_block (hgs.block b hlt (by simp; have h : W.heap.size + 1 + 1 ≤ b := hb; omega)))).okMono (fun b _ hb => by have h : W.heap.size + 1 + 1 ≤ b := hb; show W.heap.size ≤ b; omega)
  · rw [HPF.out] at hn; cases hn

theorem unpack_yes {W : World} {T : Ty} {tv : Value} {l : List UInt8} {t : Tr} {x : Va} (hT : LiesT (fun _ => True) W T tv) (hl : l.length ≤ 199) (hd : pDecode l = .ok t) (hts : t.size ≤ 300) (hp : parseF T t = some x) (hk : packT T = true) (hts2 : T.size ≤ 50000000) :
    Calls Try.prog 21 #[tv, .string ⟨((5 : UInt8) :: l).toArray⟩] W fun e w' => W.grownBy w' none ∧ ∃ v, e = .returned (.tuple #[v, .int .i64 0]) ∧ LiesV (fun _ => True) w' x v :=
  (unpack_yesN hT hl hd hts hp hk hts2).mono fun e w' ⟨h1, v, he, hv⟩ => ⟨h1, v, he, hv.okMono fun _ _ _ => trivial⟩

end Go.Proofs.Ytmmgihaoahhkjaa

/- Unpack by its contract, whatever text. -/
namespace Go.Proofs.Ytmmgihaoahhkjaa
set_option maxRecDepth 20000
open Go.ChangeShapes Go.WideShapes Go.ChangeAt Go.RowKit
set_option linter.unusedVariables false

theorem hasPrefix_long (sv : ByteArray) (m : Nat) (h1 : sv.size = m + 1) (hm : m ≤ 1000000000000) (h2 : sv.extract 0 1 = ⟨#[5]⟩) (W : World) : Calls Try.prog 110 #[.string sv, .string ⟨#[5]⟩] W fun e w' => e = .returned (.bool true) ∧ w' = W := by
  have hs5 : (⟨#[5]⟩ : ByteArray).size = 1 := rfl
  have hi : (1 : Int) ≤ (m : Int) + 1 := by omega
  go_enter Try.func110, Try.ntmps110
  go_wp2_with fail
  go_ret
  exact ⟨rfl, rfl⟩

theorem cutPrefixL_long (sv r : ByteArray) (m : Nat) (h1 : sv.size = m + 1) (hm : m ≤ 1000000000000) (h2 : sv.extract 0 1 = ⟨#[5]⟩) (h3 : sv.extract 1 (m + 1) = r) (W : World) : Calls Try.prog 90 #[.string sv, .string ⟨#[5]⟩] W fun e w' => e = .returned (.tuple #[.string r, .bool true]) ∧ w' = W := by
  have HP := Lf.hide (hasPrefix_long sv m h1 hm h2)
  have hs5 : (⟨#[5]⟩ : ByteArray).size = 1 := rfl
  have hi : (1 : Int) ≤ (m : Int) + 1 := by omega
  go_enter Try.func90, Try.ntmps90
  go_wp2_with fail
  refine (HP.out _).mono ?_; rintro e w1 ⟨rfl, rfl⟩
  go_wp2_with fail
  go_ret2
  exact ⟨rfl, rfl⟩

theorem cutPrefix_long (sv r : ByteArray) (m : Nat) (h1 : sv.size = m + 1) (hm : m ≤ 1000000000000) (h2 : sv.extract 0 1 = ⟨#[5]⟩) (h3 : sv.extract 1 (m + 1) = r) (W : World) : Calls Try.prog 49 #[.string sv, .string ⟨#[5]⟩] W fun e w' => e = .returned (.tuple #[.string r, .bool true]) ∧ w' = W := by
  have HP := Lf.hide (cutPrefixL_long sv r m h1 hm h2 h3)
  go_enter Try.func49, Try.ntmps49
  go_wp2_with fail
  refine (HP.out _).mono ?_; rintro e w1 ⟨rfl, rfl⟩
  go_wp2_with fail
  go_ret2
  exact ⟨rfl, rfl⟩

theorem hasPrefix_short (sv : ByteArray) (h1 : sv.size = 0) (W : World) : Calls Try.prog 110 #[.string sv, .string ⟨#[5]⟩] W fun e w' => e = .returned (.bool false) ∧ w' = W := by
  have hs5 : (⟨#[5]⟩ : ByteArray).size = 1 := rfl
  go_enter Try.func110, Try.ntmps110
  go_wp2_with fail
  go_ret
  exact ⟨rfl, rfl⟩

theorem hasPrefix_other (sv : ByteArray) (m : Nat) (h1 : sv.size = m + 1) (hm : m ≤ 1000000000000) (h2 : (sv.extract 0 1).toList ≠ [5]) (W : World) : Calls Try.prog 110 #[.string sv, .string ⟨#[5]⟩] W fun e w' => e = .returned (.bool false) ∧ w' = W := by
  have hs5 : (⟨#[5]⟩ : ByteArray).size = 1 := rfl
  have hi : (1 : Int) ≤ (m : Int) + 1 := by omega
  have h3 : ((sv.extract 0 1).toList == [5]) = false := by simpa using h2
  go_enter Try.func110, Try.ntmps110
  go_wp2_with fail
  go_ret
  exact ⟨rfl, rfl⟩

theorem cutPrefix_no (sv : ByteArray) (H : ∀ W, Calls Try.prog 110 #[.string sv, .string ⟨#[5]⟩] W fun e w' => e = .returned (.bool false) ∧ w' = W) (W : World) : Calls Try.prog 49 #[.string sv, .string ⟨#[5]⟩] W fun e w' => e = .returned (.tuple #[.string sv, .bool false]) ∧ w' = W := by
  have HP : Hid (∀ W, Calls Try.prog 90 #[.string sv, .string ⟨#[5]⟩] W fun e w' => e = .returned (.tuple #[.string sv, .bool false]) ∧ w' = W) := by
    intro W
    have HH := Lf.hide H
    clear H
    go_enter Try.func90, Try.ntmps90
    go_wp2_with fail
    refine (HH.out _).mono ?_; rintro e w1 ⟨rfl, rfl⟩
    go_wp2_with fail
    go_ret2
    exact ⟨rfl, rfl⟩
  clear H
  go_enter Try.func49, Try.ntmps49
  go_wp2_with fail
  refine (HP.out _).mono ?_; rintro e w1 ⟨rfl, rfl⟩
  go_wp2_with fail
  go_ret2
  exact ⟨rfl, rfl⟩

set_option maxRecDepth 100000 in
set_option maxHeartbeats 1000000 in
/-- no mark, or too long -/
theorem unpack_bare {W : World} {T : Ty} {tv : Value} (hT : LiesT (fun _ => True) W T tv) (sv : ByteArray) (HC : Hid (∀ W, Calls Try.prog 49 #[.string sv, .string ⟨#[5]⟩] W fun e w' => e = .returned (.tuple #[.string sv, .bool false]) ∧ w' = W)) :
    Calls Try.prog 21 #[tv, .string sv] W fun e w' => W.grownBy w' none ∧ e = .returned (.tuple #[vaV 0 0 0 ⟨#[]⟩ none 0 0 none 0 0 none 0 0, .int .i64 1]) := by
  obtain ⟨ta, tc, VT, rfl, it, hRT⟩ := hT.inv
  clear hT it hRT
  unfold tyV at *
  go_enter Try.func21, Try.ntmps21
  go_wp2_with fail
  refine (HC.out _).mono ?_; rintro e w0 ⟨rfl, rfl⟩
  go_wp2_with fail
  have hb' := new_twoI W (.cells #[.int .i64 T.t, .slice ta T.args.length tc] 24) (.cells #[.int .i64 0, .int .i64 0, .int .i64 0, .string ⟨#[]⟩, .slice none 0 0, .slice none 0 0, .slice none 0 0] 28)
  have hg' := Lf.gbt (Lf.gb (w := W) (.cells #[.int .i64 T.t, .slice ta T.args.length tc] 24)) (Lf.gb (.cells #[.int .i64 0, .int .i64 0, .int .i64 0, .string ⟨#[]⟩, .slice none 0 0, .slice none 0 0, .slice none 0 0] 28))
  generalize (W.alloc (.cells #[.int .i64 T.t, .slice ta T.args.length tc] 24)).alloc (.cells #[.int .i64 0, .int .i64 0, .int .i64 0, .string ⟨#[]⟩, .slice none 0 0, .slice none 0 0, .slice none 0 0] 28) = wf at *
  obtain ⟨f0, f1, f2, f3, f4, f5, f6⟩ := box7 hb'
  exact bodyPost_ret (v := .tuple #[vaV 0 0 0 ⟨#[]⟩ none 0 0 none 0 0 none 0 0, .int .i64 1]) (by simp [results, Try.results21, go_sem, f0, f1, f2, f3, f4, f5, f6, vaV]) rfl ⟨hg', rfl⟩

set_option maxRecDepth 100000 in
set_option maxHeartbeats 1000000 in
theorem unpack_long {W : World} {T : Ty} {tv : Value} (hT : LiesT (fun _ => True) W T tv) (sv r : ByteArray) (hl : (200 : Int) < (sv.size : Int)) (HC : Hid (∀ W, Calls Try.prog 49 #[.string sv, .string ⟨#[5]⟩] W fun e w' => e = .returned (.tuple #[.string r, .bool true]) ∧ w' = W)) :
    Calls Try.prog 21 #[tv, .string sv] W fun e w' => W.grownBy w' none ∧ e = .returned (.tuple #[vaV 0 0 0 ⟨#[]⟩ none 0 0 none 0 0 none 0 0, .int .i64 1]) := by
  obtain ⟨ta, tc, VT, rfl, it, hRT⟩ := hT.inv
  clear hT it hRT
  unfold tyV at *
  go_enter Try.func21, Try.ntmps21
  go_wp2_with fail
  refine (HC.out _).mono ?_; rintro e w0 ⟨rfl, rfl⟩
  go_wp2_with fail
  have hb' := new_twoI W (.cells #[.int .i64 T.t, .slice ta T.args.length tc] 24) (.cells #[.int .i64 0, .int .i64 0, .int .i64 0, .string ⟨#[]⟩, .slice none 0 0, .slice none 0 0, .slice none 0 0] 28)
  have hg' := Lf.gbt (Lf.gb (w := W) (.cells #[.int .i64 T.t, .slice ta T.args.length tc] 24)) (Lf.gb (.cells #[.int .i64 0, .int .i64 0, .int .i64 0, .string ⟨#[]⟩, .slice none 0 0, .slice none 0 0, .slice none 0 0] 28))
  generalize (W.alloc (.cells #[.int .i64 T.t, .slice ta T.args.length tc] 24)).alloc (.cells #[.int .i64 0, .int .i64 0, .int .i64 0, .string ⟨#[]⟩, .slice none 0 0, .slice none 0 0, .slice none 0 0] 28) = wf at *
  obtain ⟨f0, f1, f2, f3, f4, f5, f6⟩ := box7 hb'
  exact bodyPost_ret (v := .tuple #[vaV 0 0 0 ⟨#[]⟩ none 0 0 none 0 0 none 0 0, .int .i64 1]) (by simp [results, Try.results21, go_sem, f0, f1, f2, f3, f4, f5, f6, vaV]) rfl ⟨hg', rfl⟩

end Go.Proofs.Ytmmgihaoahhkjaa
