/- ValueOnly's walk, six ways. -/
import Derived.Test.YtdninmanfncfiadUnpackM
import Derived.Test.YtdninmanfncfiadTellN
import Derived.Test.YtdninmanfncfiadSameV
import Derived.Test.YtdninmanfncfiadBackF
import Derived.Test.YtdninmanfncfiadAlike
import Derived.Test.YtdninmanfncfiadOnlyF
namespace Go.Proofs.Ytdninmanfncfiad
set_option maxRecDepth 20000
open Go.ChangeShapes Go.WideShapes Go.ChangeAt Go.RowKit
set_option linter.unusedVariables false

set_option maxRecDepth 100000 in
set_option maxHeartbeats 1000000 in
theorem only_00 {W : World} {t0 : Int} {a : Option Addr} {l c : Nat} {kn nn pn : Int} {sn : ByteArray} {an : Option Addr} {ln cn : Nat} {sv : ByteArray} {x y : Va} {t : Tr}
    (HR : Hid (∀ W2, W.grownBy W2 none → Calls Try.prog 5 #[tyV t0 a l c, nodeV kn nn pn sn an ln cn] W2 fun e w' => W2.grownBy w' none ∧ e = .returned (.tuple #[vaV 0 0 0 ⟨#[]⟩ none 0 0 none 0 0 none 0 0, .int .i64 1])))
    (HU : Hid (∀ W2, W.grownBy W2 none → Calls Try.prog 10 #[tyV t0 a l c, .string sv] W2 fun e w' => W2.grownBy w' none ∧ e = .returned (.tuple #[vaV 0 0 0 ⟨#[]⟩ none 0 0 none 0 0 none 0 0, .int .i64 1])))
    (HS : Hid (∀ W2, W.grownBy W2 none → Calls Try.prog 12 #[vaV 0 0 0 ⟨#[]⟩ none 0 0 none 0 0 none 0 0, vaV 0 0 0 ⟨#[]⟩ none 0 0 none 0 0 none 0 0] W2 fun e w' => e = .returned (.bool true) ∧ W2.grownBy w' none)) :
    Calls Try.prog 3 #[tyV t0 a l c, nodeV kn nn pn sn an ln cn, .string sv] W fun e w' => e = .returned (.bool true) ∧ W.grownBy w' none := by
  have HWO := Lf.hide worth_any
  have HB01 := Lf.hide (res_new W (.cells #[.int .i64 t0, .slice a l c] 24) (.cells #[.int .i64 kn, .int .i64 nn, .int .i64 pn, .string sn, .slice an ln cn] 27))
  have HB02 := Lf.hide (new_twoI W (.cells #[.int .i64 t0, .slice a l c] 24) (.cells #[.int .i64 kn, .int .i64 nn, .int .i64 pn, .string sn, .slice an ln cn] 27))
  have HG00 := Lf.hide (Lf.gbt (Lf.gb (w := W) (.cells #[.int .i64 t0, .slice a l c] 24)) (Lf.gb (.cells #[.int .i64 kn, .int .i64 nn, .int .i64 pn, .string sn, .slice an ln cn] 27)))
  unfold tyV nodeV vaV at *
  go_enter Try.func3, Try.ntmps3
  go_wp2_with fail
  refine (HR.out _ HG00.out).mono ?_; rintro e w1 ⟨hg, rfl⟩
  have HB1 := Lf.hide ((hg.block _ (lt_of_blk2 HB01.out) (by simp)).trans HB01.out)
  have HB2 := Lf.hide ((hg.block _ (lt_of_blk2 HB02.out) (by simp)).trans HB02.out)
  have HG3 := Lf.hide (Lf.gbt HG00.out hg)
  have HB4 := Lf.hide (heap_keep (o := (.cells #[.int .i64 0, .int .i64 0, .int .i64 0, .string ⟨#[]⟩, .slice none 0 0, .slice none 0 0, .slice none 0 0] 30)) HB1.out)
  have HB5 := Lf.hide (heap_keep (o := (.cells #[.int .i64 0, .int .i64 0, .int .i64 0, .string ⟨#[]⟩, .slice none 0 0, .slice none 0 0, .slice none 0 0] 30)) HB2.out)
  have HB6 := Lf.hide (heap_alloc_new w1 (.cells #[.int .i64 0, .int .i64 0, .int .i64 0, .string ⟨#[]⟩, .slice none 0 0, .slice none 0 0, .slice none 0 0] 30))
  have HG7 := Lf.hide (Lf.gbt HG3.out (Lf.gb (w := w1) (.cells #[.int .i64 0, .int .i64 0, .int .i64 0, .string ⟨#[]⟩, .slice none 0 0, .slice none 0 0, .slice none 0 0] 30)))
  clear hg HR
  have c8a := cell0_of HB4.out
  have c8b := cell1_of HB4.out
  have c8z := lt_of_blk2 HB4.out
  go_wp2_with fail
  refine (HU.out _ HG7.out).mono ?_; rintro e w6 ⟨hg, rfl⟩
  clear c8a c8b c8z
  have HG9 := Lf.hide (Lf.gbt HG7.out hg)
  have HGA := Lf.hide (Lf.gbt HG9.out (Lf.gb (w := w6) (.cells #[.int .i64 0, .int .i64 0, .int .i64 0, .string ⟨#[]⟩, .slice none 0 0, .slice none 0 0, .slice none 0 0] 30)))
  clear hg HU
  go_wp2_with fail
  refine (HS.out _ HGA.out).mono ?_; rintro e w7 ⟨rfl, hg⟩
  have HG10 := Lf.hide (Lf.gbt HGA.out hg)
  clear hg
  go_wp2_with fail
  refine (HWO.out _).mono ?_; rintro e w8 ⟨rfl, hg⟩
  have HG11 := Lf.hide (Lf.gbt HG10.out hg)
  clear hg
  go_wp2_with fail
  go_ret
  exact ⟨rfl, HG11.out⟩

set_option maxRecDepth 100000 in
set_option maxHeartbeats 1000000 in
theorem only_01 {W : World} {t0 : Int} {a : Option Addr} {l c : Nat} {kn nn pn : Int} {sn : ByteArray} {an : Option Addr} {ln cn : Nat} {sv : ByteArray} {x y : Va} {t : Tr}
    (HR : Hid (∀ W2, W.grownBy W2 none → Calls Try.prog 5 #[tyV t0 a l c, nodeV kn nn pn sn an ln cn] W2 fun e w' => W2.grownBy w' none ∧ e = .returned (.tuple #[vaV 0 0 0 ⟨#[]⟩ none 0 0 none 0 0 none 0 0, .int .i64 1])))
    (HU : Hid (∀ W2, W.grownBy W2 none → Calls Try.prog 10 #[tyV t0 a l c, .string sv] W2 fun e w' => W2.grownBy w' none ∧ ∃ v, e = .returned (.tuple #[v, .int .i64 0]) ∧ LiesV (fun _ => True) w' y v))
    (HHY : Hid (∀ (W2 : World) (v : Value), W.grownBy W2 none → LiesV (fun _ => True) W2 y v → Calls Try.prog 7 #[tyV t0 a l c, v] W2 fun e w' => e = .returned (.bool true) ∧ W2.grownBy w' none))
    (HP : Hid (∀ (W2 : World) (v : Value), W.grownBy W2 none → LiesV (fun _ => True) W2 y v → Calls Try.prog 13 #[tyV t0 a l c, v] W2 fun e w' => W2.grownBy w' none ∧ e = .returned (.tuple #[.string sv, .int .i64 0]))) :
    Calls Try.prog 3 #[tyV t0 a l c, nodeV kn nn pn sn an ln cn, .string sv] W fun e w' => e = .returned (.bool true) ∧ W.grownBy w' none := by
  have HWO := Lf.hide worth_any
  have HB01 := Lf.hide (res_new W (.cells #[.int .i64 t0, .slice a l c] 24) (.cells #[.int .i64 kn, .int .i64 nn, .int .i64 pn, .string sn, .slice an ln cn] 27))
  have HB02 := Lf.hide (new_twoI W (.cells #[.int .i64 t0, .slice a l c] 24) (.cells #[.int .i64 kn, .int .i64 nn, .int .i64 pn, .string sn, .slice an ln cn] 27))
  have HG00 := Lf.hide (Lf.gbt (Lf.gb (w := W) (.cells #[.int .i64 t0, .slice a l c] 24)) (Lf.gb (.cells #[.int .i64 kn, .int .i64 nn, .int .i64 pn, .string sn, .slice an ln cn] 27)))
  unfold tyV nodeV vaV at *
  go_enter Try.func3, Try.ntmps3
  go_wp2_with fail
  refine (HR.out _ HG00.out).mono ?_; rintro e w1 ⟨hg, rfl⟩
  have HB1 := Lf.hide ((hg.block _ (lt_of_blk2 HB01.out) (by simp)).trans HB01.out)
  have HB2 := Lf.hide ((hg.block _ (lt_of_blk2 HB02.out) (by simp)).trans HB02.out)
  have HG3 := Lf.hide (Lf.gbt HG00.out hg)
  have HB4 := Lf.hide (heap_keep (o := (.cells #[.int .i64 0, .int .i64 0, .int .i64 0, .string ⟨#[]⟩, .slice none 0 0, .slice none 0 0, .slice none 0 0] 30)) HB1.out)
  have HB5 := Lf.hide (heap_keep (o := (.cells #[.int .i64 0, .int .i64 0, .int .i64 0, .string ⟨#[]⟩, .slice none 0 0, .slice none 0 0, .slice none 0 0] 30)) HB2.out)
  have HB6 := Lf.hide (heap_alloc_new w1 (.cells #[.int .i64 0, .int .i64 0, .int .i64 0, .string ⟨#[]⟩, .slice none 0 0, .slice none 0 0, .slice none 0 0] 30))
  have HG7 := Lf.hide (Lf.gbt HG3.out (Lf.gb (w := w1) (.cells #[.int .i64 0, .int .i64 0, .int .i64 0, .string ⟨#[]⟩, .slice none 0 0, .slice none 0 0, .slice none 0 0] 30)))
  clear hg HR
  have c8a := cell0_of HB4.out
  have c8b := cell1_of HB4.out
  have c8z := lt_of_blk2 HB4.out
  go_wp2_with fail
  refine (HU.out _ HG7.out).mono ?_; rintro e w6 ⟨hg, v, rfl, hLv⟩
  obtain ⟨kq, nq, dq, sq, xaq, xlq, xcq, yaq, ylq, ycq, zaq, zlq, zcq, rfl⟩ := hLv.vaV
  clear c8a c8b c8z
  have HB9 := Lf.hide ((hg.block _ (lt_of_blk2 HB4.out) (by simp)).trans HB4.out)
  have HG10 := Lf.hide (Lf.gbt HG7.out hg)
  have HB11 := Lf.hide (heap_keep (o := (.cells #[.int .i64 kq, .int .i64 nq, .int .i64 dq, .string sq, .slice xaq xlq xcq, .slice yaq ylq ycq, .slice zaq zlq zcq] 30)) HB9.out)
  have HB12 := Lf.hide (heap_alloc_new w6 (.cells #[.int .i64 kq, .int .i64 nq, .int .i64 dq, .string sq, .slice xaq xlq xcq, .slice yaq ylq ycq, .slice zaq zlq zcq] 30))
  have HG13 := Lf.hide (Lf.gbt HG10.out (Lf.gb (w := w6) (.cells #[.int .i64 kq, .int .i64 nq, .int .i64 dq, .string sq, .slice xaq xlq xcq, .slice yaq ylq ycq, .slice zaq zlq zcq] 30)))
  have HL6 := Lf.hide (hLv.same (w' := w6.alloc (.cells #[.int .i64 kq, .int .i64 nq, .int .i64 dq, .string sq, .slice xaq xlq xcq, .slice yaq ylq ycq, .slice zaq zlq zcq] 30)) (fun b o _ hlt => World.cell?_of_block (heap_alloc_old (w := w6) (o := _) (h := hlt))))
  clear hg hLv HU
  unfold vaV
  go_wp2_with fail
  refine (HWO.out _).mono ?_; rintro e w7 ⟨rfl, hg⟩
  have HB14 := Lf.hide ((hg.block _ (lt_of_blk2 HB11.out) (by simp)).trans HB11.out)
  have HB15 := Lf.hide ((hg.block _ (lt_of_blk2 HB12.out) (by simp)).trans HB12.out)
  have HG16 := Lf.hide (Lf.gbt HG13.out hg)
  have c17a := cell0_of HB14.out
  have c17b := cell1_of HB14.out
  have c17z := lt_of_blk2 HB14.out
  obtain ⟨c18a, c18b, c18c, c18d, c18e, c18f, c18g⟩ := box7 HB15.out
  have c18z := lt_of_blk2 HB15.out
  have hL7 := HL6.out.same (w' := w7) (fun b o _ hlt => World.cell?_of_block (hg.block b hlt (by simp)))
  have HCP := Lf.hide (HP.out _ _ HG16.out hL7)
  have HL7 := Lf.hide hL7
  clear hg hL7 HL6 HP
  unfold vaV at HCP
  go_wp2_with fail
  refine HCP.out.mono ?_; rintro e w8 ⟨hg, rfl⟩
  clear c17a c17b c17z c18a c18b c18c c18d c18e c18f c18g c18z
  have HB19 := Lf.hide ((hg.block _ (lt_of_blk2 HB14.out) (by simp)).trans HB14.out)
  have HB20 := Lf.hide ((hg.block _ (lt_of_blk2 HB15.out) (by simp)).trans HB15.out)
  have HG21 := Lf.hide (Lf.gbt HG16.out hg)
  have c22a := cell0_of HB19.out
  have c22b := cell1_of HB19.out
  have c22z := lt_of_blk2 HB19.out
  obtain ⟨c23a, c23b, c23c, c23d, c23e, c23f, c23g⟩ := box7 HB20.out
  have c23z := lt_of_blk2 HB20.out
  have HCH2 := Lf.hide (HHY.out _ _ HG21.out (HL7.out.same (w' := w8) (fun b o _ hlt => World.cell?_of_block (hg.block b hlt (by simp)))))
  clear hg HCP HHY HL7
  unfold vaV at HCH2
  go_wp2_with fail
  refine HCH2.out.mono ?_; rintro e w9 ⟨rfl, hg⟩
  clear c22a c22b c22z c23a c23b c23c c23d c23e c23f c23g c23z
  have HG24 := Lf.hide (Lf.gbt HG21.out hg)
  clear hg
  go_wp2_with fail
  go_ret
  exact ⟨rfl, HG24.out⟩

set_option maxRecDepth 100000 in
set_option maxHeartbeats 1000000 in
theorem only_10 {W : World} {t0 : Int} {a : Option Addr} {l c : Nat} {kn nn pn : Int} {sn : ByteArray} {an : Option Addr} {ln cn : Nat} {sv : ByteArray} {x y : Va} {t : Tr}
    (HR : Hid (∀ W2, W.grownBy W2 none → Calls Try.prog 5 #[tyV t0 a l c, nodeV kn nn pn sn an ln cn] W2 fun e w' => W2.grownBy w' none ∧ ∃ v, e = .returned (.tuple #[v, .int .i64 0]) ∧ LiesV (fun _ => True) w' x v))
    (HH : Hid (∀ (W2 : World) (v : Value), W.grownBy W2 none → LiesV (fun _ => True) W2 x v → Calls Try.prog 7 #[tyV t0 a l c, v] W2 fun e w' => e = .returned (.bool true) ∧ W2.grownBy w' none))
    (HK : Hid (∀ (W2 : World), W.grownBy W2 none → Calls Try.prog 8 #[tyV t0 a l c] W2 fun e w' => e = .returned (.bool false) ∧ W2.grownBy w' none))
    (HN : Hid (∀ (W2 : World) (v : Value), W.grownBy W2 none → LiesV (fun _ => True) W2 x v → Calls Try.prog 6 #[tyV t0 a l c, v] W2 fun e w' => W2.grownBy w' none ∧ e = .returned (.tuple #[nodeV 0 0 0 ⟨#[]⟩ none 0 0, .int .i64 5])))
    (HU : Hid (∀ W2, W.grownBy W2 none → Calls Try.prog 10 #[tyV t0 a l c, .string sv] W2 fun e w' => W2.grownBy w' none ∧ e = .returned (.tuple #[vaV 0 0 0 ⟨#[]⟩ none 0 0 none 0 0 none 0 0, .int .i64 1])))
    (HS : Hid (∀ W2, W.grownBy W2 none → Calls Try.prog 12 #[vaV 0 0 0 ⟨#[]⟩ none 0 0 none 0 0 none 0 0, vaV 0 0 0 ⟨#[]⟩ none 0 0 none 0 0 none 0 0] W2 fun e w' => e = .returned (.bool true) ∧ W2.grownBy w' none)) :
    Calls Try.prog 3 #[tyV t0 a l c, nodeV kn nn pn sn an ln cn, .string sv] W fun e w' => e = .returned (.bool true) ∧ W.grownBy w' none := by
  have HWO := Lf.hide worth_any
  have HB01 := Lf.hide (res_new W (.cells #[.int .i64 t0, .slice a l c] 24) (.cells #[.int .i64 kn, .int .i64 nn, .int .i64 pn, .string sn, .slice an ln cn] 27))
  have HB02 := Lf.hide (new_twoI W (.cells #[.int .i64 t0, .slice a l c] 24) (.cells #[.int .i64 kn, .int .i64 nn, .int .i64 pn, .string sn, .slice an ln cn] 27))
  have HG00 := Lf.hide (Lf.gbt (Lf.gb (w := W) (.cells #[.int .i64 t0, .slice a l c] 24)) (Lf.gb (.cells #[.int .i64 kn, .int .i64 nn, .int .i64 pn, .string sn, .slice an ln cn] 27)))
  unfold tyV nodeV vaV at *
  go_enter Try.func3, Try.ntmps3
  go_wp2_with fail
  refine (HR.out _ HG00.out).mono ?_; rintro e w1 ⟨hg, v, rfl, hLv⟩
  obtain ⟨kv, nv, dv, sv, xav, xlv, xcv, yav, ylv, ycv, zav, zlv, zcv, rfl⟩ := hLv.vaV
  have HB1 := Lf.hide ((hg.block _ (lt_of_blk2 HB01.out) (by simp)).trans HB01.out)
  have HB2 := Lf.hide ((hg.block _ (lt_of_blk2 HB02.out) (by simp)).trans HB02.out)
  have HG3 := Lf.hide (Lf.gbt HG00.out hg)
  have c4a := cell0_of HB1.out
  have c4b := cell1_of HB1.out
  have c4z := lt_of_blk2 HB1.out
  obtain ⟨c5a, c5b, c5c, c5d, c5e⟩ := box5 HB2.out
  have c5z := lt_of_blk2 HB2.out
  have HB6 := Lf.hide (heap_keep (o := (.cells #[.int .i64 kv, .int .i64 nv, .int .i64 dv, .string sv, .slice xav xlv xcv, .slice yav ylv ycv, .slice zav zlv zcv] 30)) HB1.out)
  have HB7 := Lf.hide (heap_keep (o := (.cells #[.int .i64 kv, .int .i64 nv, .int .i64 dv, .string sv, .slice xav xlv xcv, .slice yav ylv ycv, .slice zav zlv zcv] 30)) HB2.out)
  have HB8 := Lf.hide (heap_alloc_new w1 (.cells #[.int .i64 kv, .int .i64 nv, .int .i64 dv, .string sv, .slice xav xlv xcv, .slice yav ylv ycv, .slice zav zlv zcv] 30))
  have HG9 := Lf.hide (Lf.gbt HG3.out (Lf.gb (w := w1) (.cells #[.int .i64 kv, .int .i64 nv, .int .i64 dv, .string sv, .slice xav xlv xcv, .slice yav ylv ycv, .slice zav zlv zcv] 30)))
  have hL1 := hLv.same (w' := w1.alloc (.cells #[.int .i64 kv, .int .i64 nv, .int .i64 dv, .string sv, .slice xav xlv xcv, .slice yav ylv ycv, .slice zav zlv zcv] 30)) (fun b o _ hlt => World.cell?_of_block (heap_alloc_old (w := w1) (o := _) (h := hlt)))
  have HCN := Lf.hide (HN.out _ _ HG9.out hL1)
  have HL1 := Lf.hide hL1
  clear hg hLv hL1 HR HN
  unfold vaV at HCN ⊢
  go_wp2_with fail
  refine HCN.out.mono ?_; rintro e w2 ⟨hg, rfl⟩
  clear c4a c4b c4z c5a c5b c5c c5d c5e c5z
  have HB10 := Lf.hide ((hg.block _ (lt_of_blk2 HB6.out) (by simp)).trans HB6.out)
  have HB11 := Lf.hide ((hg.block _ (lt_of_blk2 HB7.out) (by simp)).trans HB7.out)
  have HB12 := Lf.hide ((hg.block _ (lt_of_blk2 HB8.out) (by simp)).trans HB8.out)
  have HG13 := Lf.hide (Lf.gbt HG9.out hg)
  have c14a := cell0_of HB10.out
  have c14b := cell1_of HB10.out
  have c14z := lt_of_blk2 HB10.out
  obtain ⟨c15a, c15b, c15c, c15d, c15e⟩ := box5 HB11.out
  have c15z := lt_of_blk2 HB11.out
  obtain ⟨c16a, c16b, c16c, c16d, c16e, c16f, c16g⟩ := box7 HB12.out
  have c16z := lt_of_blk2 HB12.out
  have HB17 := Lf.hide (heap_keep (o := (.cells #[.int .i64 0, .int .i64 0, .int .i64 0, .string ⟨#[]⟩, .slice none 0 0] 27)) HB10.out)
  have HB18 := Lf.hide (heap_keep (o := (.cells #[.int .i64 0, .int .i64 0, .int .i64 0, .string ⟨#[]⟩, .slice none 0 0] 27)) HB11.out)
  have HB19 := Lf.hide (heap_keep (o := (.cells #[.int .i64 0, .int .i64 0, .int .i64 0, .string ⟨#[]⟩, .slice none 0 0] 27)) HB12.out)
  have HB20 := Lf.hide (heap_alloc_new w2 (.cells #[.int .i64 0, .int .i64 0, .int .i64 0, .string ⟨#[]⟩, .slice none 0 0] 27))
  have HG21 := Lf.hide (Lf.gbt HG13.out (Lf.gb (w := w2) (.cells #[.int .i64 0, .int .i64 0, .int .i64 0, .string ⟨#[]⟩, .slice none 0 0] 27)))
  have hL2 := (HL1.out.same (w' := w2) (fun b o _ hlt => World.cell?_of_block (hg.block b hlt (by simp)))).same (w' := w2.alloc (.cells #[.int .i64 0, .int .i64 0, .int .i64 0, .string ⟨#[]⟩, .slice none 0 0] 27)) (fun b o _ hlt => World.cell?_of_block (heap_alloc_old (w := w2) (o := _) (h := hlt)))
  have HCH := Lf.hide (HH.out _ _ HG21.out hL2)
  clear hg hL2 HCN HH HL1
  unfold vaV at HCH
  unfold nodeV at *
  go_wp2_with fail
  refine HCH.out.mono ?_; rintro e w3 ⟨rfl, hg⟩
  clear c14a c14b c14z c15a c15b c15c c15d c15e c15z c16a c16b c16c c16d c16e c16f c16g c16z
  have HB22 := Lf.hide ((hg.block _ (lt_of_blk2 HB17.out) (by simp)).trans HB17.out)
  have HB23 := Lf.hide ((hg.block _ (lt_of_blk2 HB18.out) (by simp)).trans HB18.out)
  have HB24 := Lf.hide ((hg.block _ (lt_of_blk2 HB19.out) (by simp)).trans HB19.out)
  have HB25 := Lf.hide ((hg.block _ (lt_of_blk2 HB20.out) (by simp)).trans HB20.out)
  have HG26 := Lf.hide (Lf.gbt HG21.out hg)
  have c27a := cell0_of HB22.out
  have c27b := cell1_of HB22.out
  have c27z := lt_of_blk2 HB22.out
  obtain ⟨c28a, c28b, c28c, c28d, c28e⟩ := box5 HB23.out
  have c28z := lt_of_blk2 HB23.out
  obtain ⟨c29a, c29b, c29c, c29d, c29e, c29f, c29g⟩ := box7 HB24.out
  have c29z := lt_of_blk2 HB24.out
  obtain ⟨c30a, c30b, c30c, c30d, c30e⟩ := box5 HB25.out
  have c30z := lt_of_blk2 HB25.out
  clear hg HCH
  go_wp2_with fail
  refine (HK.out _ HG26.out).mono ?_; rintro e w4 ⟨rfl, hg⟩
  clear c27a c27b c27z c28a c28b c28c c28d c28e c28z c29a c29b c29c c29d c29e c29f c29g c29z c30a c30b c30c c30d c30e c30z
  have HB31 := Lf.hide ((hg.block _ (lt_of_blk2 HB22.out) (by simp)).trans HB22.out)
  have HB32 := Lf.hide ((hg.block _ (lt_of_blk2 HB23.out) (by simp)).trans HB23.out)
  have HB33 := Lf.hide ((hg.block _ (lt_of_blk2 HB24.out) (by simp)).trans HB24.out)
  have HB34 := Lf.hide ((hg.block _ (lt_of_blk2 HB25.out) (by simp)).trans HB25.out)
  have HG35 := Lf.hide (Lf.gbt HG26.out hg)
  have c36a := cell0_of HB31.out
  have c36b := cell1_of HB31.out
  have c36z := lt_of_blk2 HB31.out
  obtain ⟨c37a, c37b, c37c, c37d, c37e⟩ := box5 HB32.out
  have c37z := lt_of_blk2 HB32.out
  obtain ⟨c38a, c38b, c38c, c38d, c38e, c38f, c38g⟩ := box7 HB33.out
  have c38z := lt_of_blk2 HB33.out
  obtain ⟨c39a, c39b, c39c, c39d, c39e⟩ := box5 HB34.out
  have c39z := lt_of_blk2 HB34.out
  clear hg HK
  go_wp2_with fail
  refine (HU.out _ HG35.out).mono ?_; rintro e w6 ⟨hg, rfl⟩
  clear c36a c36b c36z c37a c37b c37c c37d c37e c37z c38a c38b c38c c38d c38e c38f c38g c38z c39a c39b c39c c39d c39e c39z
  have HG40 := Lf.hide (Lf.gbt HG35.out hg)
  have HGA := Lf.hide (Lf.gbt HG40.out (Lf.gb (w := w6) (.cells #[.int .i64 0, .int .i64 0, .int .i64 0, .string ⟨#[]⟩, .slice none 0 0, .slice none 0 0, .slice none 0 0] 30)))
  clear hg HU
  go_wp2_with fail
  refine (HS.out _ HGA.out).mono ?_; rintro e w7 ⟨rfl, hg⟩
  have HG41 := Lf.hide (Lf.gbt HGA.out hg)
  clear hg
  go_wp2_with fail
  refine (HWO.out _).mono ?_; rintro e w8 ⟨rfl, hg⟩
  have HG42 := Lf.hide (Lf.gbt HG41.out hg)
  clear hg
  go_wp2_with fail
  go_ret
  exact ⟨rfl, HG42.out⟩

set_option maxRecDepth 100000 in
set_option maxHeartbeats 1000000 in
theorem only_11 {W : World} {t0 : Int} {a : Option Addr} {l c : Nat} {kn nn pn : Int} {sn : ByteArray} {an : Option Addr} {ln cn : Nat} {sv : ByteArray} {x y : Va} {t : Tr}
    (HR : Hid (∀ W2, W.grownBy W2 none → Calls Try.prog 5 #[tyV t0 a l c, nodeV kn nn pn sn an ln cn] W2 fun e w' => W2.grownBy w' none ∧ ∃ v, e = .returned (.tuple #[v, .int .i64 0]) ∧ LiesV (fun _ => True) w' x v))
    (HH : Hid (∀ (W2 : World) (v : Value), W.grownBy W2 none → LiesV (fun _ => True) W2 x v → Calls Try.prog 7 #[tyV t0 a l c, v] W2 fun e w' => e = .returned (.bool true) ∧ W2.grownBy w' none))
    (HK : Hid (∀ (W2 : World), W.grownBy W2 none → Calls Try.prog 8 #[tyV t0 a l c] W2 fun e w' => e = .returned (.bool false) ∧ W2.grownBy w' none))
    (HN : Hid (∀ (W2 : World) (v : Value), W.grownBy W2 none → LiesV (fun _ => True) W2 x v → Calls Try.prog 6 #[tyV t0 a l c, v] W2 fun e w' => W2.grownBy w' none ∧ e = .returned (.tuple #[nodeV 0 0 0 ⟨#[]⟩ none 0 0, .int .i64 5])))
    (HU : Hid (∀ W2, W.grownBy W2 none → Calls Try.prog 10 #[tyV t0 a l c, .string sv] W2 fun e w' => W2.grownBy w' none ∧ ∃ v, e = .returned (.tuple #[v, .int .i64 0]) ∧ LiesV (fun _ => True) w' y v))
    (HHY : Hid (∀ (W2 : World) (v : Value), W.grownBy W2 none → LiesV (fun _ => True) W2 y v → Calls Try.prog 7 #[tyV t0 a l c, v] W2 fun e w' => e = .returned (.bool true) ∧ W2.grownBy w' none))
    (HP : Hid (∀ (W2 : World) (v : Value), W.grownBy W2 none → LiesV (fun _ => True) W2 y v → Calls Try.prog 13 #[tyV t0 a l c, v] W2 fun e w' => W2.grownBy w' none ∧ e = .returned (.tuple #[.string sv, .int .i64 0]))) :
    Calls Try.prog 3 #[tyV t0 a l c, nodeV kn nn pn sn an ln cn, .string sv] W fun e w' => e = .returned (.bool true) ∧ W.grownBy w' none := by
  have HWO := Lf.hide worth_any
  have HB01 := Lf.hide (res_new W (.cells #[.int .i64 t0, .slice a l c] 24) (.cells #[.int .i64 kn, .int .i64 nn, .int .i64 pn, .string sn, .slice an ln cn] 27))
  have HB02 := Lf.hide (new_twoI W (.cells #[.int .i64 t0, .slice a l c] 24) (.cells #[.int .i64 kn, .int .i64 nn, .int .i64 pn, .string sn, .slice an ln cn] 27))
  have HG00 := Lf.hide (Lf.gbt (Lf.gb (w := W) (.cells #[.int .i64 t0, .slice a l c] 24)) (Lf.gb (.cells #[.int .i64 kn, .int .i64 nn, .int .i64 pn, .string sn, .slice an ln cn] 27)))
  unfold tyV nodeV at *
  go_enter Try.func3, Try.ntmps3
  go_wp2_with fail
  refine (HR.out _ HG00.out).mono ?_; rintro e w1 ⟨hg, v, rfl, hLv⟩
  obtain ⟨kv, nv, dv, sv, xav, xlv, xcv, yav, ylv, ycv, zav, zlv, zcv, rfl⟩ := hLv.vaV
  have HB1 := Lf.hide ((hg.block _ (lt_of_blk2 HB01.out) (by simp)).trans HB01.out)
  have HB2 := Lf.hide ((hg.block _ (lt_of_blk2 HB02.out) (by simp)).trans HB02.out)
  have HG3 := Lf.hide (Lf.gbt HG00.out hg)
  have c4a := cell0_of HB1.out
  have c4b := cell1_of HB1.out
  have c4z := lt_of_blk2 HB1.out
  obtain ⟨c5a, c5b, c5c, c5d, c5e⟩ := box5 HB2.out
  have c5z := lt_of_blk2 HB2.out
  have HB6 := Lf.hide (heap_keep (o := (.cells #[.int .i64 kv, .int .i64 nv, .int .i64 dv, .string sv, .slice xav xlv xcv, .slice yav ylv ycv, .slice zav zlv zcv] 30)) HB1.out)
  have HB7 := Lf.hide (heap_keep (o := (.cells #[.int .i64 kv, .int .i64 nv, .int .i64 dv, .string sv, .slice xav xlv xcv, .slice yav ylv ycv, .slice zav zlv zcv] 30)) HB2.out)
  have HB8 := Lf.hide (heap_alloc_new w1 (.cells #[.int .i64 kv, .int .i64 nv, .int .i64 dv, .string sv, .slice xav xlv xcv, .slice yav ylv ycv, .slice zav zlv zcv] 30))
  have HG9 := Lf.hide (Lf.gbt HG3.out (Lf.gb (w := w1) (.cells #[.int .i64 kv, .int .i64 nv, .int .i64 dv, .string sv, .slice xav xlv xcv, .slice yav ylv ycv, .slice zav zlv zcv] 30)))
  have hL1 := hLv.same (w' := w1.alloc (.cells #[.int .i64 kv, .int .i64 nv, .int .i64 dv, .string sv, .slice xav xlv xcv, .slice yav ylv ycv, .slice zav zlv zcv] 30)) (fun b o _ hlt => World.cell?_of_block (heap_alloc_old (w := w1) (o := _) (h := hlt)))
  have HCN := Lf.hide (HN.out _ _ HG9.out hL1)
  have HL1 := Lf.hide hL1
  clear hg hLv hL1 HR HN
  unfold vaV at HCN ⊢
  go_wp2_with fail
  refine HCN.out.mono ?_; rintro e w2 ⟨hg, rfl⟩
  clear c4a c4b c4z c5a c5b c5c c5d c5e c5z
  have HB10 := Lf.hide ((hg.block _ (lt_of_blk2 HB6.out) (by simp)).trans HB6.out)
  have HB11 := Lf.hide ((hg.block _ (lt_of_blk2 HB7.out) (by simp)).trans HB7.out)
  have HB12 := Lf.hide ((hg.block _ (lt_of_blk2 HB8.out) (by simp)).trans HB8.out)
  have HG13 := Lf.hide (Lf.gbt HG9.out hg)
  have c14a := cell0_of HB10.out
  have c14b := cell1_of HB10.out
  have c14z := lt_of_blk2 HB10.out
  obtain ⟨c15a, c15b, c15c, c15d, c15e⟩ := box5 HB11.out
  have c15z := lt_of_blk2 HB11.out
  obtain ⟨c16a, c16b, c16c, c16d, c16e, c16f, c16g⟩ := box7 HB12.out
  have c16z := lt_of_blk2 HB12.out
  have HB17 := Lf.hide (heap_keep (o := (.cells #[.int .i64 0, .int .i64 0, .int .i64 0, .string ⟨#[]⟩, .slice none 0 0] 27)) HB10.out)
  have HB18 := Lf.hide (heap_keep (o := (.cells #[.int .i64 0, .int .i64 0, .int .i64 0, .string ⟨#[]⟩, .slice none 0 0] 27)) HB11.out)
  have HB19 := Lf.hide (heap_keep (o := (.cells #[.int .i64 0, .int .i64 0, .int .i64 0, .string ⟨#[]⟩, .slice none 0 0] 27)) HB12.out)
  have HB20 := Lf.hide (heap_alloc_new w2 (.cells #[.int .i64 0, .int .i64 0, .int .i64 0, .string ⟨#[]⟩, .slice none 0 0] 27))
  have HG21 := Lf.hide (Lf.gbt HG13.out (Lf.gb (w := w2) (.cells #[.int .i64 0, .int .i64 0, .int .i64 0, .string ⟨#[]⟩, .slice none 0 0] 27)))
  have hL2 := (HL1.out.same (w' := w2) (fun b o _ hlt => World.cell?_of_block (hg.block b hlt (by simp)))).same (w' := w2.alloc (.cells #[.int .i64 0, .int .i64 0, .int .i64 0, .string ⟨#[]⟩, .slice none 0 0] 27)) (fun b o _ hlt => World.cell?_of_block (heap_alloc_old (w := w2) (o := _) (h := hlt)))
  have HCH := Lf.hide (HH.out _ _ HG21.out hL2)
  clear hg hL2 HCN HH HL1
  unfold vaV at HCH
  unfold nodeV at *
  go_wp2_with fail
  refine HCH.out.mono ?_; rintro e w3 ⟨rfl, hg⟩
  clear c14a c14b c14z c15a c15b c15c c15d c15e c15z c16a c16b c16c c16d c16e c16f c16g c16z
  have HB22 := Lf.hide ((hg.block _ (lt_of_blk2 HB17.out) (by simp)).trans HB17.out)
  have HB23 := Lf.hide ((hg.block _ (lt_of_blk2 HB18.out) (by simp)).trans HB18.out)
  have HB24 := Lf.hide ((hg.block _ (lt_of_blk2 HB19.out) (by simp)).trans HB19.out)
  have HB25 := Lf.hide ((hg.block _ (lt_of_blk2 HB20.out) (by simp)).trans HB20.out)
  have HG26 := Lf.hide (Lf.gbt HG21.out hg)
  have c27a := cell0_of HB22.out
  have c27b := cell1_of HB22.out
  have c27z := lt_of_blk2 HB22.out
  obtain ⟨c28a, c28b, c28c, c28d, c28e⟩ := box5 HB23.out
  have c28z := lt_of_blk2 HB23.out
  obtain ⟨c29a, c29b, c29c, c29d, c29e, c29f, c29g⟩ := box7 HB24.out
  have c29z := lt_of_blk2 HB24.out
  obtain ⟨c30a, c30b, c30c, c30d, c30e⟩ := box5 HB25.out
  have c30z := lt_of_blk2 HB25.out
  clear hg HCH
  go_wp2_with fail
  refine (HK.out _ HG26.out).mono ?_; rintro e w4 ⟨rfl, hg⟩
  clear c27a c27b c27z c28a c28b c28c c28d c28e c28z c29a c29b c29c c29d c29e c29f c29g c29z c30a c30b c30c c30d c30e c30z
  have HB31 := Lf.hide ((hg.block _ (lt_of_blk2 HB22.out) (by simp)).trans HB22.out)
  have HB32 := Lf.hide ((hg.block _ (lt_of_blk2 HB23.out) (by simp)).trans HB23.out)
  have HB33 := Lf.hide ((hg.block _ (lt_of_blk2 HB24.out) (by simp)).trans HB24.out)
  have HB34 := Lf.hide ((hg.block _ (lt_of_blk2 HB25.out) (by simp)).trans HB25.out)
  have HG35 := Lf.hide (Lf.gbt HG26.out hg)
  have c36a := cell0_of HB31.out
  have c36b := cell1_of HB31.out
  have c36z := lt_of_blk2 HB31.out
  obtain ⟨c37a, c37b, c37c, c37d, c37e⟩ := box5 HB32.out
  have c37z := lt_of_blk2 HB32.out
  obtain ⟨c38a, c38b, c38c, c38d, c38e, c38f, c38g⟩ := box7 HB33.out
  have c38z := lt_of_blk2 HB33.out
  obtain ⟨c39a, c39b, c39c, c39d, c39e⟩ := box5 HB34.out
  have c39z := lt_of_blk2 HB34.out
  clear hg HK
  go_wp2_with fail
  refine (HU.out _ HG35.out).mono ?_; rintro e w6 ⟨hg, v, rfl, hLv⟩
  obtain ⟨kq, nq, dq, sq, xaq, xlq, xcq, yaq, ylq, ycq, zaq, zlq, zcq, rfl⟩ := hLv.vaV
  clear c36a c36b c36z c37a c37b c37c c37d c37e c37z c38a c38b c38c c38d c38e c38f c38g c38z c39a c39b c39c c39d c39e c39z
  have HB40 := Lf.hide ((hg.block _ (lt_of_blk2 HB31.out) (by simp)).trans HB31.out)
  have HG41 := Lf.hide (Lf.gbt HG35.out hg)
  have HB42 := Lf.hide (heap_keep (o := (.cells #[.int .i64 kq, .int .i64 nq, .int .i64 dq, .string sq, .slice xaq xlq xcq, .slice yaq ylq ycq, .slice zaq zlq zcq] 30)) HB40.out)
  have HB43 := Lf.hide (heap_alloc_new w6 (.cells #[.int .i64 kq, .int .i64 nq, .int .i64 dq, .string sq, .slice xaq xlq xcq, .slice yaq ylq ycq, .slice zaq zlq zcq] 30))
  have HG44 := Lf.hide (Lf.gbt HG41.out (Lf.gb (w := w6) (.cells #[.int .i64 kq, .int .i64 nq, .int .i64 dq, .string sq, .slice xaq xlq xcq, .slice yaq ylq ycq, .slice zaq zlq zcq] 30)))
  have HL6 := Lf.hide (hLv.same (w' := w6.alloc (.cells #[.int .i64 kq, .int .i64 nq, .int .i64 dq, .string sq, .slice xaq xlq xcq, .slice yaq ylq ycq, .slice zaq zlq zcq] 30)) (fun b o _ hlt => World.cell?_of_block (heap_alloc_old (w := w6) (o := _) (h := hlt))))
  clear hg hLv HU
  unfold vaV
  go_wp2_with fail
  refine (HWO.out _).mono ?_; rintro e w7 ⟨rfl, hg⟩
  have HB45 := Lf.hide ((hg.block _ (lt_of_blk2 HB42.out) (by simp)).trans HB42.out)
  have HB46 := Lf.hide ((hg.block _ (lt_of_blk2 HB43.out) (by simp)).trans HB43.out)
  have HG47 := Lf.hide (Lf.gbt HG44.out hg)
  have c48a := cell0_of HB45.out
  have c48b := cell1_of HB45.out
  have c48z := lt_of_blk2 HB45.out
  obtain ⟨c49a, c49b, c49c, c49d, c49e, c49f, c49g⟩ := box7 HB46.out
  have c49z := lt_of_blk2 HB46.out
  have hL7 := HL6.out.same (w' := w7) (fun b o _ hlt => World.cell?_of_block (hg.block b hlt (by simp)))
  have HCP := Lf.hide (HP.out _ _ HG47.out hL7)
  have HL7 := Lf.hide hL7
  clear hg hL7 HL6 HP
  unfold vaV at HCP
  go_wp2_with fail
  refine HCP.out.mono ?_; rintro e w8 ⟨hg, rfl⟩
  clear c48a c48b c48z c49a c49b c49c c49d c49e c49f c49g c49z
  have HB50 := Lf.hide ((hg.block _ (lt_of_blk2 HB45.out) (by simp)).trans HB45.out)
  have HB51 := Lf.hide ((hg.block _ (lt_of_blk2 HB46.out) (by simp)).trans HB46.out)
  have HG52 := Lf.hide (Lf.gbt HG47.out hg)
  have c53a := cell0_of HB50.out
  have c53b := cell1_of HB50.out
  have c53z := lt_of_blk2 HB50.out
  obtain ⟨c54a, c54b, c54c, c54d, c54e, c54f, c54g⟩ := box7 HB51.out
  have c54z := lt_of_blk2 HB51.out
  have HCH2 := Lf.hide (HHY.out _ _ HG52.out (HL7.out.same (w' := w8) (fun b o _ hlt => World.cell?_of_block (hg.block b hlt (by simp)))))
  clear hg HCP HHY HL7
  unfold vaV at HCH2
  go_wp2_with fail
  refine HCH2.out.mono ?_; rintro e w9 ⟨rfl, hg⟩
  clear c53a c53b c53z c54a c54b c54c c54d c54e c54f c54g c54z
  have HG55 := Lf.hide (Lf.gbt HG52.out hg)
  clear hg
  go_wp2_with fail
  go_ret
  exact ⟨rfl, HG55.out⟩

set_option maxRecDepth 100000 in
set_option maxHeartbeats 1000000 in
theorem only_20 {W : World} {t0 : Int} {a : Option Addr} {l c : Nat} {kn nn pn : Int} {sn : ByteArray} {an : Option Addr} {ln cn : Nat} {sv : ByteArray} {x y : Va} {t : Tr}
    (HR : Hid (∀ W2, W.grownBy W2 none → Calls Try.prog 5 #[tyV t0 a l c, nodeV kn nn pn sn an ln cn] W2 fun e w' => W2.grownBy w' none ∧ ∃ v, e = .returned (.tuple #[v, .int .i64 0]) ∧ LiesV (fun _ => True) w' x v))
    (HH : Hid (∀ (W2 : World) (v : Value), W.grownBy W2 none → LiesV (fun _ => True) W2 x v → Calls Try.prog 7 #[tyV t0 a l c, v] W2 fun e w' => e = .returned (.bool true) ∧ W2.grownBy w' none))
    (HK : Hid (∀ (W2 : World), W.grownBy W2 none → Calls Try.prog 8 #[tyV t0 a l c] W2 fun e w' => e = .returned (.bool true) ∧ W2.grownBy w' none))
    (HN : Hid (∀ (W2 : World) (v : Value), W.grownBy W2 none → LiesV (fun _ => True) W2 x v → Calls Try.prog 6 #[tyV t0 a l c, v] W2 fun e w' => W2.grownBy w' none ∧ ∃ u, e = .returned (.tuple #[u, .int .i64 0]) ∧ Lies (fun _ => True) w' t u))
    (HA : Hid (∀ (W2 : World) (u : Value), W.grownBy W2 none → Lies (fun _ => True) W2 t u → Calls Try.prog 9 #[u, nodeV kn nn pn sn an ln cn] W2 fun e w' => e = .returned (.bool true) ∧ W2.grownBy w' none))
    (HU : Hid (∀ W2, W.grownBy W2 none → Calls Try.prog 10 #[tyV t0 a l c, .string sv] W2 fun e w' => W2.grownBy w' none ∧ e = .returned (.tuple #[vaV 0 0 0 ⟨#[]⟩ none 0 0 none 0 0 none 0 0, .int .i64 1])))
    (HS : Hid (∀ W2, W.grownBy W2 none → Calls Try.prog 12 #[vaV 0 0 0 ⟨#[]⟩ none 0 0 none 0 0 none 0 0, vaV 0 0 0 ⟨#[]⟩ none 0 0 none 0 0 none 0 0] W2 fun e w' => e = .returned (.bool true) ∧ W2.grownBy w' none)) :
    Calls Try.prog 3 #[tyV t0 a l c, nodeV kn nn pn sn an ln cn, .string sv] W fun e w' => e = .returned (.bool true) ∧ W.grownBy w' none := by
  have HWO := Lf.hide worth_any
  have HB01 := Lf.hide (res_new W (.cells #[.int .i64 t0, .slice a l c] 24) (.cells #[.int .i64 kn, .int .i64 nn, .int .i64 pn, .string sn, .slice an ln cn] 27))
  have HB02 := Lf.hide (new_twoI W (.cells #[.int .i64 t0, .slice a l c] 24) (.cells #[.int .i64 kn, .int .i64 nn, .int .i64 pn, .string sn, .slice an ln cn] 27))
  have HG00 := Lf.hide (Lf.gbt (Lf.gb (w := W) (.cells #[.int .i64 t0, .slice a l c] 24)) (Lf.gb (.cells #[.int .i64 kn, .int .i64 nn, .int .i64 pn, .string sn, .slice an ln cn] 27)))
  unfold tyV nodeV vaV at *
  go_enter Try.func3, Try.ntmps3
  go_wp2_with fail
  refine (HR.out _ HG00.out).mono ?_; rintro e w1 ⟨hg, v, rfl, hLv⟩
  obtain ⟨kv, nv, dv, sv, xav, xlv, xcv, yav, ylv, ycv, zav, zlv, zcv, rfl⟩ := hLv.vaV
  have HB1 := Lf.hide ((hg.block _ (lt_of_blk2 HB01.out) (by simp)).trans HB01.out)
  have HB2 := Lf.hide ((hg.block _ (lt_of_blk2 HB02.out) (by simp)).trans HB02.out)
  have HG3 := Lf.hide (Lf.gbt HG00.out hg)
  have c4a := cell0_of HB1.out
  have c4b := cell1_of HB1.out
  have c4z := lt_of_blk2 HB1.out
  obtain ⟨c5a, c5b, c5c, c5d, c5e⟩ := box5 HB2.out
  have c5z := lt_of_blk2 HB2.out
  have HB6 := Lf.hide (heap_keep (o := (.cells #[.int .i64 kv, .int .i64 nv, .int .i64 dv, .string sv, .slice xav xlv xcv, .slice yav ylv ycv, .slice zav zlv zcv] 30)) HB1.out)
  have HB7 := Lf.hide (heap_keep (o := (.cells #[.int .i64 kv, .int .i64 nv, .int .i64 dv, .string sv, .slice xav xlv xcv, .slice yav ylv ycv, .slice zav zlv zcv] 30)) HB2.out)
  have HB8 := Lf.hide (heap_alloc_new w1 (.cells #[.int .i64 kv, .int .i64 nv, .int .i64 dv, .string sv, .slice xav xlv xcv, .slice yav ylv ycv, .slice zav zlv zcv] 30))
  have HG9 := Lf.hide (Lf.gbt HG3.out (Lf.gb (w := w1) (.cells #[.int .i64 kv, .int .i64 nv, .int .i64 dv, .string sv, .slice xav xlv xcv, .slice yav ylv ycv, .slice zav zlv zcv] 30)))
  have hL1 := hLv.same (w' := w1.alloc (.cells #[.int .i64 kv, .int .i64 nv, .int .i64 dv, .string sv, .slice xav xlv xcv, .slice yav ylv ycv, .slice zav zlv zcv] 30)) (fun b o _ hlt => World.cell?_of_block (heap_alloc_old (w := w1) (o := _) (h := hlt)))
  have HCN := Lf.hide (HN.out _ _ HG9.out hL1)
  have HL1 := Lf.hide hL1
  clear hg hLv hL1 HR HN
  unfold vaV at HCN ⊢
  go_wp2_with fail
  refine HCN.out.mono ?_; rintro e w2 ⟨hg, u, rfl, hLu⟩
  obtain ⟨ku, nu, pu, su, au, lu, cu, rfl⟩ := hLu.nodeV
  clear c4a c4b c4z c5a c5b c5c c5d c5e c5z
  have HB10 := Lf.hide ((hg.block _ (lt_of_blk2 HB6.out) (by simp)).trans HB6.out)
  have HB11 := Lf.hide ((hg.block _ (lt_of_blk2 HB7.out) (by simp)).trans HB7.out)
  have HB12 := Lf.hide ((hg.block _ (lt_of_blk2 HB8.out) (by simp)).trans HB8.out)
  have HG13 := Lf.hide (Lf.gbt HG9.out hg)
  have c14a := cell0_of HB10.out
  have c14b := cell1_of HB10.out
  have c14z := lt_of_blk2 HB10.out
  obtain ⟨c15a, c15b, c15c, c15d, c15e⟩ := box5 HB11.out
  have c15z := lt_of_blk2 HB11.out
  obtain ⟨c16a, c16b, c16c, c16d, c16e, c16f, c16g⟩ := box7 HB12.out
  have c16z := lt_of_blk2 HB12.out
  have HB17 := Lf.hide (heap_keep (o := (.cells #[.int .i64 ku, .int .i64 nu, .int .i64 pu, .string su, .slice au lu cu] 27)) HB10.out)
  have HB18 := Lf.hide (heap_keep (o := (.cells #[.int .i64 ku, .int .i64 nu, .int .i64 pu, .string su, .slice au lu cu] 27)) HB11.out)
  have HB19 := Lf.hide (heap_keep (o := (.cells #[.int .i64 ku, .int .i64 nu, .int .i64 pu, .string su, .slice au lu cu] 27)) HB12.out)
  have HB20 := Lf.hide (heap_alloc_new w2 (.cells #[.int .i64 ku, .int .i64 nu, .int .i64 pu, .string su, .slice au lu cu] 27))
  have HG21 := Lf.hide (Lf.gbt HG13.out (Lf.gb (w := w2) (.cells #[.int .i64 ku, .int .i64 nu, .int .i64 pu, .string su, .slice au lu cu] 27)))
  have hL2 := (HL1.out.same (w' := w2) (fun b o _ hlt => World.cell?_of_block (hg.block b hlt (by simp)))).same (w' := w2.alloc (.cells #[.int .i64 ku, .int .i64 nu, .int .i64 pu, .string su, .slice au lu cu] 27)) (fun b o _ hlt => World.cell?_of_block (heap_alloc_old (w := w2) (o := _) (h := hlt)))
  have HCH := Lf.hide (HH.out _ _ HG21.out hL2)
  have HL2 := Lf.hide (hLu.same (w' := w2.alloc (.cells #[.int .i64 ku, .int .i64 nu, .int .i64 pu, .string su, .slice au lu cu] 27)) (fun b o _ hlt => World.cell?_of_block (heap_alloc_old (w := w2) (o := _) (h := hlt))))
  clear hLu
  clear hg hL2 HCN HH HL1
  unfold vaV at HCH
  unfold nodeV at *
  go_wp2_with fail
  refine HCH.out.mono ?_; rintro e w3 ⟨rfl, hg⟩
  clear c14a c14b c14z c15a c15b c15c c15d c15e c15z c16a c16b c16c c16d c16e c16f c16g c16z
  have HB22 := Lf.hide ((hg.block _ (lt_of_blk2 HB17.out) (by simp)).trans HB17.out)
  have HB23 := Lf.hide ((hg.block _ (lt_of_blk2 HB18.out) (by simp)).trans HB18.out)
  have HB24 := Lf.hide ((hg.block _ (lt_of_blk2 HB19.out) (by simp)).trans HB19.out)
  have HB25 := Lf.hide ((hg.block _ (lt_of_blk2 HB20.out) (by simp)).trans HB20.out)
  have HG26 := Lf.hide (Lf.gbt HG21.out hg)
  have c27a := cell0_of HB22.out
  have c27b := cell1_of HB22.out
  have c27z := lt_of_blk2 HB22.out
  obtain ⟨c28a, c28b, c28c, c28d, c28e⟩ := box5 HB23.out
  have c28z := lt_of_blk2 HB23.out
  obtain ⟨c29a, c29b, c29c, c29d, c29e, c29f, c29g⟩ := box7 HB24.out
  have c29z := lt_of_blk2 HB24.out
  obtain ⟨c30a, c30b, c30c, c30d, c30e⟩ := box5 HB25.out
  have c30z := lt_of_blk2 HB25.out
  have HL3 := Lf.hide (HL2.out.same (w' := w3) (fun b o _ hlt => World.cell?_of_block (hg.block b hlt (by simp))))
  clear HL2
  clear hg HCH
  go_wp2_with fail
  refine (HK.out _ HG26.out).mono ?_; rintro e w4 ⟨rfl, hg⟩
  clear c27a c27b c27z c28a c28b c28c c28d c28e c28z c29a c29b c29c c29d c29e c29f c29g c29z c30a c30b c30c c30d c30e c30z
  have HB31 := Lf.hide ((hg.block _ (lt_of_blk2 HB22.out) (by simp)).trans HB22.out)
  have HB32 := Lf.hide ((hg.block _ (lt_of_blk2 HB23.out) (by simp)).trans HB23.out)
  have HB33 := Lf.hide ((hg.block _ (lt_of_blk2 HB24.out) (by simp)).trans HB24.out)
  have HB34 := Lf.hide ((hg.block _ (lt_of_blk2 HB25.out) (by simp)).trans HB25.out)
  have HG35 := Lf.hide (Lf.gbt HG26.out hg)
  have c36a := cell0_of HB31.out
  have c36b := cell1_of HB31.out
  have c36z := lt_of_blk2 HB31.out
  obtain ⟨c37a, c37b, c37c, c37d, c37e⟩ := box5 HB32.out
  have c37z := lt_of_blk2 HB32.out
  obtain ⟨c38a, c38b, c38c, c38d, c38e, c38f, c38g⟩ := box7 HB33.out
  have c38z := lt_of_blk2 HB33.out
  obtain ⟨c39a, c39b, c39c, c39d, c39e⟩ := box5 HB34.out
  have c39z := lt_of_blk2 HB34.out
  have hL4 := HL3.out.same (w' := w4) (fun b o _ hlt => World.cell?_of_block (hg.block b hlt (by simp)))
  have HCA := Lf.hide (HA.out _ _ HG35.out hL4)
  clear hg hL4 HL3 HA HK
  unfold nodeV at HCA
  go_wp2_with fail
  refine HCA.out.mono ?_; rintro e w5 ⟨rfl, hg⟩
  clear c36a c36b c36z c37a c37b c37c c37d c37e c37z c38a c38b c38c c38d c38e c38f c38g c38z c39a c39b c39c c39d c39e c39z
  have HB40 := Lf.hide ((hg.block _ (lt_of_blk2 HB31.out) (by simp)).trans HB31.out)
  have HB41 := Lf.hide ((hg.block _ (lt_of_blk2 HB32.out) (by simp)).trans HB32.out)
  have HB42 := Lf.hide ((hg.block _ (lt_of_blk2 HB33.out) (by simp)).trans HB33.out)
  have HB43 := Lf.hide ((hg.block _ (lt_of_blk2 HB34.out) (by simp)).trans HB34.out)
  have HG44 := Lf.hide (Lf.gbt HG35.out hg)
  have c45a := cell0_of HB40.out
  have c45b := cell1_of HB40.out
  have c45z := lt_of_blk2 HB40.out
  clear hg HCA
  go_wp2_with fail
  refine (HU.out _ HG44.out).mono ?_; rintro e w6 ⟨hg, rfl⟩
  clear c45a c45b c45z
  have HG46 := Lf.hide (Lf.gbt HG44.out hg)
  have HGA := Lf.hide (Lf.gbt HG46.out (Lf.gb (w := w6) (.cells #[.int .i64 0, .int .i64 0, .int .i64 0, .string ⟨#[]⟩, .slice none 0 0, .slice none 0 0, .slice none 0 0] 30)))
  clear hg HU
  go_wp2_with fail
  refine (HS.out _ HGA.out).mono ?_; rintro e w7 ⟨rfl, hg⟩
  have HG47 := Lf.hide (Lf.gbt HGA.out hg)
  clear hg
  go_wp2_with fail
  refine (HWO.out _).mono ?_; rintro e w8 ⟨rfl, hg⟩
  have HG48 := Lf.hide (Lf.gbt HG47.out hg)
  clear hg
  go_wp2_with fail
  go_ret
  exact ⟨rfl, HG48.out⟩

set_option maxRecDepth 100000 in
set_option maxHeartbeats 1000000 in
theorem only_21 {W : World} {t0 : Int} {a : Option Addr} {l c : Nat} {kn nn pn : Int} {sn : ByteArray} {an : Option Addr} {ln cn : Nat} {sv : ByteArray} {x y : Va} {t : Tr}
    (HR : Hid (∀ W2, W.grownBy W2 none → Calls Try.prog 5 #[tyV t0 a l c, nodeV kn nn pn sn an ln cn] W2 fun e w' => W2.grownBy w' none ∧ ∃ v, e = .returned (.tuple #[v, .int .i64 0]) ∧ LiesV (fun _ => True) w' x v))
    (HH : Hid (∀ (W2 : World) (v : Value), W.grownBy W2 none → LiesV (fun _ => True) W2 x v → Calls Try.prog 7 #[tyV t0 a l c, v] W2 fun e w' => e = .returned (.bool true) ∧ W2.grownBy w' none))
    (HK : Hid (∀ (W2 : World), W.grownBy W2 none → Calls Try.prog 8 #[tyV t0 a l c] W2 fun e w' => e = .returned (.bool true) ∧ W2.grownBy w' none))
    (HN : Hid (∀ (W2 : World) (v : Value), W.grownBy W2 none → LiesV (fun _ => True) W2 x v → Calls Try.prog 6 #[tyV t0 a l c, v] W2 fun e w' => W2.grownBy w' none ∧ ∃ u, e = .returned (.tuple #[u, .int .i64 0]) ∧ Lies (fun _ => True) w' t u))
    (HA : Hid (∀ (W2 : World) (u : Value), W.grownBy W2 none → Lies (fun _ => True) W2 t u → Calls Try.prog 9 #[u, nodeV kn nn pn sn an ln cn] W2 fun e w' => e = .returned (.bool true) ∧ W2.grownBy w' none))
    (HU : Hid (∀ W2, W.grownBy W2 none → Calls Try.prog 10 #[tyV t0 a l c, .string sv] W2 fun e w' => W2.grownBy w' none ∧ ∃ v, e = .returned (.tuple #[v, .int .i64 0]) ∧ LiesV (fun _ => True) w' y v))
    (HHY : Hid (∀ (W2 : World) (v : Value), W.grownBy W2 none → LiesV (fun _ => True) W2 y v → Calls Try.prog 7 #[tyV t0 a l c, v] W2 fun e w' => e = .returned (.bool true) ∧ W2.grownBy w' none))
    (HP : Hid (∀ (W2 : World) (v : Value), W.grownBy W2 none → LiesV (fun _ => True) W2 y v → Calls Try.prog 13 #[tyV t0 a l c, v] W2 fun e w' => W2.grownBy w' none ∧ e = .returned (.tuple #[.string sv, .int .i64 0]))) :
    Calls Try.prog 3 #[tyV t0 a l c, nodeV kn nn pn sn an ln cn, .string sv] W fun e w' => e = .returned (.bool true) ∧ W.grownBy w' none := by
  have HWO := Lf.hide worth_any
  have HB01 := Lf.hide (res_new W (.cells #[.int .i64 t0, .slice a l c] 24) (.cells #[.int .i64 kn, .int .i64 nn, .int .i64 pn, .string sn, .slice an ln cn] 27))
  have HB02 := Lf.hide (new_twoI W (.cells #[.int .i64 t0, .slice a l c] 24) (.cells #[.int .i64 kn, .int .i64 nn, .int .i64 pn, .string sn, .slice an ln cn] 27))
  have HG00 := Lf.hide (Lf.gbt (Lf.gb (w := W) (.cells #[.int .i64 t0, .slice a l c] 24)) (Lf.gb (.cells #[.int .i64 kn, .int .i64 nn, .int .i64 pn, .string sn, .slice an ln cn] 27)))
  unfold tyV nodeV at *
  go_enter Try.func3, Try.ntmps3
  go_wp2_with fail
  refine (HR.out _ HG00.out).mono ?_; rintro e w1 ⟨hg, v, rfl, hLv⟩
  obtain ⟨kv, nv, dv, sv, xav, xlv, xcv, yav, ylv, ycv, zav, zlv, zcv, rfl⟩ := hLv.vaV
  have HB1 := Lf.hide ((hg.block _ (lt_of_blk2 HB01.out) (by simp)).trans HB01.out)
  have HB2 := Lf.hide ((hg.block _ (lt_of_blk2 HB02.out) (by simp)).trans HB02.out)
  have HG3 := Lf.hide (Lf.gbt HG00.out hg)
  have c4a := cell0_of HB1.out
  have c4b := cell1_of HB1.out
  have c4z := lt_of_blk2 HB1.out
  obtain ⟨c5a, c5b, c5c, c5d, c5e⟩ := box5 HB2.out
  have c5z := lt_of_blk2 HB2.out
  have HB6 := Lf.hide (heap_keep (o := (.cells #[.int .i64 kv, .int .i64 nv, .int .i64 dv, .string sv, .slice xav xlv xcv, .slice yav ylv ycv, .slice zav zlv zcv] 30)) HB1.out)
  have HB7 := Lf.hide (heap_keep (o := (.cells #[.int .i64 kv, .int .i64 nv, .int .i64 dv, .string sv, .slice xav xlv xcv, .slice yav ylv ycv, .slice zav zlv zcv] 30)) HB2.out)
  have HB8 := Lf.hide (heap_alloc_new w1 (.cells #[.int .i64 kv, .int .i64 nv, .int .i64 dv, .string sv, .slice xav xlv xcv, .slice yav ylv ycv, .slice zav zlv zcv] 30))
  have HG9 := Lf.hide (Lf.gbt HG3.out (Lf.gb (w := w1) (.cells #[.int .i64 kv, .int .i64 nv, .int .i64 dv, .string sv, .slice xav xlv xcv, .slice yav ylv ycv, .slice zav zlv zcv] 30)))
  have hL1 := hLv.same (w' := w1.alloc (.cells #[.int .i64 kv, .int .i64 nv, .int .i64 dv, .string sv, .slice xav xlv xcv, .slice yav ylv ycv, .slice zav zlv zcv] 30)) (fun b o _ hlt => World.cell?_of_block (heap_alloc_old (w := w1) (o := _) (h := hlt)))
  have HCN := Lf.hide (HN.out _ _ HG9.out hL1)
  have HL1 := Lf.hide hL1
  clear hg hLv hL1 HR HN
  unfold vaV at HCN ⊢
  go_wp2_with fail
  refine HCN.out.mono ?_; rintro e w2 ⟨hg, u, rfl, hLu⟩
  obtain ⟨ku, nu, pu, su, au, lu, cu, rfl⟩ := hLu.nodeV
  clear c4a c4b c4z c5a c5b c5c c5d c5e c5z
  have HB10 := Lf.hide ((hg.block _ (lt_of_blk2 HB6.out) (by simp)).trans HB6.out)
  have HB11 := Lf.hide ((hg.block _ (lt_of_blk2 HB7.out) (by simp)).trans HB7.out)
  have HB12 := Lf.hide ((hg.block _ (lt_of_blk2 HB8.out) (by simp)).trans HB8.out)
  have HG13 := Lf.hide (Lf.gbt HG9.out hg)
  have c14a := cell0_of HB10.out
  have c14b := cell1_of HB10.out
  have c14z := lt_of_blk2 HB10.out
  obtain ⟨c15a, c15b, c15c, c15d, c15e⟩ := box5 HB11.out
  have c15z := lt_of_blk2 HB11.out
  obtain ⟨c16a, c16b, c16c, c16d, c16e, c16f, c16g⟩ := box7 HB12.out
  have c16z := lt_of_blk2 HB12.out
  have HB17 := Lf.hide (heap_keep (o := (.cells #[.int .i64 ku, .int .i64 nu, .int .i64 pu, .string su, .slice au lu cu] 27)) HB10.out)
  have HB18 := Lf.hide (heap_keep (o := (.cells #[.int .i64 ku, .int .i64 nu, .int .i64 pu, .string su, .slice au lu cu] 27)) HB11.out)
  have HB19 := Lf.hide (heap_keep (o := (.cells #[.int .i64 ku, .int .i64 nu, .int .i64 pu, .string su, .slice au lu cu] 27)) HB12.out)
  have HB20 := Lf.hide (heap_alloc_new w2 (.cells #[.int .i64 ku, .int .i64 nu, .int .i64 pu, .string su, .slice au lu cu] 27))
  have HG21 := Lf.hide (Lf.gbt HG13.out (Lf.gb (w := w2) (.cells #[.int .i64 ku, .int .i64 nu, .int .i64 pu, .string su, .slice au lu cu] 27)))
  have hL2 := (HL1.out.same (w' := w2) (fun b o _ hlt => World.cell?_of_block (hg.block b hlt (by simp)))).same (w' := w2.alloc (.cells #[.int .i64 ku, .int .i64 nu, .int .i64 pu, .string su, .slice au lu cu] 27)) (fun b o _ hlt => World.cell?_of_block (heap_alloc_old (w := w2) (o := _) (h := hlt)))
  have HCH := Lf.hide (HH.out _ _ HG21.out hL2)
  have HL2 := Lf.hide (hLu.same (w' := w2.alloc (.cells #[.int .i64 ku, .int .i64 nu, .int .i64 pu, .string su, .slice au lu cu] 27)) (fun b o _ hlt => World.cell?_of_block (heap_alloc_old (w := w2) (o := _) (h := hlt))))
  clear hLu
  clear hg hL2 HCN HH HL1
  unfold vaV at HCH
  unfold nodeV at *
  go_wp2_with fail
  refine HCH.out.mono ?_; rintro e w3 ⟨rfl, hg⟩
  clear c14a c14b c14z c15a c15b c15c c15d c15e c15z c16a c16b c16c c16d c16e c16f c16g c16z
  have HB22 := Lf.hide ((hg.block _ (lt_of_blk2 HB17.out) (by simp)).trans HB17.out)
  have HB23 := Lf.hide ((hg.block _ (lt_of_blk2 HB18.out) (by simp)).trans HB18.out)
  have HB24 := Lf.hide ((hg.block _ (lt_of_blk2 HB19.out) (by simp)).trans HB19.out)
  have HB25 := Lf.hide ((hg.block _ (lt_of_blk2 HB20.out) (by simp)).trans HB20.out)
  have HG26 := Lf.hide (Lf.gbt HG21.out hg)
  have c27a := cell0_of HB22.out
  have c27b := cell1_of HB22.out
  have c27z := lt_of_blk2 HB22.out
  obtain ⟨c28a, c28b, c28c, c28d, c28e⟩ := box5 HB23.out
  have c28z := lt_of_blk2 HB23.out
  obtain ⟨c29a, c29b, c29c, c29d, c29e, c29f, c29g⟩ := box7 HB24.out
  have c29z := lt_of_blk2 HB24.out
  obtain ⟨c30a, c30b, c30c, c30d, c30e⟩ := box5 HB25.out
  have c30z := lt_of_blk2 HB25.out
  have HL3 := Lf.hide (HL2.out.same (w' := w3) (fun b o _ hlt => World.cell?_of_block (hg.block b hlt (by simp))))
  clear HL2
  clear hg HCH
  go_wp2_with fail
  refine (HK.out _ HG26.out).mono ?_; rintro e w4 ⟨rfl, hg⟩
  clear c27a c27b c27z c28a c28b c28c c28d c28e c28z c29a c29b c29c c29d c29e c29f c29g c29z c30a c30b c30c c30d c30e c30z
  have HB31 := Lf.hide ((hg.block _ (lt_of_blk2 HB22.out) (by simp)).trans HB22.out)
  have HB32 := Lf.hide ((hg.block _ (lt_of_blk2 HB23.out) (by simp)).trans HB23.out)
  have HB33 := Lf.hide ((hg.block _ (lt_of_blk2 HB24.out) (by simp)).trans HB24.out)
  have HB34 := Lf.hide ((hg.block _ (lt_of_blk2 HB25.out) (by simp)).trans HB25.out)
  have HG35 := Lf.hide (Lf.gbt HG26.out hg)
  have c36a := cell0_of HB31.out
  have c36b := cell1_of HB31.out
  have c36z := lt_of_blk2 HB31.out
  obtain ⟨c37a, c37b, c37c, c37d, c37e⟩ := box5 HB32.out
  have c37z := lt_of_blk2 HB32.out
  obtain ⟨c38a, c38b, c38c, c38d, c38e, c38f, c38g⟩ := box7 HB33.out
  have c38z := lt_of_blk2 HB33.out
  obtain ⟨c39a, c39b, c39c, c39d, c39e⟩ := box5 HB34.out
  have c39z := lt_of_blk2 HB34.out
  have hL4 := HL3.out.same (w' := w4) (fun b o _ hlt => World.cell?_of_block (hg.block b hlt (by simp)))
  have HCA := Lf.hide (HA.out _ _ HG35.out hL4)
  clear hg hL4 HL3 HA HK
  unfold nodeV at HCA
  go_wp2_with fail
  refine HCA.out.mono ?_; rintro e w5 ⟨rfl, hg⟩
  clear c36a c36b c36z c37a c37b c37c c37d c37e c37z c38a c38b c38c c38d c38e c38f c38g c38z c39a c39b c39c c39d c39e c39z
  have HB40 := Lf.hide ((hg.block _ (lt_of_blk2 HB31.out) (by simp)).trans HB31.out)
  have HB41 := Lf.hide ((hg.block _ (lt_of_blk2 HB32.out) (by simp)).trans HB32.out)
  have HB42 := Lf.hide ((hg.block _ (lt_of_blk2 HB33.out) (by simp)).trans HB33.out)
  have HB43 := Lf.hide ((hg.block _ (lt_of_blk2 HB34.out) (by simp)).trans HB34.out)
  have HG44 := Lf.hide (Lf.gbt HG35.out hg)
  have c45a := cell0_of HB40.out
  have c45b := cell1_of HB40.out
  have c45z := lt_of_blk2 HB40.out
  clear hg HCA
  go_wp2_with fail
  refine (HU.out _ HG44.out).mono ?_; rintro e w6 ⟨hg, v, rfl, hLv⟩
  obtain ⟨kq, nq, dq, sq, xaq, xlq, xcq, yaq, ylq, ycq, zaq, zlq, zcq, rfl⟩ := hLv.vaV
  clear c45a c45b c45z
  have HB46 := Lf.hide ((hg.block _ (lt_of_blk2 HB40.out) (by simp)).trans HB40.out)
  have HG47 := Lf.hide (Lf.gbt HG44.out hg)
  have HB48 := Lf.hide (heap_keep (o := (.cells #[.int .i64 kq, .int .i64 nq, .int .i64 dq, .string sq, .slice xaq xlq xcq, .slice yaq ylq ycq, .slice zaq zlq zcq] 30)) HB46.out)
  have HB49 := Lf.hide (heap_alloc_new w6 (.cells #[.int .i64 kq, .int .i64 nq, .int .i64 dq, .string sq, .slice xaq xlq xcq, .slice yaq ylq ycq, .slice zaq zlq zcq] 30))
  have HG50 := Lf.hide (Lf.gbt HG47.out (Lf.gb (w := w6) (.cells #[.int .i64 kq, .int .i64 nq, .int .i64 dq, .string sq, .slice xaq xlq xcq, .slice yaq ylq ycq, .slice zaq zlq zcq] 30)))
  have HL6 := Lf.hide (hLv.same (w' := w6.alloc (.cells #[.int .i64 kq, .int .i64 nq, .int .i64 dq, .string sq, .slice xaq xlq xcq, .slice yaq ylq ycq, .slice zaq zlq zcq] 30)) (fun b o _ hlt => World.cell?_of_block (heap_alloc_old (w := w6) (o := _) (h := hlt))))
  clear hg hLv HU
  unfold vaV
  go_wp2_with fail
  refine (HWO.out _).mono ?_; rintro e w7 ⟨rfl, hg⟩
  have HB51 := Lf.hide ((hg.block _ (lt_of_blk2 HB48.out) (by simp)).trans HB48.out)
  have HB52 := Lf.hide ((hg.block _ (lt_of_blk2 HB49.out) (by simp)).trans HB49.out)
  have HG53 := Lf.hide (Lf.gbt HG50.out hg)
  have c54a := cell0_of HB51.out
  have c54b := cell1_of HB51.out
  have c54z := lt_of_blk2 HB51.out
  obtain ⟨c55a, c55b, c55c, c55d, c55e, c55f, c55g⟩ := box7 HB52.out
  have c55z := lt_of_blk2 HB52.out
  have hL7 := HL6.out.same (w' := w7) (fun b o _ hlt => World.cell?_of_block (hg.block b hlt (by simp)))
  have HCP := Lf.hide (HP.out _ _ HG53.out hL7)
  have HL7 := Lf.hide hL7
  clear hg hL7 HL6 HP
  unfold vaV at HCP
  go_wp2_with fail
  refine HCP.out.mono ?_; rintro e w8 ⟨hg, rfl⟩
  clear c54a c54b c54z c55a c55b c55c c55d c55e c55f c55g c55z
  have HB56 := Lf.hide ((hg.block _ (lt_of_blk2 HB51.out) (by simp)).trans HB51.out)
  have HB57 := Lf.hide ((hg.block _ (lt_of_blk2 HB52.out) (by simp)).trans HB52.out)
  have HG58 := Lf.hide (Lf.gbt HG53.out hg)
  have c59a := cell0_of HB56.out
  have c59b := cell1_of HB56.out
  have c59z := lt_of_blk2 HB56.out
  obtain ⟨c60a, c60b, c60c, c60d, c60e, c60f, c60g⟩ := box7 HB57.out
  have c60z := lt_of_blk2 HB57.out
  have HCH2 := Lf.hide (HHY.out _ _ HG58.out (HL7.out.same (w' := w8) (fun b o _ hlt => World.cell?_of_block (hg.block b hlt (by simp)))))
  clear hg HCP HHY HL7
  unfold vaV at HCH2
  go_wp2_with fail
  refine HCH2.out.mono ?_; rintro e w9 ⟨rfl, hg⟩
  clear c59a c59b c59z c60a c60b c60c c60d c60e c60f c60g c60z
  have HG61 := Lf.hide (Lf.gbt HG58.out hg)
  clear hg
  go_wp2_with fail
  go_ret
  exact ⟨rfl, HG61.out⟩

end Go.Proofs.Ytdninmanfncfiad
