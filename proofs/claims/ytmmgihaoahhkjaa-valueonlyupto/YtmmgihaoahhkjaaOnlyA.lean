/- For every type, tree and text whose reading holds at most 1048576 values and letters, ValueOnly returns true and leaves its arguments as they were: what Parse or Unpack reads is of that type and has just that tree, just that text; else they give the empty value. Condition: that bound on the reading. -/
import Derived.Test.YtmmgihaoahhkjaaUnpackM
import Derived.Test.YtmmgihaoahhkjaaTellN
import Derived.Test.YtmmgihaoahhkjaaSameV
import Derived.Test.YtmmgihaoahhkjaaBackA
import Derived.Test.YtmmgihaoahhkjaaAlikes
import Derived.Test.YtmmgihaoahhkjaaTellA
import Derived.Test.YtmmgihaoahhkjaaRows
import Derived.Test.YtmmgihaoahhkjaaOpenA
import Derived.JoinedCond
import Derived.ShutString
namespace Go.Proofs.Ytmmgihaoahhkjaa
set_option maxRecDepth 20000
open Go.ChangeShapes Go.WideShapes Go.ChangeAt Go.RowKit
set_option linter.unusedVariables false

set_option maxRecDepth 100000 in
set_option maxHeartbeats 1000000 in
theorem only_00 {W : World} {t0 : Int} {a : Option Addr} {l c : Nat} {kn nn pn : Int} {sn : ByteArray} {an : Option Addr} {ln cn : Nat} {sv : ByteArray} {x y : Va} {t : Tr}
    (HR : Hid (∀ W2, W.grownBy W2 none → Calls Try.prog 19 #[tyV t0 a l c, nodeV kn nn pn sn an ln cn] W2 fun e w' => W2.grownBy w' none ∧ e = .returned (.tuple #[vaV 0 0 0 ⟨#[]⟩ none 0 0 none 0 0 none 0 0, .int .i64 1])))
    (HU : Hid (∀ W2, W.grownBy W2 none → Calls Try.prog 21 #[tyV t0 a l c, .string sv] W2 fun e w' => W2.grownBy w' none ∧ e = .returned (.tuple #[vaV 0 0 0 ⟨#[]⟩ none 0 0 none 0 0 none 0 0, .int .i64 1])))
    (HS : Hid (∀ W2, W.grownBy W2 none → Calls Try.prog 14 #[vaV 0 0 0 ⟨#[]⟩ none 0 0 none 0 0 none 0 0, vaV 0 0 0 ⟨#[]⟩ none 0 0 none 0 0 none 0 0] W2 fun e w' => e = .returned (.bool true) ∧ W2.grownBy w' none)) :
    Calls Try.prog 6 #[tyV t0 a l c, nodeV kn nn pn sn an ln cn, .string sv] W fun e w' => e = .returned (.bool true) ∧ W.grownBy w' none := by
  have HWO := Lf.hide worth_any
  have HB01 := Lf.hide (res_new W (.cells #[.int .i64 t0, .slice a l c] 24) (.cells #[.int .i64 kn, .int .i64 nn, .int .i64 pn, .string sn, .slice an ln cn] 39))
  have HB02 := Lf.hide (new_twoI W (.cells #[.int .i64 t0, .slice a l c] 24) (.cells #[.int .i64 kn, .int .i64 nn, .int .i64 pn, .string sn, .slice an ln cn] 39))
  have HG00 := Lf.hide (Lf.gbt (Lf.gb (w := W) (.cells #[.int .i64 t0, .slice a l c] 24)) (Lf.gb (.cells #[.int .i64 kn, .int .i64 nn, .int .i64 pn, .string sn, .slice an ln cn] 39)))
  unfold tyV nodeV vaV at *
  go_enter Try.func6, Try.ntmps6
  go_wp2_with fail
  refine (HR.out _ HG00.out).mono ?_; rintro e w1 ⟨hg, rfl⟩
  have HB1 := Lf.hide ((hg.block _ (lt_of_blk2 HB01.out) (by simp)).trans HB01.out)
  have HB2 := Lf.hide ((hg.block _ (lt_of_blk2 HB02.out) (by simp)).trans HB02.out)
  have HG3 := Lf.hide (Lf.gbt HG00.out hg)
  have HB4 := Lf.hide (heap_keep (o := (.cells #[.int .i64 0, .int .i64 0, .int .i64 0, .string ⟨#[]⟩, .slice none 0 0, .slice none 0 0, .slice none 0 0] 28)) HB1.out)
  have HB5 := Lf.hide (heap_keep (o := (.cells #[.int .i64 0, .int .i64 0, .int .i64 0, .string ⟨#[]⟩, .slice none 0 0, .slice none 0 0, .slice none 0 0] 28)) HB2.out)
  have HB6 := Lf.hide (heap_alloc_new w1 (.cells #[.int .i64 0, .int .i64 0, .int .i64 0, .string ⟨#[]⟩, .slice none 0 0, .slice none 0 0, .slice none 0 0] 28))
  have HG7 := Lf.hide (Lf.gbt HG3.out (Lf.gb (w := w1) (.cells #[.int .i64 0, .int .i64 0, .int .i64 0, .string ⟨#[]⟩, .slice none 0 0, .slice none 0 0, .slice none 0 0] 28)))
  clear hg HR
  have c8a := cell0_of HB4.out
  have c8b := cell1_of HB4.out
  have c8z := lt_of_blk2 HB4.out
  go_wp2_with fail
  refine (HU.out _ HG7.out).mono ?_; rintro e w6 ⟨hg, rfl⟩
  clear c8a c8b c8z
  have HG9 := Lf.hide (Lf.gbt HG7.out hg)
  have HGA := Lf.hide (Lf.gbt HG9.out (Lf.gb (w := w6) (.cells #[.int .i64 0, .int .i64 0, .int .i64 0, .string ⟨#[]⟩, .slice none 0 0, .slice none 0 0, .slice none 0 0] 28)))
  clear hg HU
  go_wp2_with fail
  refine (HS.out _ HGA.out).mono ?_; rintro e w7 ⟨rfl, hg⟩
  have HG10 := Lf.hide (Lf.gbt HGA.out hg)
  clear hg
  go_wp2_with fail
  refine (HWO.out _).mono ?_; rintro e w8 ⟨rfl, hg⟩
  have HG11 := Lf.hide (Lf.gbt HG10.out hg)
  clear hg
  go_wp2_with fail
  go_ret
  exact ⟨rfl, HG11.out⟩

set_option maxRecDepth 100000 in
set_option maxHeartbeats 1000000 in
theorem only_01 {W : World} {t0 : Int} {a : Option Addr} {l c : Nat} {kn nn pn : Int} {sn : ByteArray} {an : Option Addr} {ln cn : Nat} {sv : ByteArray} {x y : Va} {t : Tr}
    (HR : Hid (∀ W2, W.grownBy W2 none → Calls Try.prog 19 #[tyV t0 a l c, nodeV kn nn pn sn an ln cn] W2 fun e w' => W2.grownBy w' none ∧ e = .returned (.tuple #[vaV 0 0 0 ⟨#[]⟩ none 0 0 none 0 0 none 0 0, .int .i64 1])))
    (HU : Hid (∀ W2, W.grownBy W2 none → Calls Try.prog 21 #[tyV t0 a l c, .string sv] W2 fun e w' => W2.grownBy w' none ∧ ∃ v, e = .returned (.tuple #[v, .int .i64 0]) ∧ LiesV (fun _ => True) w' y v))
    (HHY : Hid (∀ (W2 : World) (v : Value), W.grownBy W2 none → LiesV (fun _ => True) W2 y v → Calls Try.prog 10 #[tyV t0 a l c, v] W2 fun e w' => e = .returned (.bool true) ∧ W2.grownBy w' none))
    (HP : Hid (∀ (W2 : World) (v : Value), W.grownBy W2 none → LiesV (fun _ => True) W2 y v → Calls Try.prog 20 #[tyV t0 a l c, v] W2 fun e w' => W2.grownBy w' none ∧ e = .returned (.tuple #[.string sv, .int .i64 0]))) :
    Calls Try.prog 6 #[tyV t0 a l c, nodeV kn nn pn sn an ln cn, .string sv] W fun e w' => e = .returned (.bool true) ∧ W.grownBy w' none := by
  have HWO := Lf.hide worth_any
  have HB01 := Lf.hide (res_new W (.cells #[.int .i64 t0, .slice a l c] 24) (.cells #[.int .i64 kn, .int .i64 nn, .int .i64 pn, .string sn, .slice an ln cn] 39))
  have HB02 := Lf.hide (new_twoI W (.cells #[.int .i64 t0, .slice a l c] 24) (.cells #[.int .i64 kn, .int .i64 nn, .int .i64 pn, .string sn, .slice an ln cn] 39))
  have HG00 := Lf.hide (Lf.gbt (Lf.gb (w := W) (.cells #[.int .i64 t0, .slice a l c] 24)) (Lf.gb (.cells #[.int .i64 kn, .int .i64 nn, .int .i64 pn, .string sn, .slice an ln cn] 39)))
  unfold tyV nodeV vaV at *
  go_enter Try.func6, Try.ntmps6
  go_wp2_with fail
  refine (HR.out _ HG00.out).mono ?_; rintro e w1 ⟨hg, rfl⟩
  have HB1 := Lf.hide ((hg.block _ (lt_of_blk2 HB01.out) (by simp)).trans HB01.out)
  have HB2 := Lf.hide ((hg.block _ (lt_of_blk2 HB02.out) (by simp)).trans HB02.out)
  have HG3 := Lf.hide (Lf.gbt HG00.out hg)
  have HB4 := Lf.hide (heap_keep (o := (.cells #[.int .i64 0, .int .i64 0, .int .i64 0, .string ⟨#[]⟩, .slice none 0 0, .slice none 0 0, .slice none 0 0] 28)) HB1.out)
  have HB5 := Lf.hide (heap_keep (o := (.cells #[.int .i64 0, .int .i64 0, .int .i64 0, .string ⟨#[]⟩, .slice none 0 0, .slice none 0 0, .slice none 0 0] 28)) HB2.out)
  have HB6 := Lf.hide (heap_alloc_new w1 (.cells #[.int .i64 0, .int .i64 0, .int .i64 0, .string ⟨#[]⟩, .slice none 0 0, .slice none 0 0, .slice none 0 0] 28))
  have HG7 := Lf.hide (Lf.gbt HG3.out (Lf.gb (w := w1) (.cells #[.int .i64 0, .int .i64 0, .int .i64 0, .string ⟨#[]⟩, .slice none 0 0, .slice none 0 0, .slice none 0 0] 28)))
  clear hg HR
  have c8a := cell0_of HB4.out
  have c8b := cell1_of HB4.out
  have c8z := lt_of_blk2 HB4.out
  go_wp2_with fail
  refine (HU.out _ HG7.out).mono ?_; rintro e w6 ⟨hg, v, rfl, hLv⟩
  obtain ⟨kq, nq, dq, sq, xaq, xlq, xcq, yaq, ylq, ycq, zaq, zlq, zcq, rfl⟩ := hLv.vaV
  clear c8a c8b c8z
  have HB9 := Lf.hide ((hg.block _ (lt_of_blk2 HB4.out) (by simp)).trans HB4.out)
  have HG10 := Lf.hide (Lf.gbt HG7.out hg)
  have HB11 := Lf.hide (heap_keep (o := (.cells #[.int .i64 kq, .int .i64 nq, .int .i64 dq, .string sq, .slice xaq xlq xcq, .slice yaq ylq ycq, .slice zaq zlq zcq] 28)) HB9.out)
  have HB12 := Lf.hide (heap_alloc_new w6 (.cells #[.int .i64 kq, .int .i64 nq, .int .i64 dq, .string sq, .slice xaq xlq xcq, .slice yaq ylq ycq, .slice zaq zlq zcq] 28))
  have HG13 := Lf.hide (Lf.gbt HG10.out (Lf.gb (w := w6) (.cells #[.int .i64 kq, .int .i64 nq, .int .i64 dq, .string sq, .slice xaq xlq xcq, .slice yaq ylq ycq, .slice zaq zlq zcq] 28)))
  have HL6 := Lf.hide (hLv.same (w' := w6.alloc (.cells #[.int .i64 kq, .int .i64 nq, .int .i64 dq, .string sq, .slice xaq xlq xcq, .slice yaq ylq ycq, .slice zaq zlq zcq] 28)) (fun b o _ hlt => World.cell?_of_block (heap_alloc_old (w := w6) (o := _) (h := hlt))))
  clear hg hLv HU
  unfold vaV
  go_wp2_with fail
  refine (HWO.out _).mono ?_; rintro e w7 ⟨rfl, hg⟩
  have HB14 := Lf.hide ((hg.block _ (lt_of_blk2 HB11.out) (by simp)).trans HB11.out)
  have HB15 := Lf.hide ((hg.block _ (lt_of_blk2 HB12.out) (by simp)).trans HB12.out)
  have HG16 := Lf.hide (Lf.gbt HG13.out hg)
  have c17a := cell0_of HB14.out
  have c17b := cell1_of HB14.out
  have c17z := lt_of_blk2 HB14.out
  obtain ⟨c18a, c18b, c18c, c18d, c18e, c18f, c18g⟩ := box7 HB15.out
  have c18z := lt_of_blk2 HB15.out
  have hL7 := HL6.out.same (w' := w7) (fun b o _ hlt => World.cell?_of_block (hg.block b hlt (by simp)))
  have HCP := Lf.hide (HP.out _ _ HG16.out hL7)
  have HL7 := Lf.hide hL7
  clear hg hL7 HL6 HP
  unfold vaV at HCP
  go_wp2_with fail
  refine HCP.out.mono ?_; rintro e w8 ⟨hg, rfl⟩
  clear c17a c17b c17z c18a c18b c18c c18d c18e c18f c18g c18z
  have HB19 := Lf.hide ((hg.block _ (lt_of_blk2 HB14.out) (by simp)).trans HB14.out)
  have HB20 := Lf.hide ((hg.block _ (lt_of_blk2 HB15.out) (by simp)).trans HB15.out)
  have HG21 := Lf.hide (Lf.gbt HG16.out hg)
  have c22a := cell0_of HB19.out
  have c22b := cell1_of HB19.out
  have c22z := lt_of_blk2 HB19.out
  obtain ⟨c23a, c23b, c23c, c23d, c23e, c23f, c23g⟩ := box7 HB20.out
  have c23z := lt_of_blk2 HB20.out
  have HCH2 := Lf.hide (HHY.out _ _ HG21.out (HL7.out.same (w' := w8) (fun b o _ hlt => World.cell?_of_block (hg.block b hlt (by simp)))))
  clear hg HCP HHY HL7
  unfold vaV at HCH2
  go_wp2_with fail
  refine HCH2.out.mono ?_; rintro e w9 ⟨rfl, hg⟩
  clear c22a c22b c22z c23a c23b c23c c23d c23e c23f c23g c23z
  have HG24 := Lf.hide (Lf.gbt HG21.out hg)
  clear hg
  go_wp2_with fail
  go_ret
  exact ⟨rfl, HG24.out⟩

set_option maxRecDepth 100000 in
set_option maxHeartbeats 1000000 in
theorem only_10 {W : World} {t0 : Int} {a : Option Addr} {l c : Nat} {kn nn pn : Int} {sn : ByteArray} {an : Option Addr} {ln cn : Nat} {sv : ByteArray} {x y : Va} {t : Tr}
    (HR : Hid (∀ W2, W.grownBy W2 none → Calls Try.prog 19 #[tyV t0 a l c, nodeV kn nn pn sn an ln cn] W2 fun e w' => W2.grownBy w' none ∧ ∃ v, e = .returned (.tuple #[v, .int .i64 0]) ∧ LiesV (fun _ => True) w' x v))
    (HH : Hid (∀ (W2 : World) (v : Value), W.grownBy W2 none → LiesV (fun _ => True) W2 x v → Calls Try.prog 10 #[tyV t0 a l c, v] W2 fun e w' => e = .returned (.bool true) ∧ W2.grownBy w' none))
    (HK : Hid (∀ (W2 : World), W.grownBy W2 none → Calls Try.prog 22 #[tyV t0 a l c] W2 fun e w' => e = .returned (.bool false) ∧ W2.grownBy w' none))
    (HN : Hid (∀ (W2 : World) (v : Value), W.grownBy W2 none → LiesV (fun _ => True) W2 x v → Calls Try.prog 18 #[tyV t0 a l c, v] W2 fun e w' => W2.grownBy w' none ∧ e = .returned (.tuple #[nodeV 0 0 0 ⟨#[]⟩ none 0 0, .int .i64 5])))
    (HU : Hid (∀ W2, W.grownBy W2 none → Calls Try.prog 21 #[tyV t0 a l c, .string sv] W2 fun e w' => W2.grownBy w' none ∧ e = .returned (.tuple #[vaV 0 0 0 ⟨#[]⟩ none 0 0 none 0 0 none 0 0, .int .i64 1])))
    (HS : Hid (∀ W2, W.grownBy W2 none → Calls Try.prog 14 #[vaV 0 0 0 ⟨#[]⟩ none 0 0 none 0 0 none 0 0, vaV 0 0 0 ⟨#[]⟩ none 0 0 none 0 0 none 0 0] W2 fun e w' => e = .returned (.bool true) ∧ W2.grownBy w' none)) :
    Calls Try.prog 6 #[tyV t0 a l c, nodeV kn nn pn sn an ln cn, .string sv] W fun e w' => e = .returned (.bool true) ∧ W.grownBy w' none := by
  have HWO := Lf.hide worth_any
  have HB01 := Lf.hide (res_new W (.cells #[.int .i64 t0, .slice a l c] 24) (.cells #[.int .i64 kn, .int .i64 nn, .int .i64 pn, .string sn, .slice an ln cn] 39))
  have HB02 := Lf.hide (new_twoI W (.cells #[.int .i64 t0, .slice a l c] 24) (.cells #[.int .i64 kn, .int .i64 nn, .int .i64 pn, .string sn, .slice an ln cn] 39))
  have HG00 := Lf.hide (Lf.gbt (Lf.gb (w := W) (.cells #[.int .i64 t0, .slice a l c] 24)) (Lf.gb (.cells #[.int .i64 kn, .int .i64 nn, .int .i64 pn, .string sn, .slice an ln cn] 39)))
  unfold tyV nodeV vaV at *
  go_enter Try.func6, Try.ntmps6
  go_wp2_with fail
  refine (HR.out _ HG00.out).mono ?_; rintro e w1 ⟨hg, v, rfl, hLv⟩
  obtain ⟨kv, nv, dv, sv, xav, xlv, xcv, yav, ylv, ycv, zav, zlv, zcv, rfl⟩ := hLv.vaV
  have HB1 := Lf.hide ((hg.block _ (lt_of_blk2 HB01.out) (by simp)).trans HB01.out)
  have HB2 := Lf.hide ((hg.block _ (lt_of_blk2 HB02.out) (by simp)).trans HB02.out)
  have HG3 := Lf.hide (Lf.gbt HG00.out hg)
  have c4a := cell0_of HB1.out
  have c4b := cell1_of HB1.out
  have c4z := lt_of_blk2 HB1.out
  obtain ⟨c5a, c5b, c5c, c5d, c5e⟩ := box5 HB2.out
  have c5z := lt_of_blk2 HB2.out
  have HB6 := Lf.hide (heap_keep (o := (.cells #[.int .i64 kv, .int .i64 nv, .int .i64 dv, .string sv, .slice xav xlv xcv, .slice yav ylv ycv, .slice zav zlv zcv] 28)) HB1.out)
  have HB7 := Lf.hide (heap_keep (o := (.cells #[.int .i64 kv, .int .i64 nv, .int .i64 dv, .string sv, .slice xav xlv xcv, .slice yav ylv ycv, .slice zav zlv zcv] 28)) HB2.out)
  have HB8 := Lf.hide (heap_alloc_new w1 (.cells #[.int .i64 kv, .int .i64 nv, .int .i64 dv, .string sv, .slice xav xlv xcv, .slice yav ylv ycv, .slice zav zlv zcv] 28))
  have HG9 := Lf.hide (Lf.gbt HG3.out (Lf.gb (w := w1) (.cells #[.int .i64 kv, .int .i64 nv, .int .i64 dv, .string sv, .slice xav xlv xcv, .slice yav ylv ycv, .slice zav zlv zcv] 28)))
  have hL1 := hLv.same (w' := w1.alloc (.cells #[.int .i64 kv, .int .i64 nv, .int .i64 dv, .string sv, .slice xav xlv xcv, .slice yav ylv ycv, .slice zav zlv zcv] 28)) (fun b o _ hlt => World.cell?_of_block (heap_alloc_old (w := w1) (o := _) (h := hlt)))
  have HCN := Lf.hide (HN.out _ _ HG9.out hL1)
  have HL1 := Lf.hide hL1
  clear hg hLv hL1 HR HN
  unfold vaV at HCN ⊢
  go_wp2_with fail
  refine HCN.out.mono ?_; rintro e w2 ⟨hg, rfl⟩
  clear c4a c4b c4z c5a c5b c5c c5d c5e c5z
  have HB10 := Lf.hide ((hg.block _ (lt_of_blk2 HB6.out) (by simp)).trans HB6.out)
  have HB11 := Lf.hide ((hg.block _ (lt_of_blk2 HB7.out) (by simp)).trans HB7.out)
  have HB12 := Lf.hide ((hg.block _ (lt_of_blk2 HB8.out) (by simp)).trans HB8.out)
  have HG13 := Lf.hide (Lf.gbt HG9.out hg)
  have c14a := cell0_of HB10.out
  have c14b := cell1_of HB10.out
  have c14z := lt_of_blk2 HB10.out
  obtain ⟨c15a, c15b, c15c, c15d, c15e⟩ := box5 HB11.out
  have c15z := lt_of_blk2 HB11.out
  obtain ⟨c16a, c16b, c16c, c16d, c16e, c16f, c16g⟩ := box7 HB12.out
  have c16z := lt_of_blk2 HB12.out
  have HB17 := Lf.hide (heap_keep (o := (.cells #[.int .i64 0, .int .i64 0, .int .i64 0, .string ⟨#[]⟩, .slice none 0 0] 39)) HB10.out)
  have HB18 := Lf.hide (heap_keep (o := (.cells #[.int .i64 0, .int .i64 0, .int .i64 0, .string ⟨#[]⟩, .slice none 0 0] 39)) HB11.out)
  have HB19 := Lf.hide (heap_keep (o := (.cells #[.int .i64 0, .int .i64 0, .int .i64 0, .string ⟨#[]⟩, .slice none 0 0] 39)) HB12.out)
  have HB20 := Lf.hide (heap_alloc_new w2 (.cells #[.int .i64 0, .int .i64 0, .int .i64 0, .string ⟨#[]⟩, .slice none 0 0] 39))
  have HG21 := Lf.hide (Lf.gbt HG13.out (Lf.gb (w := w2) (.cells #[.int .i64 0, .int .i64 0, .int .i64 0, .string ⟨#[]⟩, .slice none 0 0] 39)))
  have hL2 := (HL1.out.same (w' := w2) (fun b o _ hlt => World.cell?_of_block (hg.block b hlt (by simp)))).same (w' := w2.alloc (.cells #[.int .i64 0, .int .i64 0, .int .i64 0, .string ⟨#[]⟩, .slice none 0 0] 39)) (fun b o _ hlt => World.cell?_of_block (heap_alloc_old (w := w2) (o := _) (h := hlt)))
  have HCH := Lf.hide (HH.out _ _ HG21.out hL2)
  clear hg hL2 HCN HH HL1
  unfold vaV at HCH
  unfold nodeV at *
  go_wp2_with fail
  refine HCH.out.mono ?_; rintro e w3 ⟨rfl, hg⟩
  clear c14a c14b c14z c15a c15b c15c c15d c15e c15z c16a c16b c16c c16d c16e c16f c16g c16z
  have HB22 := Lf.hide ((hg.block _ (lt_of_blk2 HB17.out) (by simp)).trans HB17.out)
  have HB23 := Lf.hide ((hg.block _ (lt_of_blk2 HB18.out) (by simp)).trans HB18.out)
  have HB24 := Lf.hide ((hg.block _ (lt_of_blk2 HB19.out) (by simp)).trans HB19.out)
  have HB25 := Lf.hide ((hg.block _ (lt_of_blk2 HB20.out) (by simp)).trans HB20.out)
  have HG26 := Lf.hide (Lf.gbt HG21.out hg)
  have c27a := cell0_of HB22.out
  have c27b := cell1_of HB22.out
  have c27z := lt_of_blk2 HB22.out
  obtain ⟨c28a, c28b, c28c, c28d, c28e⟩ := box5 HB23.out
  have c28z := lt_of_blk2 HB23.out
  obtain ⟨c29a, c29b, c29c, c29d, c29e, c29f, c29g⟩ := box7 HB24.out
  have c29z := lt_of_blk2 HB24.out
  obtain ⟨c30a, c30b, c30c, c30d, c30e⟩ := box5 HB25.out
  have c30z := lt_of_blk2 HB25.out
  clear hg HCH
  go_wp2_with fail
  refine (HK.out _ HG26.out).mono ?_; rintro e w4 ⟨rfl, hg⟩
  clear c27a c27b c27z c28a c28b c28c c28d c28e c28z c29a c29b c29c c29d c29e c29f c29g c29z c30a c30b c30c c30d c30e c30z
  have HB31 := Lf.hide ((hg.block _ (lt_of_blk2 HB22.out) (by simp)).trans HB22.out)
  have HB32 := Lf.hide ((hg.block _ (lt_of_blk2 HB23.out) (by simp)).trans HB23.out)
  have HB33 := Lf.hide ((hg.block _ (lt_of_blk2 HB24.out) (by simp)).trans HB24.out)
  have HB34 := Lf.hide ((hg.block _ (lt_of_blk2 HB25.out) (by simp)).trans HB25.out)
  have HG35 := Lf.hide (Lf.gbt HG26.out hg)
  have c36a := cell0_of HB31.out
  have c36b := cell1_of HB31.out
  have c36z := lt_of_blk2 HB31.out
  obtain ⟨c37a, c37b, c37c, c37d, c37e⟩ := box5 HB32.out
  have c37z := lt_of_blk2 HB32.out
  obtain ⟨c38a, c38b, c38c, c38d, c38e, c38f, c38g⟩ := box7 HB33.out
  have c38z := lt_of_blk2 HB33.out
  obtain ⟨c39a, c39b, c39c, c39d, c39e⟩ := box5 HB34.out
  have c39z := lt_of_blk2 HB34.out
  clear hg HK
  go_wp2_with fail
  refine (HU.out _ HG35.out).mono ?_; rintro e w6 ⟨hg, rfl⟩
  clear c36a c36b c36z c37a c37b c37c c37d c37e c37z c38a c38b c38c c38d c38e c38f c38g c38z c39a c39b c39c c39d c39e c39z
  have HG40 := Lf.hide (Lf.gbt HG35.out hg)
  have HGA := Lf.hide (Lf.gbt HG40.out (Lf.gb (w := w6) (.cells #[.int .i64 0, .int .i64 0, .int .i64 0, .string ⟨#[]⟩, .slice none 0 0, .slice none 0 0, .slice none 0 0] 28)))
  clear hg HU
  go_wp2_with fail
  refine (HS.out _ HGA.out).mono ?_; rintro e w7 ⟨rfl, hg⟩
  have HG41 := Lf.hide (Lf.gbt HGA.out hg)
  clear hg
  go_wp2_with fail
  refine (HWO.out _).mono ?_; rintro e w8 ⟨rfl, hg⟩
  have HG42 := Lf.hide (Lf.gbt HG41.out hg)
  clear hg
  go_wp2_with fail
  go_ret
  exact ⟨rfl, HG42.out⟩

set_option maxRecDepth 100000 in
set_option maxHeartbeats 1000000 in
theorem only_11 {W : World} {t0 : Int} {a : Option Addr} {l c : Nat} {kn nn pn : Int} {sn : ByteArray} {an : Option Addr} {ln cn : Nat} {sv : ByteArray} {x y : Va} {t : Tr}
    (HR : Hid (∀ W2, W.grownBy W2 none → Calls Try.prog 19 #[tyV t0 a l c, nodeV kn nn pn sn an ln cn] W2 fun e w' => W2.grownBy w' none ∧ ∃ v, e = .returned (.tuple #[v, .int .i64 0]) ∧ LiesV (fun _ => True) w' x v))
    (HH : Hid (∀ (W2 : World) (v : Value), W.grownBy W2 none → LiesV (fun _ => True) W2 x v → Calls Try.prog 10 #[tyV t0 a l c, v] W2 fun e w' => e = .returned (.bool true) ∧ W2.grownBy w' none))
    (HK : Hid (∀ (W2 : World), W.grownBy W2 none → Calls Try.prog 22 #[tyV t0 a l c] W2 fun e w' => e = .returned (.bool false) ∧ W2.grownBy w' none))
    (HN : Hid (∀ (W2 : World) (v : Value), W.grownBy W2 none → LiesV (fun _ => True) W2 x v → Calls Try.prog 18 #[tyV t0 a l c, v] W2 fun e w' => W2.grownBy w' none ∧ e = .returned (.tuple #[nodeV 0 0 0 ⟨#[]⟩ none 0 0, .int .i64 5])))
    (HU : Hid (∀ W2, W.grownBy W2 none → Calls Try.prog 21 #[tyV t0 a l c, .string sv] W2 fun e w' => W2.grownBy w' none ∧ ∃ v, e = .returned (.tuple #[v, .int .i64 0]) ∧ LiesV (fun _ => True) w' y v))
    (HHY : Hid (∀ (W2 : World) (v : Value), W.grownBy W2 none → LiesV (fun _ => True) W2 y v → Calls Try.prog 10 #[tyV t0 a l c, v] W2 fun e w' => e = .returned (.bool true) ∧ W2.grownBy w' none))
    (HP : Hid (∀ (W2 : World) (v : Value), W.grownBy W2 none → LiesV (fun _ => True) W2 y v → Calls Try.prog 20 #[tyV t0 a l c, v] W2 fun e w' => W2.grownBy w' none ∧ e = .returned (.tuple #[.string sv, .int .i64 0]))) :
    Calls Try.prog 6 #[tyV t0 a l c, nodeV kn nn pn sn an ln cn, .string sv] W fun e w' => e = .returned (.bool true) ∧ W.grownBy w' none := by
  have HWO := Lf.hide worth_any
  have HB01 := Lf.hide (res_new W (.cells #[.int .i64 t0, .slice a l c] 24) (.cells #[.int .i64 kn, .int .i64 nn, .int .i64 pn, .string sn, .slice an ln cn] 39))
  have HB02 := Lf.hide (new_twoI W (.cells #[.int .i64 t0, .slice a l c] 24) (.cells #[.int .i64 kn, .int .i64 nn, .int .i64 pn, .string sn, .slice an ln cn] 39))
  have HG00 := Lf.hide (Lf.gbt (Lf.gb (w := W) (.cells #[.int .i64 t0, .slice a l c] 24)) (Lf.gb (.cells #[.int .i64 kn, .int .i64 nn, .int .i64 pn, .string sn, .slice an ln cn] 39)))
  unfold tyV nodeV at *
  go_enter Try.func6, Try.ntmps6
  go_wp2_with fail
  refine (HR.out _ HG00.out).mono ?_; rintro e w1 ⟨hg, v, rfl, hLv⟩
  obtain ⟨kv, nv, dv, sv, xav, xlv, xcv, yav, ylv, ycv, zav, zlv, zcv, rfl⟩ := hLv.vaV
  have HB1 := Lf.hide ((hg.block _ (lt_of_blk2 HB01.out) (by simp)).trans HB01.out)
  have HB2 := Lf.hide ((hg.block _ (lt_of_blk2 HB02.out) (by simp)).trans HB02.out)
  have HG3 := Lf.hide (Lf.gbt HG00.out hg)
  have c4a := cell0_of HB1.out
  have c4b := cell1_of HB1.out
  have c4z := lt_of_blk2 HB1.out
  obtain ⟨c5a, c5b, c5c, c5d, c5e⟩ := box5 HB2.out
  have c5z := lt_of_blk2 HB2.out
  have HB6 := Lf.hide (heap_keep (o := (.cells #[.int .i64 kv, .int .i64 nv, .int .i64 dv, .string sv, .slice xav xlv xcv, .slice yav ylv ycv, .slice zav zlv zcv] 28)) HB1.out)
  have HB7 := Lf.hide (heap_keep (o := (.cells #[.int .i64 kv, .int .i64 nv, .int .i64 dv, .string sv, .slice xav xlv xcv, .slice yav ylv ycv, .slice zav zlv zcv] 28)) HB2.out)
  have HB8 := Lf.hide (heap_alloc_new w1 (.cells #[.int .i64 kv, .int .i64 nv, .int .i64 dv, .string sv, .slice xav xlv xcv, .slice yav ylv ycv, .slice zav zlv zcv] 28))
  have HG9 := Lf.hide (Lf.gbt HG3.out (Lf.gb (w := w1) (.cells #[.int .i64 kv, .int .i64 nv, .int .i64 dv, .string sv, .slice xav xlv xcv, .slice yav ylv ycv, .slice zav zlv zcv] 28)))
  have hL1 := hLv.same (w' := w1.alloc (.cells #[.int .i64 kv, .int .i64 nv, .int .i64 dv, .string sv, .slice xav xlv xcv, .slice yav ylv ycv, .slice zav zlv zcv] 28)) (fun b o _ hlt => World.cell?_of_block (heap_alloc_old (w := w1) (o := _) (h := hlt)))
  have HCN := Lf.hide (HN.out _ _ HG9.out hL1)
  have HL1 := Lf.hide hL1
  clear hg hLv hL1 HR HN
  unfold vaV at HCN ⊢
  go_wp2_with fail
  refine HCN.out.mono ?_; rintro e w2 ⟨hg, rfl⟩
  clear c4a c4b c4z c5a c5b c5c c5d c5e c5z
  have HB10 := Lf.hide ((hg.block _ (lt_of_blk2 HB6.out) (by simp)).trans HB6.out)
  have HB11 := Lf.hide ((hg.block _ (lt_of_blk2 HB7.out) (by simp)).trans HB7.out)
  have HB12 := Lf.hide ((hg.block _ (lt_of_blk2 HB8.out) (by simp)).trans HB8.out)
  have HG13 := Lf.hide (Lf.gbt HG9.out hg)
  have c14a := cell0_of HB10.out
  have c14b := cell1_of HB10.out
  have c14z := lt_of_blk2 HB10.out
  obtain ⟨c15a, c15b, c15c, c15d, c15e⟩ := box5 HB11.out
  have c15z := lt_of_blk2 HB11.out
  obtain ⟨c16a, c16b, c16c, c16d, c16e, c16f, c16g⟩ := box7 HB12.out
  have c16z := lt_of_blk2 HB12.out
  have HB17 := Lf.hide (heap_keep (o := (.cells #[.int .i64 0, .int .i64 0, .int .i64 0, .string ⟨#[]⟩, .slice none 0 0] 39)) HB10.out)
  have HB18 := Lf.hide (heap_keep (o := (.cells #[.int .i64 0, .int .i64 0, .int .i64 0, .string ⟨#[]⟩, .slice none 0 0] 39)) HB11.out)
  have HB19 := Lf.hide (heap_keep (o := (.cells #[.int .i64 0, .int .i64 0, .int .i64 0, .string ⟨#[]⟩, .slice none 0 0] 39)) HB12.out)
  have HB20 := Lf.hide (heap_alloc_new w2 (.cells #[.int .i64 0, .int .i64 0, .int .i64 0, .string ⟨#[]⟩, .slice none 0 0] 39))
  have HG21 := Lf.hide (Lf.gbt HG13.out (Lf.gb (w := w2) (.cells #[.int .i64 0, .int .i64 0, .int .i64 0, .string ⟨#[]⟩, .slice none 0 0] 39)))
  have hL2 := (HL1.out.same (w' := w2) (fun b o _ hlt => World.cell?_of_block (hg.block b hlt (by simp)))).same (w' := w2.alloc (.cells #[.int .i64 0, .int .i64 0, .int .i64 0, .string ⟨#[]⟩, .slice none 0 0] 39)) (fun b o _ hlt => World.cell?_of_block (heap_alloc_old (w := w2) (o := _) (h := hlt)))
  have HCH := Lf.hide (HH.out _ _ HG21.out hL2)
  clear hg hL2 HCN HH HL1
  unfold vaV at HCH
  unfold nodeV at *
  go_wp2_with fail
  refine HCH.out.mono ?_; rintro e w3 ⟨rfl, hg⟩
  clear c14a c14b c14z c15a c15b c15c c15d c15e c15z c16a c16b c16c c16d c16e c16f c16g c16z
  have HB22 := Lf.hide ((hg.block _ (lt_of_blk2 HB17.out) (by simp)).trans HB17.out)
  have HB23 := Lf.hide ((hg.block _ (lt_of_blk2 HB18.out) (by simp)).trans HB18.out)
  have HB24 := Lf.hide ((hg.block _ (lt_of_blk2 HB19.out) (by simp)).trans HB19.out)
  have HB25 := Lf.hide ((hg.block _ (lt_of_blk2 HB20.out) (by simp)).trans HB20.out)
  have HG26 := Lf.hide (Lf.gbt HG21.out hg)
  have c27a := cell0_of HB22.out
  have c27b := cell1_of HB22.out
  have c27z := lt_of_blk2 HB22.out
  obtain ⟨c28a, c28b, c28c, c28d, c28e⟩ := box5 HB23.out
  have c28z := lt_of_blk2 HB23.out
  obtain ⟨c29a, c29b, c29c, c29d, c29e, c29f, c29g⟩ := box7 HB24.out
  have c29z := lt_of_blk2 HB24.out
  obtain ⟨c30a, c30b, c30c, c30d, c30e⟩ := box5 HB25.out
  have c30z := lt_of_blk2 HB25.out
  clear hg HCH
  go_wp2_with fail
  refine (HK.out _ HG26.out).mono ?_; rintro e w4 ⟨rfl, hg⟩
  clear c27a c27b c27z c28a c28b c28c c28d c28e c28z c29a c29b c29c c29d c29e c29f c29g c29z c30a c30b c30c c30d c30e c30z
  have HB31 := Lf.hide ((hg.block _ (lt_of_blk2 HB22.out) (by simp)).trans HB22.out)
  have HB32 := Lf.hide ((hg.block _ (lt_of_blk2 HB23.out) (by simp)).trans HB23.out)
  have HB33 := Lf.hide ((hg.block _ (lt_of_blk2 HB24.out) (by simp)).trans HB24.out)
  have HB34 := Lf.hide ((hg.block _ (lt_of_blk2 HB25.out) (by simp)).trans HB25.out)
  have HG35 := Lf.hide (Lf.gbt HG26.out hg)
  have c36a := cell0_of HB31.out
  have c36b := cell1_of HB31.out
  have c36z := lt_of_blk2 HB31.out
  obtain ⟨c37a, c37b, c37c, c37d, c37e⟩ := box5 HB32.out
  have c37z := lt_of_blk2 HB32.out
  obtain ⟨c38a, c38b, c38c, c38d, c38e, c38f, c38g⟩ := box7 HB33.out
  have c38z := lt_of_blk2 HB33.out
  obtain ⟨c39a, c39b, c39c, c39d, c39e⟩ := box5 HB34.out
  have c39z := lt_of_blk2 HB34.out
  clear hg HK
  go_wp2_with fail
  refine (HU.out _ HG35.out).mono ?_; rintro e w6 ⟨hg, v, rfl, hLv⟩
  obtain ⟨kq, nq, dq, sq, xaq, xlq, xcq, yaq, ylq, ycq, zaq, zlq, zcq, rfl⟩ := hLv.vaV
  clear c36a c36b c36z c37a c37b c37c c37d c37e c37z c38a c38b c38c c38d c38e c38f c38g c38z c39a c39b c39c c39d c39e c39z
  have HB40 := Lf.hide ((hg.block _ (lt_of_blk2 HB31.out) (by simp)).trans HB31.out)
  have HG41 := Lf.hide (Lf.gbt HG35.out hg)
  have HB42 := Lf.hide (heap_keep (o := (.cells #[.int .i64 kq, .int .i64 nq, .int .i64 dq, .string sq, .slice xaq xlq xcq, .slice yaq ylq ycq, .slice zaq zlq zcq] 28)) HB40.out)
  have HB43 := Lf.hide (heap_alloc_new w6 (.cells #[.int .i64 kq, .int .i64 nq, .int .i64 dq, .string sq, .slice xaq xlq xcq, .slice yaq ylq ycq, .slice zaq zlq zcq] 28))
  have HG44 := Lf.hide (Lf.gbt HG41.out (Lf.gb (w := w6) (.cells #[.int .i64 kq, .int .i64 nq, .int .i64 dq, .string sq, .slice xaq xlq xcq, .slice yaq ylq ycq, .slice zaq zlq zcq] 28)))
  have HL6 := Lf.hide (hLv.same (w' := w6.alloc (.cells #[.int .i64 kq, .int .i64 nq, .int .i64 dq, .string sq, .slice xaq xlq xcq, .slice yaq ylq ycq, .slice zaq zlq zcq] 28)) (fun b o _ hlt => World.cell?_of_block (heap_alloc_old (w := w6) (o := _) (h := hlt))))
  clear hg hLv HU
  unfold vaV
  go_wp2_with fail
  refine (HWO.out _).mono ?_; rintro e w7 ⟨rfl, hg⟩
  have HB45 := Lf.hide ((hg.block _ (lt_of_blk2 HB42.out) (by simp)).trans HB42.out)
  have HB46 := Lf.hide ((hg.block _ (lt_of_blk2 HB43.out) (by simp)).trans HB43.out)
  have HG47 := Lf.hide (Lf.gbt HG44.out hg)
  have c48a := cell0_of HB45.out
  have c48b := cell1_of HB45.out
  have c48z := lt_of_blk2 HB45.out
  obtain ⟨c49a, c49b, c49c, c49d, c49e, c49f, c49g⟩ := box7 HB46.out
  have c49z := lt_of_blk2 HB46.out
  have hL7 := HL6.out.same (w' := w7) (fun b o _ hlt => World.cell?_of_block (hg.block b hlt (by simp)))
  have HCP := Lf.hide (HP.out _ _ HG47.out hL7)
  have HL7 := Lf.hide hL7
  clear hg hL7 HL6 HP
  unfold vaV at HCP
  go_wp2_with fail
  refine HCP.out.mono ?_; rintro e w8 ⟨hg, rfl⟩
  clear c48a c48b c48z c49a c49b c49c c49d c49e c49f c49g c49z
  have HB50 := Lf.hide ((hg.block _ (lt_of_blk2 HB45.out) (by simp)).trans HB45.out)
  have HB51 := Lf.hide ((hg.block _ (lt_of_blk2 HB46.out) (by simp)).trans HB46.out)
  have HG52 := Lf.hide (Lf.gbt HG47.out hg)
  have c53a := cell0_of HB50.out
  have c53b := cell1_of HB50.out
  have c53z := lt_of_blk2 HB50.out
  obtain ⟨c54a, c54b, c54c, c54d, c54e, c54f, c54g⟩ := box7 HB51.out
  have c54z := lt_of_blk2 HB51.out
  have HCH2 := Lf.hide (HHY.out _ _ HG52.out (HL7.out.same (w' := w8) (fun b o _ hlt => World.cell?_of_block (hg.block b hlt (by simp)))))
  clear hg HCP HHY HL7
  unfold vaV at HCH2
  go_wp2_with fail
  refine HCH2.out.mono ?_; rintro e w9 ⟨rfl, hg⟩
  clear c53a c53b c53z c54a c54b c54c c54d c54e c54f c54g c54z
  have HG55 := Lf.hide (Lf.gbt HG52.out hg)
  clear hg
  go_wp2_with fail
  go_ret
  exact ⟨rfl, HG55.out⟩

set_option maxRecDepth 100000 in
set_option maxHeartbeats 1000000 in
theorem only_20 {W : World} {t0 : Int} {a : Option Addr} {l c : Nat} {kn nn pn : Int} {sn : ByteArray} {an : Option Addr} {ln cn : Nat} {sv : ByteArray} {x y : Va} {t : Tr}
    (HR : Hid (∀ W2, W.grownBy W2 none → Calls Try.prog 19 #[tyV t0 a l c, nodeV kn nn pn sn an ln cn] W2 fun e w' => W2.grownBy w' none ∧ ∃ v, e = .returned (.tuple #[v, .int .i64 0]) ∧ LiesV (fun _ => True) w' x v))
    (HH : Hid (∀ (W2 : World) (v : Value), W.grownBy W2 none → LiesV (fun _ => True) W2 x v → Calls Try.prog 10 #[tyV t0 a l c, v] W2 fun e w' => e = .returned (.bool true) ∧ W2.grownBy w' none))
    (HK : Hid (∀ (W2 : World), W.grownBy W2 none → Calls Try.prog 22 #[tyV t0 a l c] W2 fun e w' => e = .returned (.bool true) ∧ W2.grownBy w' none))
    (HN : Hid (∀ (W2 : World) (v : Value), W.grownBy W2 none → LiesV (fun _ => True) W2 x v → Calls Try.prog 18 #[tyV t0 a l c, v] W2 fun e w' => W2.grownBy w' none ∧ ∃ u, e = .returned (.tuple #[u, .int .i64 0]) ∧ Lies (fun _ => True) w' t u))
    (HA : Hid (∀ (W2 : World) (u : Value), W.grownBy W2 none → Lies (fun _ => True) W2 t u → Calls Try.prog 23 #[u, nodeV kn nn pn sn an ln cn] W2 fun e w' => e = .returned (.bool true) ∧ W2.grownBy w' none))
    (HU : Hid (∀ W2, W.grownBy W2 none → Calls Try.prog 21 #[tyV t0 a l c, .string sv] W2 fun e w' => W2.grownBy w' none ∧ e = .returned (.tuple #[vaV 0 0 0 ⟨#[]⟩ none 0 0 none 0 0 none 0 0, .int .i64 1])))
    (HS : Hid (∀ W2, W.grownBy W2 none → Calls Try.prog 14 #[vaV 0 0 0 ⟨#[]⟩ none 0 0 none 0 0 none 0 0, vaV 0 0 0 ⟨#[]⟩ none 0 0 none 0 0 none 0 0] W2 fun e w' => e = .returned (.bool true) ∧ W2.grownBy w' none)) :
    Calls Try.prog 6 #[tyV t0 a l c, nodeV kn nn pn sn an ln cn, .string sv] W fun e w' => e = .returned (.bool true) ∧ W.grownBy w' none := by
  have HWO := Lf.hide worth_any
  have HB01 := Lf.hide (res_new W (.cells #[.int .i64 t0, .slice a l c] 24) (.cells #[.int .i64 kn, .int .i64 nn, .int .i64 pn, .string sn, .slice an ln cn] 39))
  have HB02 := Lf.hide (new_twoI W (.cells #[.int .i64 t0, .slice a l c] 24) (.cells #[.int .i64 kn, .int .i64 nn, .int .i64 pn, .string sn, .slice an ln cn] 39))
  have HG00 := Lf.hide (Lf.gbt (Lf.gb (w := W) (.cells #[.int .i64 t0, .slice a l c] 24)) (Lf.gb (.cells #[.int .i64 kn, .int .i64 nn, .int .i64 pn, .string sn, .slice an ln cn] 39)))
  unfold tyV nodeV vaV at *
  go_enter Try.func6, Try.ntmps6
  go_wp2_with fail
  refine (HR.out _ HG00.out).mono ?_; rintro e w1 ⟨hg, v, rfl, hLv⟩
  obtain ⟨kv, nv, dv, sv, xav, xlv, xcv, yav, ylv, ycv, zav, zlv, zcv, rfl⟩ := hLv.vaV
  have HB1 := Lf.hide ((hg.block _ (lt_of_blk2 HB01.out) (by simp)).trans HB01.out)
  have HB2 := Lf.hide ((hg.block _ (lt_of_blk2 HB02.out) (by simp)).trans HB02.out)
  have HG3 := Lf.hide (Lf.gbt HG00.out hg)
  have c4a := cell0_of HB1.out
  have c4b := cell1_of HB1.out
  have c4z := lt_of_blk2 HB1.out
  obtain ⟨c5a, c5b, c5c, c5d, c5e⟩ := box5 HB2.out
  have c5z := lt_of_blk2 HB2.out
  have HB6 := Lf.hide (heap_keep (o := (.cells #[.int .i64 kv, .int .i64 nv, .int .i64 dv, .string sv, .slice xav xlv xcv, .slice yav ylv ycv, .slice zav zlv zcv] 28)) HB1.out)
  have HB7 := Lf.hide (heap_keep (o := (.cells #[.int .i64 kv, .int .i64 nv, .int .i64 dv, .string sv, .slice xav xlv xcv, .slice yav ylv ycv, .slice zav zlv zcv] 28)) HB2.out)
  have HB8 := Lf.hide (heap_alloc_new w1 (.cells #[.int .i64 kv, .int .i64 nv, .int .i64 dv, .string sv, .slice xav xlv xcv, .slice yav ylv ycv, .slice zav zlv zcv] 28))
  have HG9 := Lf.hide (Lf.gbt HG3.out (Lf.gb (w := w1) (.cells #[.int .i64 kv, .int .i64 nv, .int .i64 dv, .string sv, .slice xav xlv xcv, .slice yav ylv ycv, .slice zav zlv zcv] 28)))
  have hL1 := hLv.same (w' := w1.alloc (.cells #[.int .i64 kv, .int .i64 nv, .int .i64 dv, .string sv, .slice xav xlv xcv, .slice yav ylv ycv, .slice zav zlv zcv] 28)) (fun b o _ hlt => World.cell?_of_block (heap_alloc_old (w := w1) (o := _) (h := hlt)))
  have HCN := Lf.hide (HN.out _ _ HG9.out hL1)
  have HL1 := Lf.hide hL1
  clear hg hLv hL1 HR HN
  unfold vaV at HCN ⊢
  go_wp2_with fail
  refine HCN.out.mono ?_; rintro e w2 ⟨hg, u, rfl, hLu⟩
  obtain ⟨ku, nu, pu, su, au, lu, cu, rfl⟩ := hLu.nodeV
  clear c4a c4b c4z c5a c5b c5c c5d c5e c5z
  have HB10 := Lf.hide ((hg.block _ (lt_of_blk2 HB6.out) (by simp)).trans HB6.out)
  have HB11 := Lf.hide ((hg.block _ (lt_of_blk2 HB7.out) (by simp)).trans HB7.out)
  have HB12 := Lf.hide ((hg.block _ (lt_of_blk2 HB8.out) (by simp)).trans HB8.out)
  have HG13 := Lf.hide (Lf.gbt HG9.out hg)
  have c14a := cell0_of HB10.out
  have c14b := cell1_of HB10.out
  have c14z := lt_of_blk2 HB10.out
  obtain ⟨c15a, c15b, c15c, c15d, c15e⟩ := box5 HB11.out
  have c15z := lt_of_blk2 HB11.out
  obtain ⟨c16a, c16b, c16c, c16d, c16e, c16f, c16g⟩ := box7 HB12.out
  have c16z := lt_of_blk2 HB12.out
  have HB17 := Lf.hide (heap_keep (o := (.cells #[.int .i64 ku, .int .i64 nu, .int .i64 pu, .string su, .slice au lu cu] 39)) HB10.out)
  have HB18 := Lf.hide (heap_keep (o := (.cells #[.int .i64 ku, .int .i64 nu, .int .i64 pu, .string su, .slice au lu cu] 39)) HB11.out)
  have HB19 := Lf.hide (heap_keep (o := (.cells #[.int .i64 ku, .int .i64 nu, .int .i64 pu, .string su, .slice au lu cu] 39)) HB12.out)
  have HB20 := Lf.hide (heap_alloc_new w2 (.cells #[.int .i64 ku, .int .i64 nu, .int .i64 pu, .string su, .slice au lu cu] 39))
  have HG21 := Lf.hide (Lf.gbt HG13.out (Lf.gb (w := w2) (.cells #[.int .i64 ku, .int .i64 nu, .int .i64 pu, .string su, .slice au lu cu] 39)))
  have hL2 := (HL1.out.same (w' := w2) (fun b o _ hlt => World.cell?_of_block (hg.block b hlt (by simp)))).same (w' := w2.alloc (.cells #[.int .i64 ku, .int .i64 nu, .int .i64 pu, .string su, .slice au lu cu] 39)) (fun b o _ hlt => World.cell?_of_block (heap_alloc_old (w := w2) (o := _) (h := hlt)))
  have HCH := Lf.hide (HH.out _ _ HG21.out hL2)
  have HL2 := Lf.hide (hLu.same (w' := w2.alloc (.cells #[.int .i64 ku, .int .i64 nu, .int .i64 pu, .string su, .slice au lu cu] 39)) (fun b o _ hlt => World.cell?_of_block (heap_alloc_old (w := w2) (o := _) (h := hlt))))
  clear hLu
  clear hg hL2 HCN HH HL1
  unfold vaV at HCH
  unfold nodeV at *
  go_wp2_with fail
  refine HCH.out.mono ?_; rintro e w3 ⟨rfl, hg⟩
  clear c14a c14b c14z c15a c15b c15c c15d c15e c15z c16a c16b c16c c16d c16e c16f c16g c16z
  have HB22 := Lf.hide ((hg.block _ (lt_of_blk2 HB17.out) (by simp)).trans HB17.out)
  have HB23 := Lf.hide ((hg.block _ (lt_of_blk2 HB18.out) (by simp)).trans HB18.out)
  have HB24 := Lf.hide ((hg.block _ (lt_of_blk2 HB19.out) (by simp)).trans HB19.out)
  have HB25 := Lf.hide ((hg.block _ (lt_of_blk2 HB20.out) (by simp)).trans HB20.out)
  have HG26 := Lf.hide (Lf.gbt HG21.out hg)
  have c27a := cell0_of HB22.out
  have c27b := cell1_of HB22.out
  have c27z := lt_of_blk2 HB22.out
  obtain ⟨c28a, c28b, c28c, c28d, c28e⟩ := box5 HB23.out
  have c28z := lt_of_blk2 HB23.out
  obtain ⟨c29a, c29b, c29c, c29d, c29e, c29f, c29g⟩ := box7 HB24.out
  have c29z := lt_of_blk2 HB24.out
  obtain ⟨c30a, c30b, c30c, c30d, c30e⟩ := box5 HB25.out
  have c30z := lt_of_blk2 HB25.out
  have HL3 := Lf.hide (HL2.out.same (w' := w3) (fun b o _ hlt => World.cell?_of_block (hg.block b hlt (by simp))))
  clear HL2
  clear hg HCH
  go_wp2_with fail
  refine (HK.out _ HG26.out).mono ?_; rintro e w4 ⟨rfl, hg⟩
  clear c27a c27b c27z c28a c28b c28c c28d c28e c28z c29a c29b c29c c29d c29e c29f c29g c29z c30a c30b c30c c30d c30e c30z
  have HB31 := Lf.hide ((hg.block _ (lt_of_blk2 HB22.out) (by simp)).trans HB22.out)
  have HB32 := Lf.hide ((hg.block _ (lt_of_blk2 HB23.out) (by simp)).trans HB23.out)
  have HB33 := Lf.hide ((hg.block _ (lt_of_blk2 HB24.out) (by simp)).trans HB24.out)
  have HB34 := Lf.hide ((hg.block _ (lt_of_blk2 HB25.out) (by simp)).trans HB25.out)
  have HG35 := Lf.hide (Lf.gbt HG26.out hg)
  have c36a := cell0_of HB31.out
  have c36b := cell1_of HB31.out
  have c36z := lt_of_blk2 HB31.out
  obtain ⟨c37a, c37b, c37c, c37d, c37e⟩ := box5 HB32.out
  have c37z := lt_of_blk2 HB32.out
  obtain ⟨c38a, c38b, c38c, c38d, c38e, c38f, c38g⟩ := box7 HB33.out
  have c38z := lt_of_blk2 HB33.out
  obtain ⟨c39a, c39b, c39c, c39d, c39e⟩ := box5 HB34.out
  have c39z := lt_of_blk2 HB34.out
  have hL4 := HL3.out.same (w' := w4) (fun b o _ hlt => World.cell?_of_block (hg.block b hlt (by simp)))
  have HCA := Lf.hide (HA.out _ _ HG35.out hL4)
  clear hg hL4 HL3 HA HK
  unfold nodeV at HCA
  go_wp2_with fail
  refine HCA.out.mono ?_; rintro e w5 ⟨rfl, hg⟩
  clear c36a c36b c36z c37a c37b c37c c37d c37e c37z c38a c38b c38c c38d c38e c38f c38g c38z c39a c39b c39c c39d c39e c39z
  have HB40 := Lf.hide ((hg.block _ (lt_of_blk2 HB31.out) (by simp)).trans HB31.out)
  have HB41 := Lf.hide ((hg.block _ (lt_of_blk2 HB32.out) (by simp)).trans HB32.out)
  have HB42 := Lf.hide ((hg.block _ (lt_of_blk2 HB33.out) (by simp)).trans HB33.out)
  have HB43 := Lf.hide ((hg.block _ (lt_of_blk2 HB34.out) (by simp)).trans HB34.out)
  have HG44 := Lf.hide (Lf.gbt HG35.out hg)
  have c45a := cell0_of HB40.out
  have c45b := cell1_of HB40.out
  have c45z := lt_of_blk2 HB40.out
  clear hg HCA
  go_wp2_with fail
  refine (HU.out _ HG44.out).mono ?_; rintro e w6 ⟨hg, rfl⟩
  clear c45a c45b c45z
  have HG46 := Lf.hide (Lf.gbt HG44.out hg)
  have HGA := Lf.hide (Lf.gbt HG46.out (Lf.gb (w := w6) (.cells #[.int .i64 0, .int .i64 0, .int .i64 0, .string ⟨#[]⟩, .slice none 0 0, .slice none 0 0, .slice none 0 0] 28)))
  clear hg HU
  go_wp2_with fail
  refine (HS.out _ HGA.out).mono ?_; rintro e w7 ⟨rfl, hg⟩
  have HG47 := Lf.hide (Lf.gbt HGA.out hg)
  clear hg
  go_wp2_with fail
  refine (HWO.out _).mono ?_; rintro e w8 ⟨rfl, hg⟩
  have HG48 := Lf.hide (Lf.gbt HG47.out hg)
  clear hg
  go_wp2_with fail
  go_ret
  exact ⟨rfl, HG48.out⟩

set_option maxRecDepth 100000 in
set_option maxHeartbeats 1000000 in
theorem only_21 {W : World} {t0 : Int} {a : Option Addr} {l c : Nat} {kn nn pn : Int} {sn : ByteArray} {an : Option Addr} {ln cn : Nat} {sv : ByteArray} {x y : Va} {t : Tr}
    (HR : Hid (∀ W2, W.grownBy W2 none → Calls Try.prog 19 #[tyV t0 a l c, nodeV kn nn pn sn an ln cn] W2 fun e w' => W2.grownBy w' none ∧ ∃ v, e = .returned (.tuple #[v, .int .i64 0]) ∧ LiesV (fun _ => True) w' x v))
    (HH : Hid (∀ (W2 : World) (v : Value), W.grownBy W2 none → LiesV (fun _ => True) W2 x v → Calls Try.prog 10 #[tyV t0 a l c, v] W2 fun e w' => e = .returned (.bool true) ∧ W2.grownBy w' none))
    (HK : Hid (∀ (W2 : World), W.grownBy W2 none → Calls Try.prog 22 #[tyV t0 a l c] W2 fun e w' => e = .returned (.bool true) ∧ W2.grownBy w' none))
    (HN : Hid (∀ (W2 : World) (v : Value), W.grownBy W2 none → LiesV (fun _ => True) W2 x v → Calls Try.prog 18 #[tyV t0 a l c, v] W2 fun e w' => W2.grownBy w' none ∧ ∃ u, e = .returned (.tuple #[u, .int .i64 0]) ∧ Lies (fun _ => True) w' t u))
    (HA : Hid (∀ (W2 : World) (u : Value), W.grownBy W2 none → Lies (fun _ => True) W2 t u → Calls Try.prog 23 #[u, nodeV kn nn pn sn an ln cn] W2 fun e w' => e = .returned (.bool true) ∧ W2.grownBy w' none))
    (HU : Hid (∀ W2, W.grownBy W2 none → Calls Try.prog 21 #[tyV t0 a l c, .string sv] W2 fun e w' => W2.grownBy w' none ∧ ∃ v, e = .returned (.tuple #[v, .int .i64 0]) ∧ LiesV (fun _ => True) w' y v))
    (HHY : Hid (∀ (W2 : World) (v : Value), W.grownBy W2 none → LiesV (fun _ => True) W2 y v → Calls Try.prog 10 #[tyV t0 a l c, v] W2 fun e w' => e = .returned (.bool true) ∧ W2.grownBy w' none))
    (HP : Hid (∀ (W2 : World) (v : Value), W.grownBy W2 none → LiesV (fun _ => True) W2 y v → Calls Try.prog 20 #[tyV t0 a l c, v] W2 fun e w' => W2.grownBy w' none ∧ e = .returned (.tuple #[.string sv, .int .i64 0]))) :
    Calls Try.prog 6 #[tyV t0 a l c, nodeV kn nn pn sn an ln cn, .string sv] W fun e w' => e = .returned (.bool true) ∧ W.grownBy w' none := by
  have HWO := Lf.hide worth_any
  have HB01 := Lf.hide (res_new W (.cells #[.int .i64 t0, .slice a l c] 24) (.cells #[.int .i64 kn, .int .i64 nn, .int .i64 pn, .string sn, .slice an ln cn] 39))
  have HB02 := Lf.hide (new_twoI W (.cells #[.int .i64 t0, .slice a l c] 24) (.cells #[.int .i64 kn, .int .i64 nn, .int .i64 pn, .string sn, .slice an ln cn] 39))
  have HG00 := Lf.hide (Lf.gbt (Lf.gb (w := W) (.cells #[.int .i64 t0, .slice a l c] 24)) (Lf.gb (.cells #[.int .i64 kn, .int .i64 nn, .int .i64 pn, .string sn, .slice an ln cn] 39)))
  unfold tyV nodeV at *
  go_enter Try.func6, Try.ntmps6
  go_wp2_with fail
  refine (HR.out _ HG00.out).mono ?_; rintro e w1 ⟨hg, v, rfl, hLv⟩
  obtain ⟨kv, nv, dv, sv, xav, xlv, xcv, yav, ylv, ycv, zav, zlv, zcv, rfl⟩ := hLv.vaV
  have HB1 := Lf.hide ((hg.block _ (lt_of_blk2 HB01.out) (by simp)).trans HB01.out)
  have HB2 := Lf.hide ((hg.block _ (lt_of_blk2 HB02.out) (by simp)).trans HB02.out)
  have HG3 := Lf.hide (Lf.gbt HG00.out hg)
  have c4a := cell0_of HB1.out
  have c4b := cell1_of HB1.out
  have c4z := lt_of_blk2 HB1.out
  obtain ⟨c5a, c5b, c5c, c5d, c5e⟩ := box5 HB2.out
  have c5z := lt_of_blk2 HB2.out
  have HB6 := Lf.hide (heap_keep (o := (.cells #[.int .i64 kv, .int .i64 nv, .int .i64 dv, .string sv, .slice xav xlv xcv, .slice yav ylv ycv, .slice zav zlv zcv] 28)) HB1.out)
  have HB7 := Lf.hide (heap_keep (o := (.cells #[.int .i64 kv, .int .i64 nv, .int .i64 dv, .string sv, .slice xav xlv xcv, .slice yav ylv ycv, .slice zav zlv zcv] 28)) HB2.out)
  have HB8 := Lf.hide (heap_alloc_new w1 (.cells #[.int .i64 kv, .int .i64 nv, .int .i64 dv, .string sv, .slice xav xlv xcv, .slice yav ylv ycv, .slice zav zlv zcv] 28))
  have HG9 := Lf.hide (Lf.gbt HG3.out (Lf.gb (w := w1) (.cells #[.int .i64 kv, .int .i64 nv, .int .i64 dv, .string sv, .slice xav xlv xcv, .slice yav ylv ycv, .slice zav zlv zcv] 28)))
  have hL1 := hLv.same (w' := w1.alloc (.cells #[.int .i64 kv, .int .i64 nv, .int .i64 dv, .string sv, .slice xav xlv xcv, .slice yav ylv ycv, .slice zav zlv zcv] 28)) (fun b o _ hlt => World.cell?_of_block (heap_alloc_old (w := w1) (o := _) (h := hlt)))
  have HCN := Lf.hide (HN.out _ _ HG9.out hL1)
  have HL1 := Lf.hide hL1
  clear hg hLv hL1 HR HN
  unfold vaV at HCN ⊢
  go_wp2_with fail
  refine HCN.out.mono ?_; rintro e w2 ⟨hg, u, rfl, hLu⟩
  obtain ⟨ku, nu, pu, su, au, lu, cu, rfl⟩ := hLu.nodeV
  clear c4a c4b c4z c5a c5b c5c c5d c5e c5z
  have HB10 := Lf.hide ((hg.block _ (lt_of_blk2 HB6.out) (by simp)).trans HB6.out)
  have HB11 := Lf.hide ((hg.block _ (lt_of_blk2 HB7.out) (by simp)).trans HB7.out)
  have HB12 := Lf.hide ((hg.block _ (lt_of_blk2 HB8.out) (by simp)).trans HB8.out)
  have HG13 := Lf.hide (Lf.gbt HG9.out hg)
  have c14a := cell0_of HB10.out
  have c14b := cell1_of HB10.out
  have c14z := lt_of_blk2 HB10.out
  obtain ⟨c15a, c15b, c15c, c15d, c15e⟩ := box5 HB11.out
  have c15z := lt_of_blk2 HB11.out
  obtain ⟨c16a, c16b, c16c, c16d, c16e, c16f, c16g⟩ := box7 HB12.out
  have c16z := lt_of_blk2 HB12.out
  have HB17 := Lf.hide (heap_keep (o := (.cells #[.int .i64 ku, .int .i64 nu, .int .i64 pu, .string su, .slice au lu cu] 39)) HB10.out)
  have HB18 := Lf.hide (heap_keep (o := (.cells #[.int .i64 ku, .int .i64 nu, .int .i64 pu, .string su, .slice au lu cu] 39)) HB11.out)
  have HB19 := Lf.hide (heap_keep (o := (.cells #[.int .i64 ku, .int .i64 nu, .int .i64 pu, .string su, .slice au lu cu] 39)) HB12.out)
  have HB20 := Lf.hide (heap_alloc_new w2 (.cells #[.int .i64 ku, .int .i64 nu, .int .i64 pu, .string su, .slice au lu cu] 39))
  have HG21 := Lf.hide (Lf.gbt HG13.out (Lf.gb (w := w2) (.cells #[.int .i64 ku, .int .i64 nu, .int .i64 pu, .string su, .slice au lu cu] 39)))
  have hL2 := (HL1.out.same (w' := w2) (fun b o _ hlt => World.cell?_of_block (hg.block b hlt (by simp)))).same (w' := w2.alloc (.cells #[.int .i64 ku, .int .i64 nu, .int .i64 pu, .string su, .slice au lu cu] 39)) (fun b o _ hlt => World.cell?_of_block (heap_alloc_old (w := w2) (o := _) (h := hlt)))
  have HCH := Lf.hide (HH.out _ _ HG21.out hL2)
  have HL2 := Lf.hide (hLu.same (w' := w2.alloc (.cells #[.int .i64 ku, .int .i64 nu, .int .i64 pu, .string su, .slice au lu cu] 39)) (fun b o _ hlt => World.cell?_of_block (heap_alloc_old (w := w2) (o := _) (h := hlt))))
  clear hLu
  clear hg hL2 HCN HH HL1
  unfold vaV at HCH
  unfold nodeV at *
  go_wp2_with fail
  refine HCH.out.mono ?_; rintro e w3 ⟨rfl, hg⟩
  clear c14a c14b c14z c15a c15b c15c c15d c15e c15z c16a c16b c16c c16d c16e c16f c16g c16z
  have HB22 := Lf.hide ((hg.block _ (lt_of_blk2 HB17.out) (by simp)).trans HB17.out)
  have HB23 := Lf.hide ((hg.block _ (lt_of_blk2 HB18.out) (by simp)).trans HB18.out)
  have HB24 := Lf.hide ((hg.block _ (lt_of_blk2 HB19.out) (by simp)).trans HB19.out)
  have HB25 := Lf.hide ((hg.block _ (lt_of_blk2 HB20.out) (by simp)).trans HB20.out)
  have HG26 := Lf.hide (Lf.gbt HG21.out hg)
  have c27a := cell0_of HB22.out
  have c27b := cell1_of HB22.out
  have c27z := lt_of_blk2 HB22.out
  obtain ⟨c28a, c28b, c28c, c28d, c28e⟩ := box5 HB23.out
  have c28z := lt_of_blk2 HB23.out
  obtain ⟨c29a, c29b, c29c, c29d, c29e, c29f, c29g⟩ := box7 HB24.out
  have c29z := lt_of_blk2 HB24.out
  obtain ⟨c30a, c30b, c30c, c30d, c30e⟩ := box5 HB25.out
  have c30z := lt_of_blk2 HB25.out
  have HL3 := Lf.hide (HL2.out.same (w' := w3) (fun b o _ hlt => World.cell?_of_block (hg.block b hlt (by simp))))
  clear HL2
  clear hg HCH
  go_wp2_with fail
  refine (HK.out _ HG26.out).mono ?_; rintro e w4 ⟨rfl, hg⟩
  clear c27a c27b c27z c28a c28b c28c c28d c28e c28z c29a c29b c29c c29d c29e c29f c29g c29z c30a c30b c30c c30d c30e c30z
  have HB31 := Lf.hide ((hg.block _ (lt_of_blk2 HB22.out) (by simp)).trans HB22.out)
  have HB32 := Lf.hide ((hg.block _ (lt_of_blk2 HB23.out) (by simp)).trans HB23.out)
  have HB33 := Lf.hide ((hg.block _ (lt_of_blk2 HB24.out) (by simp)).trans HB24.out)
  have HB34 := Lf.hide ((hg.block _ (lt_of_blk2 HB25.out) (by simp)).trans HB25.out)
  have HG35 := Lf.hide (Lf.gbt HG26.out hg)
  have c36a := cell0_of HB31.out
  have c36b := cell1_of HB31.out
  have c36z := lt_of_blk2 HB31.out
  obtain ⟨c37a, c37b, c37c, c37d, c37e⟩ := box5 HB32.out
  have c37z := lt_of_blk2 HB32.out
  obtain ⟨c38a, c38b, c38c, c38d, c38e, c38f, c38g⟩ := box7 HB33.out
  have c38z := lt_of_blk2 HB33.out
  obtain ⟨c39a, c39b, c39c, c39d, c39e⟩ := box5 HB34.out
  have c39z := lt_of_blk2 HB34.out
  have hL4 := HL3.out.same (w' := w4) (fun b o _ hlt => World.cell?_of_block (hg.block b hlt (by simp)))
  have HCA := Lf.hide (HA.out _ _ HG35.out hL4)
  clear hg hL4 HL3 HA HK
  unfold nodeV at HCA
  go_wp2_with fail
  refine HCA.out.mono ?_; rintro e w5 ⟨rfl, hg⟩
  clear c36a c36b c36z c37a c37b c37c c37d c37e c37z c38a c38b c38c c38d c38e c38f c38g c38z c39a c39b c39c c39d c39e c39z
  have HB40 := Lf.hide ((hg.block _ (lt_of_blk2 HB31.out) (by simp)).trans HB31.out)
  have HB41 := Lf.hide ((hg.block _ (lt_of_blk2 HB32.out) (by simp)).trans HB32.out)
  have HB42 := Lf.hide ((hg.block _ (lt_of_blk2 HB33.out) (by simp)).trans HB33.out)
  have HB43 := Lf.hide ((hg.block _ (lt_of_blk2 HB34.out) (by simp)).trans HB34.out)
  have HG44 := Lf.hide (Lf.gbt HG35.out hg)
  have c45a := cell0_of HB40.out
  have c45b := cell1_of HB40.out
  have c45z := lt_of_blk2 HB40.out
  clear hg HCA
  go_wp2_with fail
  refine (HU.out _ HG44.out).mono ?_; rintro e w6 ⟨hg, v, rfl, hLv⟩
  obtain ⟨kq, nq, dq, sq, xaq, xlq, xcq, yaq, ylq, ycq, zaq, zlq, zcq, rfl⟩ := hLv.vaV
  clear c45a c45b c45z
  have HB46 := Lf.hide ((hg.block _ (lt_of_blk2 HB40.out) (by simp)).trans HB40.out)
  have HG47 := Lf.hide (Lf.gbt HG44.out hg)
  have HB48 := Lf.hide (heap_keep (o := (.cells #[.int .i64 kq, .int .i64 nq, .int .i64 dq, .string sq, .slice xaq xlq xcq, .slice yaq ylq ycq, .slice zaq zlq zcq] 28)) HB46.out)
  have HB49 := Lf.hide (heap_alloc_new w6 (.cells #[.int .i64 kq, .int .i64 nq, .int .i64 dq, .string sq, .slice xaq xlq xcq, .slice yaq ylq ycq, .slice zaq zlq zcq] 28))
  have HG50 := Lf.hide (Lf.gbt HG47.out (Lf.gb (w := w6) (.cells #[.int .i64 kq, .int .i64 nq, .int .i64 dq, .string sq, .slice xaq xlq xcq, .slice yaq ylq ycq, .slice zaq zlq zcq] 28)))
  have HL6 := Lf.hide (hLv.same (w' := w6.alloc (.cells #[.int .i64 kq, .int .i64 nq, .int .i64 dq, .string sq, .slice xaq xlq xcq, .slice yaq ylq ycq, .slice zaq zlq zcq] 28)) (fun b o _ hlt => World.cell?_of_block (heap_alloc_old (w := w6) (o := _) (h := hlt))))
  clear hg hLv HU
  unfold vaV
  go_wp2_with fail
  refine (HWO.out _).mono ?_; rintro e w7 ⟨rfl, hg⟩
  have HB51 := Lf.hide ((hg.block _ (lt_of_blk2 HB48.out) (by simp)).trans HB48.out)
  have HB52 := Lf.hide ((hg.block _ (lt_of_blk2 HB49.out) (by simp)).trans HB49.out)
  have HG53 := Lf.hide (Lf.gbt HG50.out hg)
  have c54a := cell0_of HB51.out
  have c54b := cell1_of HB51.out
  have c54z := lt_of_blk2 HB51.out
  obtain ⟨c55a, c55b, c55c, c55d, c55e, c55f, c55g⟩ := box7 HB52.out
  have c55z := lt_of_blk2 HB52.out
  have hL7 := HL6.out.same (w' := w7) (fun b o _ hlt => World.cell?_of_block (hg.block b hlt (by simp)))
  have HCP := Lf.hide (HP.out _ _ HG53.out hL7)
  have HL7 := Lf.hide hL7
  clear hg hL7 HL6 HP
  unfold vaV at HCP
  go_wp2_with fail
  refine HCP.out.mono ?_; rintro e w8 ⟨hg, rfl⟩
  clear c54a c54b c54z c55a c55b c55c c55d c55e c55f c55g c55z
  have HB56 := Lf.hide ((hg.block _ (lt_of_blk2 HB51.out) (by simp)).trans HB51.out)
  have HB57 := Lf.hide ((hg.block _ (lt_of_blk2 HB52.out) (by simp)).trans HB52.out)
  have HG58 := Lf.hide (Lf.gbt HG53.out hg)
  have c59a := cell0_of HB56.out
  have c59b := cell1_of HB56.out
  have c59z := lt_of_blk2 HB56.out
  obtain ⟨c60a, c60b, c60c, c60d, c60e, c60f, c60g⟩ := box7 HB57.out
  have c60z := lt_of_blk2 HB57.out
  have HCH2 := Lf.hide (HHY.out _ _ HG58.out (HL7.out.same (w' := w8) (fun b o _ hlt => World.cell?_of_block (hg.block b hlt (by simp)))))
  clear hg HCP HHY HL7
  unfold vaV at HCH2
  go_wp2_with fail
  refine HCH2.out.mono ?_; rintro e w9 ⟨rfl, hg⟩
  clear c59a c59b c59z c60a c60b c60c c60d c60e c60f c60g c60z
  have HG61 := Lf.hide (Lf.gbt HG58.out hg)
  clear hg
  go_wp2_with fail
  go_ret
  exact ⟨rfl, HG61.out⟩

end Go.Proofs.Ytmmgihaoahhkjaa

/- For every type, tree and text whose reading holds at most 1048576 values and letters, ValueOnly returns true and leaves its arguments as they were: what Parse or Unpack reads is of that type and has just that tree, just that text; else they give the empty value. Condition: that bound on the reading. -/
namespace Go.Proofs.Ytmmgihaoahhkjaa.valueOnly
open Go.ChangeShapes Go.WideShapes Go.ChangeAt Go.RowKit
open Go.ChangeMaps (open_string shut_string)
set_option linter.unusedVariables false

theorem decode_goodU {l : List UInt8} {t : Tr} (h : pDecode l = .ok t) : goodF t = 0 ∧ encTr t = l := by
  unfold pDecode at h
  cases hq : pNode 24 0 l with
  | error e => rw [hq] at h; simp at h
  | ok r =>
    obtain ⟨t', n', l'⟩ := r
    rw [hq] at h
    simp only at h
    by_cases hl' : l' = []
    · rw [if_pos hl'] at h
      injection h with h
      subst h; subst hl'
      obtain ⟨a1, a2, a3, a4⟩ := pNode_sound 24 (by omega) 0 l t' n' [] (by omega) hq
      rw [show 25 - 24 = 1 from rfl] at a4
      refine ⟨?_, by rw [a1]; simp⟩
      unfold goodF
      rw [if_neg (by simpa using a4), if_neg (by omega)]
    · rw [if_neg hl'] at h; simp at h

theorem parse_parts {T : Ty} {t : Tr} {x : Va} (h : parseF T t = some x) : goodTy T = true ∧ goodF t = 0 ∧ readT t T = some x ∧ hasF T x = true ∧ x.size ≤ 20000000 := by
  unfold parseF at h
  split at h
  · rename_i hh
    cases hr : readT t T with
    | none => rw [hr] at h; cases h
    | some x' =>
      rw [hr] at h
      simp only at h
      split at h
      · rename_i h2
        simp only [Option.some.injEq] at h
        subst h
        have h3 := readT_size t T x' hr
        have h4 := (goodF_zero hh.2).2
        exact ⟨hh.1, hh.2, rfl, h2, by omega⟩
      · cases h
  · cases h

/-- what was read of a type that can be told has just that tree -/
theorem only_tree {T : Ty} {t : Tr} {x : Va} (h : parseF T t = some x) (hp : packT T = true) : canF T x = true ∧ toldF x = t ∧ goodF (toldF x) = 0 := by
  obtain ⟨h1, h2, h3, h4, _⟩ := parse_parts h
  have hc : canF T x = true := by unfold canF; rw [h4, hp]; rfl
  obtain ⟨_, h5, _⟩ := can_parts hc
  have hf := (goodTy_formed h1).1
  have hd := read_only t T x 1 1 h3 hf (goodF_zero h2).1
  obtain ⟨k1, k2, _⟩ := told_good h5 hp hf
  rw [hd] at k1 k2
  have hg : goodF (toldF x) = 0 := by rw [k1, h2]
  exact ⟨hc, k2 hg, hg⟩

theorem unpack_parts {T : Ty} {l : List UInt8} {y : Va} (h : unpackF T l = some y) : ∃ r t, l = 5 :: r ∧ r.length ≤ 199 ∧ pDecode r = .ok t ∧ parseF T t = some y ∧ packT T = true := by
  cases l with
  | nil => rw [unpackF] at h; cases h
  | cons b r =>
    by_cases hb : b = 5 ∧ r.length ≤ 199
    · obtain ⟨rfl, hr⟩ := hb
      cases hd : pDecode r with
      | error er => rw [unpackF_err hr hd] at h; cases h
      | ok t =>
        cases hp : parseF T t with
        | none => rw [unpackF_none hr hd hp] at h; cases h
        | some x =>
          rw [unpackF_some hr hd hp] at h
          split at h
          · rename_i hk
            simp only [Option.some.injEq] at h
            subst h
            exact ⟨r, t, rfl, hr, hd, hp, hk⟩
          · cases h
    · rw [unpackF_no hb] at h; cases h

theorem liesV_zero (W : World) : LiesV (fun _ => True) W (leafVa 0 0 ⟨#[]⟩ []) (vaV 0 0 0 ⟨#[]⟩ none 0 0 none 0 0 none 0 0) := liesV_leaf (ys := []) (V := fun _ => .int .i64 0) ⟨by omega, by omega⟩ ⟨by omega, by omega⟩ (Nat.zero_le _) (RowVa.nil _ _ _ _) (Nat.le_refl _)

theorem walk {w : World} {T : Ty} {t : Tr} {tv nv : Value} (hT0 : LiesT (· < w.heap.size) w T tv) (hL0 : Lies (· < w.heap.size) w t nv) (l : List UInt8) (hz : t.size ≤ 1048576) (hl : l.length ≤ 1048576) :
    Calls Try.prog 6 #[tv, nv, .string ⟨l.toArray⟩] w fun e w' => e = .returned (.bool true) ∧ w.grownBy w' none := by
  have hT : LiesT (fun _ => True) w T tv := hT0.okMono fun _ _ _ => trivial
  have hL : Lies (fun _ => True) w t nv := hL0.okMono fun _ _ _ => trivial
  have hTW : ∀ W2, w.grownBy W2 none → LiesT (fun _ => True) W2 T tv := fun W2 hg => LiesT.same hT (sameAll hg)
  have hLW : ∀ W2, w.grownBy W2 none → Lies (fun _ => True) W2 t nv := fun W2 hg => hL.same (sameAll hg)
  have hHas : ∀ x, hasF T x = true → x.size ≤ 20000000 → ∀ (W2 : World) (v : Value), w.grownBy W2 none → LiesV (fun _ => True) W2 x v → Calls Try.prog 10 #[tv, v] W2 fun e w' => e = .returned (.bool true) ∧ W2.grownBy w' none := fun x hx hzx W2 v hg hv => by
    have h := has_any (hTW W2 hg) hv hzx W2 (grow_refl _ _)
    rw [hx] at h
    exact h
  have hS : ∀ W2, w.grownBy W2 none → Calls Try.prog 14 #[vaV 0 0 0 ⟨#[]⟩ none 0 0 none 0 0 none 0 0, vaV 0 0 0 ⟨#[]⟩ none 0 0 none 0 0 none 0 0] W2 fun e w' => e = .returned (.bool true) ∧ W2.grownBy w' none := fun W2 hg => by
    have hp : Plain (leafVa 0 0 ⟨#[]⟩ []) := .mk (fun x hx => by simp at hx)
    have h := sameV_any (liesV_zero W2) (liesV_zero W2) hp hp (by decide) W2 (grow_refl _ _)
    rw [sbs_self, decide_eq_true rfl] at h
    exact h
  have hU : ∀ W2, w.grownBy W2 none → Calls Try.prog 21 #[tv, .string ⟨l.toArray⟩] W2 (UnpackPost T l W2) := fun W2 hg => unpack_any (hTW W2 hg) l (by omega) (fun r t hd => (goodF_zero (decode_goodU hd).1).2)
  have hR : ∀ W2, w.grownBy W2 none → Calls Try.prog 19 #[tv, nv] W2 (ParsePost T t W2) := fun W2 hg => parse_any (hTW W2 hg) (hLW W2 hg) (by omega)
  have hU0 : unpackF T l = none → ∀ W2, w.grownBy W2 none → Calls Try.prog 21 #[tv, .string ⟨l.toArray⟩] W2 fun e w' => W2.grownBy w' none ∧ e = .returned (.tuple #[vaV 0 0 0 ⟨#[]⟩ none 0 0 none 0 0 none 0 0, .int .i64 1]) := fun hn W2 hg => (hU W2 hg).mono fun e w' h => by
    rcases h.2 with ⟨x, v, h1, _⟩ | ⟨_, h1⟩
    · rw [hn] at h1; cases h1
    · exact ⟨h.1, h1⟩
  have hU1 : ∀ y, unpackF T l = some y → ∀ W2, w.grownBy W2 none → Calls Try.prog 21 #[tv, .string ⟨l.toArray⟩] W2 fun e w' => W2.grownBy w' none ∧ ∃ v, e = .returned (.tuple #[v, .int .i64 0]) ∧ LiesV (fun _ => True) w' y v := fun y hn W2 hg => (hU W2 hg).mono fun e w' h => by
    rcases h.2 with ⟨x, v, h1, h2, h3⟩ | ⟨h1, _⟩
    · rw [hn] at h1
      obtain rfl := Option.some.inj h1
      exact ⟨h.1, v, h2, h3⟩
    · rw [hn] at h1; cases h1
  have hP1 : ∀ y, unpackF T l = some y → (hasF T y = true ∧ y.size ≤ 20000000) ∧ ∀ (W2 : World) (v : Value), w.grownBy W2 none → LiesV (fun _ => True) W2 y v → Calls Try.prog 20 #[tv, v] W2 fun e w' => W2.grownBy w' none ∧ e = .returned (.tuple #[.string ⟨l.toArray⟩, .int .i64 0]) := fun y hn => by
    obtain ⟨r, t', rfl, hr, hd, hp, hk⟩ := unpack_parts hn
    obtain ⟨_, _, _, hh, hzy⟩ := parse_parts hp
    obtain ⟨hc, htd, hg0⟩ := only_tree hp hk
    have hen := (decode_goodU hd).2
    refine ⟨⟨hh, hzy⟩, fun W2 v hg hv => (pack_any (hTW W2 hg) hv hzy).mono fun e w' h => ?_⟩
    rcases h with ⟨h1, _⟩ | ⟨_, h⟩
    · rw [hc] at h1; cases h1
    · unfold ToldPost at h
      rw [htd, hen] at h
      rcases h.2 with ⟨h1, _⟩ | ⟨_, h1, _⟩ | ⟨_, _, h1⟩
      · rw [htd] at hg0; exact absurd hg0 h1
      · omega
      · exact ⟨h.1, h1⟩
  obtain ⟨a, c, VT, rfl, it, hRT⟩ := hT.inv
  obtain ⟨kn, nn, pn, sn, an, ln, cn, rfl⟩ := hL.nodeV
  cases hpf : parseF T t with
  | none =>
    have hR0 : ∀ W2, w.grownBy W2 none → Calls Try.prog 19 #[tyV T.t a T.args.length c, nodeV kn nn pn sn an ln cn] W2 fun e w' => W2.grownBy w' none ∧ e = .returned (.tuple #[vaV 0 0 0 ⟨#[]⟩ none 0 0 none 0 0 none 0 0, .int .i64 1]) := fun W2 hg => (hR W2 hg).mono fun e w' h => by
      rcases h.2 with ⟨x, v, h1, _⟩ | ⟨_, h1⟩
      · rw [hpf] at h1; cases h1
      · exact ⟨h.1, h1⟩
    cases hu : unpackF T l with
    | none => exact only_00 (x := leafVa 0 0 ⟨#[]⟩ []) (y := leafVa 0 0 ⟨#[]⟩ []) (t := t) hR0 (hU0 hu) hS
    | some y => exact only_01 (x := leafVa 0 0 ⟨#[]⟩ []) (t := t) hR0 (hU1 y hu) (hHas y (hP1 y hu).1.1 (hP1 y hu).1.2) (hP1 y hu).2
  | some x =>
    obtain ⟨g1, g2, g3, g4, g5⟩ := parse_parts hpf
    have hTs : T.size ≤ 50000000 := by have := (goodTy_formed g1).2.1; omega
    have hR1 : ∀ W2, w.grownBy W2 none → Calls Try.prog 19 #[tyV T.t a T.args.length c, nodeV kn nn pn sn an ln cn] W2 fun e w' => W2.grownBy w' none ∧ ∃ v, e = .returned (.tuple #[v, .int .i64 0]) ∧ LiesV (fun _ => True) w' x v := fun W2 hg => (hR W2 hg).mono fun e w' h => by
      rcases h.2 with ⟨x', v, h1, h2, h3⟩ | ⟨h1, _⟩
      · rw [hpf] at h1
        obtain rfl := Option.some.inj h1
        exact ⟨h.1, v, h2, h3.okMono fun _ _ _ => trivial⟩
      · rw [hpf] at h1; cases h1
    have hK : ∀ W2, w.grownBy W2 none → Calls Try.prog 22 #[tyV T.t a T.args.length c] W2 fun e w' => e = .returned (.bool (packT T)) ∧ W2.grownBy w' none := fun W2 hg => packed_any (LiesT.up hT hg) hTs
    have hN : ∀ (W2 : World) (v : Value), w.grownBy W2 none → LiesV (fun _ => True) W2 x v → Calls Try.prog 18 #[tyV T.t a T.args.length c, v] W2 (VNodePost T x W2) := fun W2 v hg hv => vnode_any (hTW W2 hg) hv g5
    cases hk : packT T with
    | false =>
      rw [hk] at hK
      have hcf : canF T x = false := by unfold canF; rw [hk]; simp
      have hN1 : ∀ (W2 : World) (v : Value), w.grownBy W2 none → LiesV (fun _ => True) W2 x v → Calls Try.prog 18 #[tyV T.t a T.args.length c, v] W2 fun e w' => W2.grownBy w' none ∧ e = .returned (.tuple #[nodeV 0 0 0 ⟨#[]⟩ none 0 0, .int .i64 5]) := fun W2 v hg hv => (hN W2 v hg hv).mono fun e w' h => by
        rcases h.2 with ⟨_, h1⟩ | ⟨h1, _⟩ | ⟨h1, _⟩
        · exact ⟨h.1, h1⟩
        · rw [hcf] at h1; cases h1
        · rw [hcf] at h1; cases h1
      cases hu : unpackF T l with
      | none => exact only_10 (x := x) (y := x) (t := t) hR1 (hHas x g4 g5) hK hN1 (hU0 hu) hS
      | some y => exact only_11 (x := x) (t := t) hR1 (hHas x g4 g5) hK hN1 (hU1 y hu) (hHas y (hP1 y hu).1.1 (hP1 y hu).1.2) (hP1 y hu).2
    | true =>
      rw [hk] at hK
      obtain ⟨hc, htd, hg0⟩ := only_tree hpf hk
      have hN2 : ∀ (W2 : World) (v : Value), w.grownBy W2 none → LiesV (fun _ => True) W2 x v → Calls Try.prog 18 #[tyV T.t a T.args.length c, v] W2 fun e w' => W2.grownBy w' none ∧ ∃ u, e = .returned (.tuple #[u, .int .i64 0]) ∧ Lies (fun _ => True) w' t u := fun W2 v hg hv => (hN W2 v hg hv).mono fun e w' h => by
        rcases h.2 with ⟨h1, _⟩ | ⟨_, h1, _⟩ | ⟨_, _, u, h1, h2⟩
        · rw [hc] at h1; cases h1
        · exact absurd hg0 h1
        · rw [htd] at h2; exact ⟨h.1, u, h1, h2.okMono fun _ _ _ => trivial⟩
      have hA : ∀ (W2 : World) (u : Value), w.grownBy W2 none → Lies (fun _ => True) W2 t u → Calls Try.prog 23 #[u, nodeV kn nn pn sn an ln cn] W2 fun e w' => e = .returned (.bool true) ∧ W2.grownBy w' none := fun W2 u hg hu => alike_any hu _ W2 (grow_refl _ _) (hLW W2 hg)
      cases hu : unpackF T l with
      | none => exact only_20 (x := x) (y := x) (t := t) hR1 (hHas x g4 g5) hK hN2 hA (hU0 hu) hS
      | some y => exact only_21 (x := x) (t := t) hR1 (hHas x g4 g5) hK hN2 hA (hU1 y hu) (hHas y (hP1 y hu).1.1 (hP1 y hu).1.2) (hP1 y hu).2

theorem own : ownKnob Try.prog.godebug = none := by kernel_rfl
theorem laidOut : laidOutB Try.prog = true := by kernel_rfl

theorem below_of {w w' : World} (h : w.grownBy w' none) : Below w.heap.size w w' := ⟨h.os, h.tape, h.output, h.size, fun k hk => h.block k hk (by simp)⟩

set_option maxRecDepth 100000 in
theorem contract (H : Type) (enc : TypeId × Value → H) (W : World) (base : Nat) (args : Array Value) (ds gs : List (DataW H)) (before : List MemPlace)
    (hval : ∀ (j : Nat) t v, Try.f6.params[j]? = some t → args[j]? = some v → Value.okWide Try.prog W .any base t v)
    (hW : DataW.Whole enc Try.prog Try.f6.params.toList Rows.valueOnlySpec.vars false W args.toList ds gs before) (hk : Rows.uptoSmall H (ds ++ gs) = true) :
    Calls Try.prog 6 args W fun e W' => ∃ v, e = .returned v ∧ Rows.valueOnlySpec.post enc Try.prog Try.f6 false true false false W args v W' := by
  have hW' := hW
  obtain ⟨p, q, hA0, hV, rfl, hfz, hnd⟩ := hW
  have hA : DataW.TrodAll enc Try.prog W 0 (fun _ => true) true Try.f6.params.toList args.toList ds p := hA0
  rw [Try.params6] at hA hval
  obtain ⟨v0, vs0, d0, ds0, p0, q0, hargs, rfl, rfl, h0, r0⟩ := trodAll_cons hA
  obtain ⟨v1, vs1, d1, ds1, p1, q1, hargs1, rfl, rfl, h1, r1⟩ := trodAll_cons r0
  obtain ⟨v2, vs2, d2, ds2, p2, q2, hargs2, rfl, rfl, h2, r2⟩ := trodAll_cons r1
  obtain ⟨rfl, rfl, rfl⟩ := trodAll_nil r2
  obtain rfl : args = #[v0, v1, v2] := by cases args; simp_all
  obtain ⟨rfl, rfl⟩ := trodVars_none hV
  have hb := of_decide_eq_true hk
  simp only [List.append_nil, Rows.uptoBulkAll] at hb
  obtain ⟨t, hL, hs⟩ := open_argT (hval 0 24 v0 rfl rfl) h0
  obtain ⟨x1, hL1, hs1⟩ := open_arg (hval 1 39 v1 rfl rfl) h1
  obtain ⟨a0, rfl, rfl, rfl, w0⟩ := open_string Try.underlying9 (hval 2 9 v2 rfl rfl) h2
  clear hA0
  simp only [List.append_nil] at hW'
  have hlt0 : ∀ x ∈ p0, x.block < W.heap.size := fun x hx => hW'.lt x (by simp [hx])
  have hlt1 : ∀ x ∈ p1, x.block < W.heap.size := fun x hx => hW'.lt x (by simp [hx])
  have hwalk := walk hL hL1 a0.data.toList (by omega) (by simp only [Rows.uptoBulk] at hb; omega)
  rw [show (⟨a0.data.toList.toArray⟩ : ByteArray) = a0 from by simp] at hwalk
  refine hwalk.mono fun e W' ⟨he, hg⟩ => ?_
  subst he
  have hB := below_of hg
  exact ⟨_, rfl, _, _, _, [], p0 ++ (p1 ++ ([] ++ [])), [], hW', trodAll_cons_mk (shut_bool Try.underlying4 _) trodAll_mk0, trodAll_cons_mk (Below.trod laidOut (by kernel_rfl) (of_decide_eq_true (by kernel_rfl)) h0 hB hlt0) (trodAll_cons_mk (Below.trod laidOut (by kernel_rfl) (of_decide_eq_true (by kernel_rfl)) h1 hB hlt1) (trodAll_cons_mk (shut_string Try.underlying9 w0) trodAll_mk0)), rfl, hB.frame _, fun h => by cases h⟩

set_option maxRecDepth 100000 in
theorem lifted (os : Os) (started : os.Started) (H : Type) (enc : TypeId × Value → H) (F : Stop.Interp) :
    ReturnsInHanded {} Try.checked os 6 .any ((Rows.OpenSpec.upto Rows.valueOnlySpec).pre6 enc Try.prog Try.f6 Rows.valueOnlyUptoRow.domain false) (((Rows.OpenSpec.upto Rows.valueOnlySpec).at F).post enc Try.prog Try.f6 false true false false) := by
  refine returnsInHanded_of_cond (C := Try.checked) (s := Rows.OpenSpec.upto Rows.valueOnlySpec) (k := Rows.uptoSmall) rfl own started (by kernel_rfl) Try.func6
    (OpenSpec.witness (enc := enc) (C := Try.checked) (s := Rows.OpenSpec.upto Rows.valueOnlySpec) (k := Rows.uptoSmall) rfl false ⟨#[], #[.agg #[.int .i64 0, .slice none 0 0], .agg #[.int .i64 0, .int .i64 0, .int .i64 0, .string .empty, .slice none 0 0], .string .empty], []⟩ 8 (by kernel_rfl) (by kernel_rfl) (by kernel_rfl)
      (x := ([.agg [.lit (.int .i64 0), .nil], .agg [.lit (.int .i64 0), .lit (.int .i64 0), .lit (.int .i64 0), .lit (.string []), .nil], .lit (.string [])], [], [])) (by kernel_rfl) rfl (by kernel_rfl)) ?_
  intro W base args ds gs before hval hW _ hk _
  exact contract H enc W base args ds gs before hval hW hk

theorem over : Rows.valueOnlyUptoRow.holds Try.pinned (Rows.OpenSpec.upto Rows.valueOnlySpec) :=
  OpenClaim.holds_of_cond 6 Try.f6 rfl rfl rfl rfl rfl rfl rfl ⟨rfl, rfl, rfl, rfl, rfl⟩ rfl rfl rfl rfl rfl (by kernel_rfl) Try.func6 (by kernel_rfl)
    (of_decide_eq_true (by kernel_rfl)) (by unfold Func.isWrapper; first | (rw [if_pos (by decide +kernel)]; kernel_rfl) | (rw [if_neg (by decide +kernel)]; exact ⟨rfl, rfl⟩))
    (fun os started H enc _ F => lifted os started H enc F)

end Go.Proofs.Ytmmgihaoahhkjaa.valueOnly

namespace Go.Proofs.Ytmmgihaoahhkjaa
theorem valueOnly_holds : Rows.ValueOnlyUptoSaid := valueOnly.over
#print axioms valueOnly_holds
end Go.Proofs.Ytmmgihaoahhkjaa
