/- Does value answer at all: worth by its contract. -/
import Derived.Test.YtmmgihaoahhkjaaHasL
import Derived.Test.YtmmgihaoahhkjaaTreeA
import Derived.Deep.RegionHeld3
import Derived.Deep.DeepCutAuto
namespace Go.Proofs.Ytmmgihaoahhkjaa
open Go.ChangeShapes Go.WideShapes Go.ChangeAt Go.RowKit
set_option linter.unusedVariables false

set_option maxRecDepth 100000 in
theorem read4_any (W : World) : Calls Try.prog 47 #[tyV 4 none 0 0, nodeV 0 5 0 ⟨#[]⟩ none 0 0] W fun e w' => e = .returned (.tuple #[vaV 4 5 0 ⟨#[]⟩ none 0 0 none 0 0 none 0 0, .bool true]) ∧ W.grownBy w' none := by
  unfold tyV nodeV
  go_enter Try.func47, Try.ntmps47
  go_wp2_with fail
  go_region_with (fail)
  all_goals
    go_wp2_with fail
    have hb' : ((((W.alloc (.cells #[.int .i64 4, .slice none 0 0] 24)).alloc (.cells #[.int .i64 0, .int .i64 5, .int .i64 0, .string ⟨#[]⟩, .slice none 0 0] 39)).alloc (.cells #[.int .i64 4, .int .i64 5, .int .i64 0, .string ⟨#[]⟩, .slice none 0 0, .slice none 0 0, .slice none 0 0] 28)).alloc (.cells #[.int .i64 4, .int .i64 5, .int .i64 0, .string ⟨#[]⟩, .slice none 0 0, .slice none 0 0, .slice none 0 0] 28)).drew.heap[W.heap.size + 1 + 1]? = some (.cells #[.int .i64 4, .int .i64 5, .int .i64 0, .string ⟨#[]⟩, .slice none 0 0, .slice none 0 0, .slice none 0 0] 28) := new_3of4 _ _ _ _ _
    have hg' : W.grownBy ((((W.alloc (.cells #[.int .i64 4, .slice none 0 0] 24)).alloc (.cells #[.int .i64 0, .int .i64 5, .int .i64 0, .string ⟨#[]⟩, .slice none 0 0] 39)).alloc (.cells #[.int .i64 4, .int .i64 5, .int .i64 0, .string ⟨#[]⟩, .slice none 0 0, .slice none 0 0, .slice none 0 0] 28)).alloc (.cells #[.int .i64 4, .int .i64 5, .int .i64 0, .string ⟨#[]⟩, .slice none 0 0, .slice none 0 0, .slice none 0 0] 28)).drew none := grow_drew (Lf.gbt (Lf.gbt (Lf.gbt (Lf.gb _) (Lf.gb _)) (Lf.gb _)) (Lf.gb _))
    generalize ((((W.alloc (.cells #[.int .i64 4, .slice none 0 0] 24)).alloc (.cells #[.int .i64 0, .int .i64 5, .int .i64 0, .string ⟨#[]⟩, .slice none 0 0] 39)).alloc (.cells #[.int .i64 4, .int .i64 5, .int .i64 0, .string ⟨#[]⟩, .slice none 0 0, .slice none 0 0, .slice none 0 0] 28)).alloc (.cells #[.int .i64 4, .int .i64 5, .int .i64 0, .string ⟨#[]⟩, .slice none 0 0, .slice none 0 0, .slice none 0 0] 28)).drew = wf at *
    obtain ⟨z0, z1, z2, z3, z4, z5, z6⟩ := box7 hb'
    exact bodyPost_ret (v := .tuple #[vaV 4 5 0 ⟨#[]⟩ none 0 0 none 0 0 none 0 0, .bool true]) (by simp [results, Try.results47, go_sem, z0, z1, z2, z3, z4, z5, z6, vaV]) rfl ⟨rfl, hg'⟩

theorem new_2of3 (w : World) (o1 o2 o3 : Obj) : (((w.alloc o1).alloc o2).alloc o3).heap[w.heap.size + 1]? = some o2 := by
  have h := res_new (w.alloc o1) o2 o3
  rwa [show (w.alloc o1).heap.size = w.heap.size + 1 from by simp] at h
theorem new_3of3 (w : World) (o1 o2 o3 : Obj) : (((w.alloc o1).alloc o2).alloc o3).heap[w.heap.size + 1 + 1]? = some o3 := by
  have h := heap_alloc_new ((w.alloc o1).alloc o2) o3
  rwa [show ((w.alloc o1).alloc o2).heap.size = w.heap.size + 1 + 1 from by simp] at h

set_option maxRecDepth 100000 in
theorem size1_any (W : World) : Calls Try.prog 12 #[vaV 4 5 0 ⟨#[]⟩ none 0 0 none 0 0 none 0 0] W fun e w' => e = .returned (.int .i64 1) ∧ W.grownBy w' none := by
  unfold vaV
  go_enter Try.func12, Try.ntmps12
  go_wp2_with fail
  go_loopw [3, 4] (fun sv tv wr => (sv = .int .i64 0 ∧ tv = .slice (some ⟨W.heap.size + 1 + 1, 0, none⟩) 1 1 ∨ sv = .int .i64 1 ∧ tv = .slice (some ⟨W.heap.size + 1 + 1, 0, none⟩) 0 1) ∧ W.grownBy wr none ∧ wr.heap[W.heap.size + 1]? = some (.cells #[.int .i64 4, .int .i64 5, .int .i64 0, .string ⟨#[]⟩, .slice none 0 0, .slice none 0 0, .slice none 0 0] 28 (0, 0)) ∧ wr.heap[W.heap.size + 1 + 1]? = some (.cells #[.slice (some ⟨W.heap.size + 1, 0, none⟩) 1 1] 25 (0, 0))) (fun sv _ _ => 1 - (intOf sv).toNat)
  case atStart => exact ⟨.inl ⟨rfl, rfl⟩, Lf.gbt (Lf.gbt (Lf.gb _) (Lf.gb _)) (Lf.gb _), new_2of3 _ _ _ _, new_3of3 _ _ _ _⟩
  case round =>
    obtain ⟨hh, hg, hb1, hb2⟩ := hrel
    rcases hh with ⟨rfl, rfl⟩ | ⟨rfl, rfl⟩
    · have c0 := cell_of_one hb2
      obtain ⟨d0, d1, d2, d3, d4, d5, d6⟩ := box7 hb1
      have HG := Lf.hide hg
      have HB1 := Lf.hide hb1
      have HB2 := Lf.hide hb2
      clear hg hb1 hb2
      go_wp2_with fail
      go_loopw [3, 4, 27] (fun sv tv iv wz => (sv = .int .i64 0 ∧ iv = .int .i64 0 ∨ sv = .int .i64 1 ∧ iv = .int .i64 1) ∧ tv = .slice (some ⟨W.heap.size + 1 + 1, 0, none⟩) 0 1 ∧ W.grownBy wz none ∧ wz.heap[W.heap.size + 1]? = some (.cells #[.int .i64 4, .int .i64 5, .int .i64 0, .string ⟨#[]⟩, .slice none 0 0, .slice none 0 0, .slice none 0 0] 28 (0, 0)) ∧ wz.heap[W.heap.size + 1 + 1]? = some (.cells #[.slice (some ⟨W.heap.size + 1, 0, none⟩) 1 1] 25 (0, 0))) (fun _ _ iv _ => 1 - (intOf iv).toNat)
      case atStart => exact ⟨.inl ⟨rfl, rfl⟩, rfl, HG.out, HB1.out, HB2.out⟩
      case round =>
        obtain ⟨hh, rfl, hg, hb1, hb2⟩ := hrel
        have lt1 := (Array.getElem?_eq_some_iff.1 hb1).1
        have lt2 := (Array.getElem?_eq_some_iff.1 hb2).1
        rcases hh with ⟨rfl, rfl⟩ | ⟨rfl, rfl⟩
        · obtain ⟨d0, d1, d2, d3, d4, d5, d6⟩ := box7 hb1
          have HG2 := Lf.hide (Lf.gbt hg (Lf.gb (w := wr) (.cells #[.int .i64 4, .int .i64 5, .int .i64 0, .string ⟨#[]⟩, .slice none 0 0, .slice none 0 0, .slice none 0 0] 28 (0, 0))))
          have HB3 := Lf.hide (heap_keep (o := (.cells #[.int .i64 4, .int .i64 5, .int .i64 0, .string ⟨#[]⟩, .slice none 0 0, .slice none 0 0, .slice none 0 0] 28 (0, 0))) hb1)
          have HB4 := Lf.hide (heap_keep (o := (.cells #[.int .i64 4, .int .i64 5, .int .i64 0, .string ⟨#[]⟩, .slice none 0 0, .slice none 0 0, .slice none 0 0] 28 (0, 0))) hb2)
          clear hg hb1 hb2
          go_wp2_with fail
          go_roundw
          case rel => exact ⟨.inr ⟨rfl, rfl⟩, rfl, HG2.out, HB3.out, HB4.out⟩
          case measure => simp [intOf]
        · have HG2 := Lf.hide hg
          have HB3 := Lf.hide hb1
          have HB4 := Lf.hide hb2
          clear hg hb1 hb2
          go_wp2_with fail
          go_roundw
          case rel => exact ⟨.inr ⟨rfl, rfl⟩, HG2.out, HB3.out, HB4.out⟩
          case measure => simp [intOf]
    · have HG := Lf.hide hg
      clear hg hb1 hb2
      go_wp2_with fail
      go_ret
      exact ⟨rfl, HG.out⟩

def set7 (w : World) (g : Nat) (y0 y1 y2 y3 y4 y5 y6 : Value) : World := ((((((w.setCell ⟨g, 0, none⟩ y0).setCell ⟨g, 1, none⟩ y1).setCell ⟨g, 2, none⟩ y2).setCell ⟨g, 3, none⟩ y3).setCell ⟨g, 4, none⟩ y4).setCell ⟨g, 5, none⟩ y5).setCell ⟨g, 6, none⟩ y6

theorem set7_block {w : World} {g : Nat} {T : TypeId} {x0 x1 x2 x3 x4 x5 x6 : Value} (h : w.heap[g]? = some (.cells #[x0, x1, x2, x3, x4, x5, x6] T (0, 0))) (y0 y1 y2 y3 y4 y5 y6 : Value) :
    (set7 w g y0 y1 y2 y3 y4 y5 y6).heap[g]? = some (.cells #[y0, y1, y2, y3, y4, y5, y6] T (0, 0)) := by
  simp [set7, World.setCell, Array.getElem?_modify, h]

theorem set7_grow (w : World) (g : Nat) (y0 y1 y2 y3 y4 y5 y6 : Value) : w.grownBy (set7 w g y0 y1 y2 y3 y4 y5 y6) (some g) :=
  grow_set (grow_set (grow_set (grow_set (grow_set (grow_set (grow_set (grow_refl _ _) _ _ _) _ _ _) _ _ _) _ _ _) _ _ _) _ _ _) _ _ _

theorem free7 {w : World} {g : Nat} {T : TypeId} {x0 x1 x2 x3 x4 x5 x6 : Value} (h : w.heap[g]? = some (.cells #[x0, x1, x2, x3, x4, x5, x6] T (0, 0))) : ∀ o, w.frozen? ⟨g, o, none⟩ = false := by intro o; simp [World.frozen?, h]

theorem liesT_nat (w : World) : LiesT (fun _ => True) w (.nd 4 []) (tyV 4 none 0 0) := LiesT.of (ts := []) (V := fun _ => .int .i64 0) ⟨by decide, by decide⟩ (RowT.nil _ _ _ _) (Nat.zero_le _)
theorem lies_five (ok : Nat → Prop) (w : World) : Lies ok w (.nd 0 5 0 ⟨#[]⟩ []) (nodeV 0 5 0 ⟨#[]⟩ none 0 0) :=
  Lies.mk (args := []) (fun _ => .int .i64 0) (by simp) (by decide) ⟨by decide, by decide⟩ ⟨by decide, by decide⟩ ⟨by decide, by decide⟩ (fun i hi => by simp at hi) (fun i hi => by simp at hi)
def vaFive : Va := .mk 4 5 0 ⟨#[]⟩ [] [] []
theorem liesV_five (w : World) : LiesV (fun _ => True) w vaFive (vaV 4 5 0 ⟨#[]⟩ none 0 0 none 0 0 none 0 0) :=
  LiesV.of (args := []) (types := []) (code := []) (V := fun _ => .int .i64 0) (VT := fun _ => .int .i64 0) (VN := fun _ => .int .i64 0) (Nat.zero_le _) (by decide) ⟨by decide, by decide⟩ ⟨by decide, by decide⟩ ⟨by decide, by decide⟩ (RowVa.nil _ _ _ _) (RowT.nil _ _ _ _) (RowN.nil _ _ _ _)

theorem five_good : goodF (.nd 0 5 0 ⟨#[]⟩ []) = 0 := by
  have h : Lf.wrongF 0 5 0 ⟨#[]⟩ 0 = 0 := by decide
  unfold goodF
  have h1 : firstW 1 (.nd 0 5 0 ⟨#[]⟩ []) = 0 := by
    rw [firstW, if_neg (by decide)]
    rw [if_neg (by simpa using h)]
    rfl
  rw [h1]; simp [Tr.size, sizes]

theorem five_has : hasF (.nd 4 []) vaFive = true := by
  have h1 : goodTy (.nd 4 []) = true := by decide
  unfold hasF
  rw [h1, hasV_eq]
  decide

set_option maxRecDepth 100000 in
set_option maxHeartbeats 1000000 in
theorem parse5_any (W : World) : Calls Try.prog 19 #[tyV 4 none 0 0, nodeV 0 5 0 ⟨#[]⟩ none 0 0] W fun e w' => e = .returned (.tuple #[vaV 4 5 0 ⟨#[]⟩ none 0 0 none 0 0 none 0 0, .int .i64 0]) ∧ W.grownBy w' none := by
  have HG : Hid (∀ W2, Calls Try.prog 29 #[tyV 4 none 0 0] W2 fun e w' => e = .returned (.bool true) ∧ W2.grownBy w' none) := fun W2 => by
    have h := kgood_any (LiesT.up (liesT_nat W2) (grow_refl W2 none))
    rw [show goodTy (.nd 4 []) = true from by decide] at h
    exact h
  have HN : Hid (∀ W2, Calls Try.prog 46 #[nodeV 0 5 0 ⟨#[]⟩ none 0 0] W2 fun e w' => e = .returned (.int .i64 0) ∧ W2.grownBy w' none) := fun W2 => by
    have h := good_any (lies_five (· < W2.heap.size) W2) (by simp [Tr.size, sizes])
    rw [five_good] at h
    exact h
  have HR := Lf.hide read4_any
  have HH : Hid (∀ W2, Calls Try.prog 10 #[tyV 4 none 0 0, vaV 4 5 0 ⟨#[]⟩ none 0 0 none 0 0 none 0 0] W2 fun e w' => e = .returned (.bool true) ∧ W2.grownBy w' none) := fun W2 => by
    have h := has_any (liesT_nat W2) (liesV_five W2) (by decide) W2 (grow_refl _ _)
    rw [five_has] at h
    exact h
  unfold tyV nodeV vaV at *
  go_enter Try.func19, Try.ntmps19
  go_wp2_with fail
  have HA0 := Lf.hide (heap_keep (o := (.cells #[.int .i64 0, .int .i64 0, .int .i64 0, .string ⟨#[]⟩, .slice none 0 0, .slice none 0 0, .slice none 0 0] 28)) (res_new W (.cells #[.int .i64 4, .slice none 0 0] 24) (.cells #[.int .i64 0, .int .i64 5, .int .i64 0, .string ⟨#[]⟩, .slice none 0 0] 39)))
  have HB0 := Lf.hide (new_2of3 W (.cells #[.int .i64 4, .slice none 0 0] 24) (.cells #[.int .i64 0, .int .i64 5, .int .i64 0, .string ⟨#[]⟩, .slice none 0 0] 39) (.cells #[.int .i64 0, .int .i64 0, .int .i64 0, .string ⟨#[]⟩, .slice none 0 0, .slice none 0 0, .slice none 0 0] 28))
  have HZ0 := Lf.hide (new_3of3 W (.cells #[.int .i64 4, .slice none 0 0] 24) (.cells #[.int .i64 0, .int .i64 5, .int .i64 0, .string ⟨#[]⟩, .slice none 0 0] 39) (.cells #[.int .i64 0, .int .i64 0, .int .i64 0, .string ⟨#[]⟩, .slice none 0 0, .slice none 0 0, .slice none 0 0] 28))
  have HG0 := Lf.hide (Lf.gbt (Lf.gbt (Lf.gb (w := W) (.cells #[.int .i64 4, .slice none 0 0] 24)) (Lf.gb (.cells #[.int .i64 0, .int .i64 5, .int .i64 0, .string ⟨#[]⟩, .slice none 0 0] 39))) (Lf.gb (.cells #[.int .i64 0, .int .i64 0, .int .i64 0, .string ⟨#[]⟩, .slice none 0 0, .slice none 0 0, .slice none 0 0] 28)))
  refine (HG.out _).mono ?_; rintro e w1 ⟨rfl, hg⟩
  have HA1 := Lf.hide ((hg.block _ (Array.getElem?_eq_some_iff.1 HA0.out).1 (by simp)).trans HA0.out)
  have HB1 := Lf.hide ((hg.block _ (Array.getElem?_eq_some_iff.1 HB0.out).1 (by simp)).trans HB0.out)
  have HZ1 := Lf.hide ((hg.block _ (Array.getElem?_eq_some_iff.1 HZ0.out).1 (by simp)).trans HZ0.out)
  have HG1 := Lf.hide (Lf.gbt HG0.out hg)
  have a10 := cell0_of HA1.out
  have a11 := cell1_of HA1.out
  obtain ⟨b10, b11, b12, b13, b14⟩ := box5 HB1.out
  obtain ⟨z10, z11, z12, z13, z14, z15, z16⟩ := box7 HZ1.out
  have y1 := free7 HZ1.out
  clear hg
  go_wp2_with fail
  refine (HN.out _).mono ?_; rintro e w2 ⟨rfl, hg⟩
  have HA2 := Lf.hide ((hg.block _ (Array.getElem?_eq_some_iff.1 HA1.out).1 (by simp)).trans HA1.out)
  have HB2 := Lf.hide ((hg.block _ (Array.getElem?_eq_some_iff.1 HB1.out).1 (by simp)).trans HB1.out)
  have HZ2 := Lf.hide ((hg.block _ (Array.getElem?_eq_some_iff.1 HZ1.out).1 (by simp)).trans HZ1.out)
  have HG2 := Lf.hide (Lf.gbt HG1.out hg)
  have a20 := cell0_of HA2.out
  have a21 := cell1_of HA2.out
  obtain ⟨b20, b21, b22, b23, b24⟩ := box5 HB2.out
  obtain ⟨z20, z21, z22, z23, z24, z25, z26⟩ := box7 HZ2.out
  have y2 := free7 HZ2.out
  clear hg
  clear a10 a11 b10 b11 b12 b13 b14 z10 z11 z12 z13 z14 z15 z16 y1
  go_wp2_with fail
  refine (HR.out _).mono ?_; rintro e w3 ⟨rfl, hg⟩
  have HA3 := Lf.hide ((hg.block _ (Array.getElem?_eq_some_iff.1 HA2.out).1 (by simp)).trans HA2.out)
  have HB3 := Lf.hide ((hg.block _ (Array.getElem?_eq_some_iff.1 HB2.out).1 (by simp)).trans HB2.out)
  have HZ3 := Lf.hide ((hg.block _ (Array.getElem?_eq_some_iff.1 HZ2.out).1 (by simp)).trans HZ2.out)
  have HG3 := Lf.hide (Lf.gbt HG2.out hg)
  have a30 := cell0_of HA3.out
  have a31 := cell1_of HA3.out
  obtain ⟨b30, b31, b32, b33, b34⟩ := box5 HB3.out
  obtain ⟨z30, z31, z32, z33, z34, z35, z36⟩ := box7 HZ3.out
  have y3 := free7 HZ3.out
  clear hg
  clear a20 a21 b20 b21 b22 b23 b24 z20 z21 z22 z23 z24 z25 z26 y2
  have l2 : W.heap.size + 1 + 1 < w3.heap.size := (Array.getElem?_eq_some_iff.1 HZ3.out).1
  have l1 : W.heap.size + 1 < w3.heap.size := by omega
  have l0 : W.heap.size < w3.heap.size := by omega
  have HA9 := Lf.hide (heap_keep (o := (.cells #[.int .i64 4, .int .i64 5, .int .i64 0, .string ⟨#[]⟩, .slice none 0 0, .slice none 0 0, .slice none 0 0] 28)) HA3.out)
  have HZ9 := Lf.hide (heap_keep (o := (.cells #[.int .i64 4, .int .i64 5, .int .i64 0, .string ⟨#[]⟩, .slice none 0 0, .slice none 0 0, .slice none 0 0] 28)) HZ3.out)
  have HV9 := Lf.hide (heap_alloc_new w3 (.cells #[.int .i64 4, .int .i64 5, .int .i64 0, .string ⟨#[]⟩, .slice none 0 0, .slice none 0 0, .slice none 0 0] 28))
  have HG9 := Lf.hide (Lf.gbt HG3.out (Lf.gb (w := w3) (.cells #[.int .i64 4, .int .i64 5, .int .i64 0, .string ⟨#[]⟩, .slice none 0 0, .slice none 0 0, .slice none 0 0] 28)))
  go_wp2_with fail
  refine (HH.out _).mono ?_; rintro e w4 ⟨rfl, hg⟩
  have HZ4 := Lf.hide ((hg.block _ (Array.getElem?_eq_some_iff.1 HZ9.out).1 (by simp)).trans HZ9.out)
  have HV4 := Lf.hide ((hg.block _ (Array.getElem?_eq_some_iff.1 HV9.out).1 (by simp)).trans HV9.out)
  have HG4 := Lf.hide (Lf.gbt HG9.out hg)
  obtain ⟨z40, z41, z42, z43, z44, z45, z46⟩ := box7 HZ4.out
  obtain ⟨v40, v41, v42, v43, v44, v45, v46⟩ := box7 HV4.out
  have y4 := free7 HZ4.out
  clear hg a30 a31 b30 b31 b32 b33 b34 z30 z31 z32 z33 z34 z35 z36 y3
  go_wp2_with fail
  change bodyPost _ _ _ _ _ (set7 w4 (W.heap.size + 1 + 1) (.int .i64 4) (.int .i64 5) (.int .i64 0) (.string ⟨#[]⟩) (.slice none 0 0) (.slice none 0 0) (.slice none 0 0))
  have hb' := set7_block HZ4.out (.int .i64 4) (.int .i64 5) (.int .i64 0) (.string ⟨#[]⟩) (.slice none 0 0) (.slice none 0 0) (.slice none 0 0)
  have hg' := grow_new HG4.out (set7_grow w4 (W.heap.size + 1 + 1) (.int .i64 4) (.int .i64 5) (.int .i64 0) (.string ⟨#[]⟩) (.slice none 0 0) (.slice none 0 0) (.slice none 0 0)) (by omega)
  generalize set7 w4 (W.heap.size + 1 + 1) (.int .i64 4) (.int .i64 5) (.int .i64 0) (.string ⟨#[]⟩) (.slice none 0 0) (.slice none 0 0) (.slice none 0 0) = wf at *
  obtain ⟨f0, f1, f2, f3, f4, f5, f6⟩ := box7 hb'
  exact bodyPost_ret (v := .tuple #[.agg #[.int .i64 4, .int .i64 5, .int .i64 0, .string ⟨#[]⟩, .slice none 0 0, .slice none 0 0, .slice none 0 0], .int .i64 0]) (by simp [results, Try.results19, go_sem, f0, f1, f2, f3, f4, f5, f6]) rfl ⟨rfl, hg'⟩

set_option maxRecDepth 100000 in
set_option maxHeartbeats 1000000 in
theorem worth_any (W : World) : Calls Try.prog 17 #[] W fun e w' => e = .returned (.bool true) ∧ W.grownBy w' none := by
  have HP := Lf.hide parse5_any
  have HS := Lf.hide size1_any
  unfold tyV nodeV vaV at *
  go_enter Try.func17, Try.ntmps17
  go_wp2_with fail
  refine (HP.out _).mono ?_; rintro e w1 ⟨rfl, hg⟩
  have HG := Lf.hide hg
  clear hg
  go_wp2_with fail
  refine (HS.out _).mono ?_; rintro e w2 ⟨rfl, hg⟩
  have HG2 := Lf.hide (Lf.gbt (Lf.gbt HG.out (Lf.gb _)) hg)
  clear hg
  go_wp2_with fail
  go_ret
  exact ⟨rfl, HG2.out⟩

end Go.Proofs.Ytmmgihaoahhkjaa
