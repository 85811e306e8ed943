/- read by its contract: the walks, a case each. -/
import Derived.Test.YtmmgihaoahhkjaaReadA
namespace Go.Proofs.Ytmmgihaoahhkjaa
set_option maxRecDepth 20000
open Go.ChangeShapes Go.WideShapes Go.ChangeAt Go.RowKit
set_option linter.unusedVariables false

theorem new4 (w : World) (o1 o2 o3 o4 : Obj) : ((((w.alloc o1).alloc o2).alloc o3).alloc o4).heap[w.heap.size]? = some o1 ∧ ((((w.alloc o1).alloc o2).alloc o3).alloc o4).heap[w.heap.size + 1]? = some o2 ∧ ((((w.alloc o1).alloc o2).alloc o3).alloc o4).heap[w.heap.size + 1 + 1]? = some o3 ∧ ((((w.alloc o1).alloc o2).alloc o3).alloc o4).heap[w.heap.size + 1 + 1 + 1]? = some o4 :=
  ⟨heap_keep (heap_keep (res_new w o1 o2)), heap_keep (heap_keep (new_twoI w o1 o2)), heap_keep (new_3of3 w o1 o2 o3), new_4of4 w o1 o2 o3 o4⟩

/-- what read gives is laid in its result -/
theorem rd_fin {W wz : World} (t m : Int) (s : ByteArray) (a : Option Addr) (l c : Nat) {x0 x1 x2 x3 x4 x5 x6 : Value} (hg : W.grownBy wz none) (hb : wz.heap[W.heap.size + 1 + 1]? = some (.cells #[x0, x1, x2, x3, x4, x5, x6] 28 (0, 0))) :
    W.grownBy (set7 wz (W.heap.size + 1 + 1) (.int .i64 t) (.int .i64 m) (.int .i64 0) (.string s) (.slice a l c) (.slice none 0 0) (.slice none 0 0)) none ∧ (set7 wz (W.heap.size + 1 + 1) (.int .i64 t) (.int .i64 m) (.int .i64 0) (.string s) (.slice a l c) (.slice none 0 0) (.slice none 0 0)).heap[W.heap.size + 1 + 1]? = some (.cells #[.int .i64 t, .int .i64 m, .int .i64 0, .string s, .slice a l c, .slice none 0 0, .slice none 0 0] 28 (0, 0)) ∧
    ∀ ys V, RowVa (W.heap.size + 1 + 1 + 1 + 1 ≤ ·) wz ys a V → RowVa (W.heap.size ≤ ·) (set7 wz (W.heap.size + 1 + 1) (.int .i64 t) (.int .i64 m) (.int .i64 0) (.string s) (.slice a l c) (.slice none 0 0) (.slice none 0 0)) ys a V := by
  have hgs := set7_grow wz (W.heap.size + 1 + 1) (.int .i64 t) (.int .i64 m) (.int .i64 0) (.string s) (.slice a l c) (.slice none 0 0) (.slice none 0 0)
  refine ⟨grow_new hg hgs (by omega), set7_block hb _ _ _ _ _ _ _, fun ys V hR => ?_⟩
  refine (hR.same (fun b o hb hlt => World.cell?_of_block (hgs.block b hlt (by simp; have h : W.heap.size + 1 + 1 + 1 + 1 ≤ b := hb; omega)))).okMono (fun b _ hb => by have h : W.heap.size + 1 + 1 + 1 + 1 ≤ b := hb; show W.heap.size ≤ b; omega)

set_option maxRecDepth 100000 in
set_option maxHeartbeats 1000000 in
theorem rd_int3 (ta : Option Addr) (tl tc : Nat) (k n p : Int) (s : ByteArray) (na : Option Addr) (nl nc : Nat) (W : World) : Calls Try.prog 47 #[tyV 3 ta tl tc, nodeV k n p s na nl nc] W fun e w' => e = .returned (.tuple #[vaV 3 n 0 ⟨#[]⟩ none 0 0 none 0 0 none 0 0, .bool (k == 0)]) ∧ W.grownBy w' none := by
  unfold tyV nodeV
  go_enter Try.func47, Try.ntmps47
  go_wp2_with fail
  go_region_with (fail)
  all_goals
    go_wp2_with fail
    have hb' : ((((W.alloc (.cells #[.int .i64 3, .slice ta tl tc] 24)).alloc (.cells #[.int .i64 k, .int .i64 n, .int .i64 p, .string s, .slice na nl nc] 39)).alloc (.cells #[.int .i64 3, .int .i64 n, .int .i64 0, .string ⟨#[]⟩, .slice none 0 0, .slice none 0 0, .slice none 0 0] 28)).alloc (.cells #[.int .i64 3, .int .i64 n, .int .i64 0, .string ⟨#[]⟩, .slice none 0 0, .slice none 0 0, .slice none 0 0] 28)).drew.heap[W.heap.size + 1 + 1]? = some (.cells #[.int .i64 3, .int .i64 n, .int .i64 0, .string ⟨#[]⟩, .slice none 0 0, .slice none 0 0, .slice none 0 0] 28 (0, 0)) := new_3of4 _ _ _ _ _
    have hg' : W.grownBy ((((W.alloc (.cells #[.int .i64 3, .slice ta tl tc] 24)).alloc (.cells #[.int .i64 k, .int .i64 n, .int .i64 p, .string s, .slice na nl nc] 39)).alloc (.cells #[.int .i64 3, .int .i64 n, .int .i64 0, .string ⟨#[]⟩, .slice none 0 0, .slice none 0 0, .slice none 0 0] 28)).alloc (.cells #[.int .i64 3, .int .i64 n, .int .i64 0, .string ⟨#[]⟩, .slice none 0 0, .slice none 0 0, .slice none 0 0] 28)).drew none := grow_drew (Lf.gbt (Lf.gbt (Lf.gbt (Lf.gb _) (Lf.gb _)) (Lf.gb _)) (Lf.gb _))
    generalize ((((W.alloc (.cells #[.int .i64 3, .slice ta tl tc] 24)).alloc (.cells #[.int .i64 k, .int .i64 n, .int .i64 p, .string s, .slice na nl nc] 39)).alloc (.cells #[.int .i64 3, .int .i64 n, .int .i64 0, .string ⟨#[]⟩, .slice none 0 0, .slice none 0 0, .slice none 0 0] 28)).alloc (.cells #[.int .i64 3, .int .i64 n, .int .i64 0, .string ⟨#[]⟩, .slice none 0 0, .slice none 0 0, .slice none 0 0] 28)).drew = wf at *
    obtain ⟨z0, z1, z2, z3, z4, z5, z6⟩ := box7 hb'
    exact bodyPost_ret (v := .tuple #[vaV 3 n 0 ⟨#[]⟩ none 0 0 none 0 0 none 0 0, .bool (k == 0)]) (by simp [results, Try.results47, go_sem, z0, z1, z2, z3, z4, z5, z6, vaV]) rfl ⟨rfl, hg'⟩

set_option maxRecDepth 100000 in
set_option maxHeartbeats 1000000 in
theorem rd_int4 (ta : Option Addr) (tl tc : Nat) (k n p : Int) (s : ByteArray) (na : Option Addr) (nl nc : Nat) (W : World) : Calls Try.prog 47 #[tyV 4 ta tl tc, nodeV k n p s na nl nc] W fun e w' => e = .returned (.tuple #[vaV 4 n 0 ⟨#[]⟩ none 0 0 none 0 0 none 0 0, .bool (k == 0)]) ∧ W.grownBy w' none := by
  unfold tyV nodeV
  go_enter Try.func47, Try.ntmps47
  go_wp2_with fail
  go_region_with (fail)
  all_goals
    go_wp2_with fail
    have hb' : ((((W.alloc (.cells #[.int .i64 4, .slice ta tl tc] 24)).alloc (.cells #[.int .i64 k, .int .i64 n, .int .i64 p, .string s, .slice na nl nc] 39)).alloc (.cells #[.int .i64 4, .int .i64 n, .int .i64 0, .string ⟨#[]⟩, .slice none 0 0, .slice none 0 0, .slice none 0 0] 28)).alloc (.cells #[.int .i64 4, .int .i64 n, .int .i64 0, .string ⟨#[]⟩, .slice none 0 0, .slice none 0 0, .slice none 0 0] 28)).drew.heap[W.heap.size + 1 + 1]? = some (.cells #[.int .i64 4, .int .i64 n, .int .i64 0, .string ⟨#[]⟩, .slice none 0 0, .slice none 0 0, .slice none 0 0] 28 (0, 0)) := new_3of4 _ _ _ _ _
    have hg' : W.grownBy ((((W.alloc (.cells #[.int .i64 4, .slice ta tl tc] 24)).alloc (.cells #[.int .i64 k, .int .i64 n, .int .i64 p, .string s, .slice na nl nc] 39)).alloc (.cells #[.int .i64 4, .int .i64 n, .int .i64 0, .string ⟨#[]⟩, .slice none 0 0, .slice none 0 0, .slice none 0 0] 28)).alloc (.cells #[.int .i64 4, .int .i64 n, .int .i64 0, .string ⟨#[]⟩, .slice none 0 0, .slice none 0 0, .slice none 0 0] 28)).drew none := grow_drew (Lf.gbt (Lf.gbt (Lf.gbt (Lf.gb _) (Lf.gb _)) (Lf.gb _)) (Lf.gb _))
    generalize ((((W.alloc (.cells #[.int .i64 4, .slice ta tl tc] 24)).alloc (.cells #[.int .i64 k, .int .i64 n, .int .i64 p, .string s, .slice na nl nc] 39)).alloc (.cells #[.int .i64 4, .int .i64 n, .int .i64 0, .string ⟨#[]⟩, .slice none 0 0, .slice none 0 0, .slice none 0 0] 28)).alloc (.cells #[.int .i64 4, .int .i64 n, .int .i64 0, .string ⟨#[]⟩, .slice none 0 0, .slice none 0 0, .slice none 0 0] 28)).drew = wf at *
    obtain ⟨z0, z1, z2, z3, z4, z5, z6⟩ := box7 hb'
    exact bodyPost_ret (v := .tuple #[vaV 4 n 0 ⟨#[]⟩ none 0 0 none 0 0 none 0 0, .bool (k == 0)]) (by simp [results, Try.results47, go_sem, z0, z1, z2, z3, z4, z5, z6, vaV]) rfl ⟨rfl, hg'⟩

set_option maxRecDepth 100000 in
set_option maxHeartbeats 1000000 in
theorem rd_int5 (ta : Option Addr) (tl tc : Nat) (k n p : Int) (s : ByteArray) (na : Option Addr) (nl nc : Nat) (W : World) : Calls Try.prog 47 #[tyV 5 ta tl tc, nodeV k n p s na nl nc] W fun e w' => e = .returned (.tuple #[vaV 5 n 0 ⟨#[]⟩ none 0 0 none 0 0 none 0 0, .bool (k == 0)]) ∧ W.grownBy w' none := by
  unfold tyV nodeV
  go_enter Try.func47, Try.ntmps47
  go_wp2_with fail
  go_region_with (fail)
  all_goals
    go_wp2_with fail
    have hb' : ((((W.alloc (.cells #[.int .i64 5, .slice ta tl tc] 24)).alloc (.cells #[.int .i64 k, .int .i64 n, .int .i64 p, .string s, .slice na nl nc] 39)).alloc (.cells #[.int .i64 5, .int .i64 n, .int .i64 0, .string ⟨#[]⟩, .slice none 0 0, .slice none 0 0, .slice none 0 0] 28)).alloc (.cells #[.int .i64 5, .int .i64 n, .int .i64 0, .string ⟨#[]⟩, .slice none 0 0, .slice none 0 0, .slice none 0 0] 28)).drew.heap[W.heap.size + 1 + 1]? = some (.cells #[.int .i64 5, .int .i64 n, .int .i64 0, .string ⟨#[]⟩, .slice none 0 0, .slice none 0 0, .slice none 0 0] 28 (0, 0)) := new_3of4 _ _ _ _ _
    have hg' : W.grownBy ((((W.alloc (.cells #[.int .i64 5, .slice ta tl tc] 24)).alloc (.cells #[.int .i64 k, .int .i64 n, .int .i64 p, .string s, .slice na nl nc] 39)).alloc (.cells #[.int .i64 5, .int .i64 n, .int .i64 0, .string ⟨#[]⟩, .slice none 0 0, .slice none 0 0, .slice none 0 0] 28)).alloc (.cells #[.int .i64 5, .int .i64 n, .int .i64 0, .string ⟨#[]⟩, .slice none 0 0, .slice none 0 0, .slice none 0 0] 28)).drew none := grow_drew (Lf.gbt (Lf.gbt (Lf.gbt (Lf.gb _) (Lf.gb _)) (Lf.gb _)) (Lf.gb _))
    generalize ((((W.alloc (.cells #[.int .i64 5, .slice ta tl tc] 24)).alloc (.cells #[.int .i64 k, .int .i64 n, .int .i64 p, .string s, .slice na nl nc] 39)).alloc (.cells #[.int .i64 5, .int .i64 n, .int .i64 0, .string ⟨#[]⟩, .slice none 0 0, .slice none 0 0, .slice none 0 0] 28)).alloc (.cells #[.int .i64 5, .int .i64 n, .int .i64 0, .string ⟨#[]⟩, .slice none 0 0, .slice none 0 0, .slice none 0 0] 28)).drew = wf at *
    obtain ⟨z0, z1, z2, z3, z4, z5, z6⟩ := box7 hb'
    exact bodyPost_ret (v := .tuple #[vaV 5 n 0 ⟨#[]⟩ none 0 0 none 0 0 none 0 0, .bool (k == 0)]) (by simp [results, Try.results47, go_sem, z0, z1, z2, z3, z4, z5, z6, vaV]) rfl ⟨rfl, hg'⟩

set_option maxRecDepth 100000 in
set_option maxHeartbeats 1000000 in
theorem rd_int7 (ta : Option Addr) (tl tc : Nat) (k n p : Int) (s : ByteArray) (na : Option Addr) (nl nc : Nat) (W : World) : Calls Try.prog 47 #[tyV 7 ta tl tc, nodeV k n p s na nl nc] W fun e w' => e = .returned (.tuple #[vaV 7 n 0 ⟨#[]⟩ none 0 0 none 0 0 none 0 0, .bool (k == 0)]) ∧ W.grownBy w' none := by
  unfold tyV nodeV
  go_enter Try.func47, Try.ntmps47
  go_wp2_with fail
  go_region_with (fail)
  all_goals
    go_wp2_with fail
    have hb' : ((((W.alloc (.cells #[.int .i64 7, .slice ta tl tc] 24)).alloc (.cells #[.int .i64 k, .int .i64 n, .int .i64 p, .string s, .slice na nl nc] 39)).alloc (.cells #[.int .i64 7, .int .i64 n, .int .i64 0, .string ⟨#[]⟩, .slice none 0 0, .slice none 0 0, .slice none 0 0] 28)).alloc (.cells #[.int .i64 7, .int .i64 n, .int .i64 0, .string ⟨#[]⟩, .slice none 0 0, .slice none 0 0, .slice none 0 0] 28)).drew.heap[W.heap.size + 1 + 1]? = some (.cells #[.int .i64 7, .int .i64 n, .int .i64 0, .string ⟨#[]⟩, .slice none 0 0, .slice none 0 0, .slice none 0 0] 28 (0, 0)) := new_3of4 _ _ _ _ _
    have hg' : W.grownBy ((((W.alloc (.cells #[.int .i64 7, .slice ta tl tc] 24)).alloc (.cells #[.int .i64 k, .int .i64 n, .int .i64 p, .string s, .slice na nl nc] 39)).alloc (.cells #[.int .i64 7, .int .i64 n, .int .i64 0, .string ⟨#[]⟩, .slice none 0 0, .slice none 0 0, .slice none 0 0] 28)).alloc (.cells #[.int .i64 7, .int .i64 n, .int .i64 0, .string ⟨#[]⟩, .slice none 0 0, .slice none 0 0, .slice none 0 0] 28)).drew none := grow_drew (Lf.gbt (Lf.gbt (Lf.gbt (Lf.gb _) (Lf.gb _)) (Lf.gb _)) (Lf.gb _))
    generalize ((((W.alloc (.cells #[.int .i64 7, .slice ta tl tc] 24)).alloc (.cells #[.int .i64 k, .int .i64 n, .int .i64 p, .string s, .slice na nl nc] 39)).alloc (.cells #[.int .i64 7, .int .i64 n, .int .i64 0, .string ⟨#[]⟩, .slice none 0 0, .slice none 0 0, .slice none 0 0] 28)).alloc (.cells #[.int .i64 7, .int .i64 n, .int .i64 0, .string ⟨#[]⟩, .slice none 0 0, .slice none 0 0, .slice none 0 0] 28)).drew = wf at *
    obtain ⟨z0, z1, z2, z3, z4, z5, z6⟩ := box7 hb'
    exact bodyPost_ret (v := .tuple #[vaV 7 n 0 ⟨#[]⟩ none 0 0 none 0 0 none 0 0, .bool (k == 0)]) (by simp [results, Try.results47, go_sem, z0, z1, z2, z3, z4, z5, z6, vaV]) rfl ⟨rfl, hg'⟩

set_option maxRecDepth 100000 in
set_option maxHeartbeats 1000000 in
theorem rd_text (ta : Option Addr) (tl tc : Nat) (k n p : Int) (s : ByteArray) (na : Option Addr) (nl nc : Nat) (W : World) : Calls Try.prog 47 #[tyV 6 ta tl tc, nodeV k n p s na nl nc] W fun e w' => e = .returned (.tuple #[vaV 6 0 0 s none 0 0 none 0 0 none 0 0, .bool (k == 1)]) ∧ W.grownBy w' none := by
  unfold tyV nodeV
  go_enter Try.func47, Try.ntmps47
  go_wp2_with fail
  go_region_with (fail)
  all_goals
    go_wp2_with fail
    have hb' : ((((W.alloc (.cells #[.int .i64 6, .slice ta tl tc] 24)).alloc (.cells #[.int .i64 k, .int .i64 n, .int .i64 p, .string s, .slice na nl nc] 39)).alloc (.cells #[.int .i64 6, .int .i64 0, .int .i64 0, .string s, .slice none 0 0, .slice none 0 0, .slice none 0 0] 28)).alloc (.cells #[.int .i64 6, .int .i64 0, .int .i64 0, .string s, .slice none 0 0, .slice none 0 0, .slice none 0 0] 28)).drew.heap[W.heap.size + 1 + 1]? = some (.cells #[.int .i64 6, .int .i64 0, .int .i64 0, .string s, .slice none 0 0, .slice none 0 0, .slice none 0 0] 28 (0, 0)) := new_3of4 _ _ _ _ _
    have hg' : W.grownBy ((((W.alloc (.cells #[.int .i64 6, .slice ta tl tc] 24)).alloc (.cells #[.int .i64 k, .int .i64 n, .int .i64 p, .string s, .slice na nl nc] 39)).alloc (.cells #[.int .i64 6, .int .i64 0, .int .i64 0, .string s, .slice none 0 0, .slice none 0 0, .slice none 0 0] 28)).alloc (.cells #[.int .i64 6, .int .i64 0, .int .i64 0, .string s, .slice none 0 0, .slice none 0 0, .slice none 0 0] 28)).drew none := grow_drew (Lf.gbt (Lf.gbt (Lf.gbt (Lf.gb _) (Lf.gb _)) (Lf.gb _)) (Lf.gb _))
    generalize ((((W.alloc (.cells #[.int .i64 6, .slice ta tl tc] 24)).alloc (.cells #[.int .i64 k, .int .i64 n, .int .i64 p, .string s, .slice na nl nc] 39)).alloc (.cells #[.int .i64 6, .int .i64 0, .int .i64 0, .string s, .slice none 0 0, .slice none 0 0, .slice none 0 0] 28)).alloc (.cells #[.int .i64 6, .int .i64 0, .int .i64 0, .string s, .slice none 0 0, .slice none 0 0, .slice none 0 0] 28)).drew = wf at *
    obtain ⟨z0, z1, z2, z3, z4, z5, z6⟩ := box7 hb'
    exact bodyPost_ret (v := .tuple #[vaV 6 0 0 s none 0 0 none 0 0 none 0 0, .bool (k == 1)]) (by simp [results, Try.results47, go_sem, z0, z1, z2, z3, z4, z5, z6, vaV]) rfl ⟨rfl, hg'⟩

set_option maxRecDepth 100000 in
set_option maxHeartbeats 1000000 in
theorem rd_list0 (ta : Option Addr) (tl tc : Nat) (k n p : Int) (s : ByteArray) (na : Option Addr) (nl nc : Nat) (W : World) (h3 : k ≠ 3) : Calls Try.prog 47 #[tyV 10 ta tl tc, nodeV k n p s na nl nc] W fun e w' => e = .returned (.tuple #[vaV 10 0 0 ⟨#[]⟩ none 0 0 none 0 0 none 0 0, .bool false]) ∧ W.grownBy w' none := by
  have hk3 : (k == 3) = false := by simpa using h3
  clear h3
  unfold tyV nodeV
  go_enter Try.func47, Try.ntmps47
  go_wp2_with fail
  have hb' := new_3of4 W (.cells #[.int .i64 10, .slice ta tl tc] 24) (.cells #[.int .i64 k, .int .i64 n, .int .i64 p, .string s, .slice na nl nc] 39) (.cells #[.int .i64 10, .int .i64 0, .int .i64 0, .string ⟨#[]⟩, .slice none 0 0, .slice none 0 0, .slice none 0 0] 28) (.cells #[.int .i64 10, .int .i64 0, .int .i64 0, .string ⟨#[]⟩, .slice none 0 0, .slice none 0 0, .slice none 0 0] 28)
  have hg' : W.grownBy ((((W.alloc (.cells #[.int .i64 10, .slice ta tl tc] 24)).alloc (.cells #[.int .i64 k, .int .i64 n, .int .i64 p, .string s, .slice na nl nc] 39)).alloc (.cells #[.int .i64 10, .int .i64 0, .int .i64 0, .string ⟨#[]⟩, .slice none 0 0, .slice none 0 0, .slice none 0 0] 28)).alloc (.cells #[.int .i64 10, .int .i64 0, .int .i64 0, .string ⟨#[]⟩, .slice none 0 0, .slice none 0 0, .slice none 0 0] 28)) none := Lf.gbt (Lf.gbt (Lf.gbt (Lf.gb _) (Lf.gb _)) (Lf.gb _)) (Lf.gb _)
  generalize ((((W.alloc (.cells #[.int .i64 10, .slice ta tl tc] 24)).alloc (.cells #[.int .i64 k, .int .i64 n, .int .i64 p, .string s, .slice na nl nc] 39)).alloc (.cells #[.int .i64 10, .int .i64 0, .int .i64 0, .string ⟨#[]⟩, .slice none 0 0, .slice none 0 0, .slice none 0 0] 28)).alloc (.cells #[.int .i64 10, .int .i64 0, .int .i64 0, .string ⟨#[]⟩, .slice none 0 0, .slice none 0 0, .slice none 0 0] 28)) = wf at *
  obtain ⟨z0, z1, z2, z3, z4, z5, z6⟩ := box7 hb'
  exact bodyPost_ret (v := .tuple #[vaV 10 0 0 ⟨#[]⟩ none 0 0 none 0 0 none 0 0, .bool false]) (by simp [results, Try.results47, go_sem, z0, z1, z2, z3, z4, z5, z6, vaV]) rfl ⟨rfl, hg'⟩

set_option maxRecDepth 100000 in
set_option maxHeartbeats 1000000 in
theorem rd_map0 (ta : Option Addr) (tl tc : Nat) (k n p : Int) (s : ByteArray) (na : Option Addr) (nl nc : Nat) (W : World) (h3 : k ≠ 3) : Calls Try.prog 47 #[tyV 13 ta tl tc, nodeV k n p s na nl nc] W fun e w' => e = .returned (.tuple #[vaV 13 0 0 ⟨#[]⟩ none 0 0 none 0 0 none 0 0, .bool false]) ∧ W.grownBy w' none := by
  have hk3 : (k == 3) = false := by simpa using h3
  clear h3
  unfold tyV nodeV
  go_enter Try.func47, Try.ntmps47
  go_wp2_with fail
  have hb' := new_3of4 W (.cells #[.int .i64 13, .slice ta tl tc] 24) (.cells #[.int .i64 k, .int .i64 n, .int .i64 p, .string s, .slice na nl nc] 39) (.cells #[.int .i64 13, .int .i64 0, .int .i64 0, .string ⟨#[]⟩, .slice none 0 0, .slice none 0 0, .slice none 0 0] 28) (.cells #[.int .i64 13, .int .i64 0, .int .i64 0, .string ⟨#[]⟩, .slice none 0 0, .slice none 0 0, .slice none 0 0] 28)
  have hg' : W.grownBy ((((W.alloc (.cells #[.int .i64 13, .slice ta tl tc] 24)).alloc (.cells #[.int .i64 k, .int .i64 n, .int .i64 p, .string s, .slice na nl nc] 39)).alloc (.cells #[.int .i64 13, .int .i64 0, .int .i64 0, .string ⟨#[]⟩, .slice none 0 0, .slice none 0 0, .slice none 0 0] 28)).alloc (.cells #[.int .i64 13, .int .i64 0, .int .i64 0, .string ⟨#[]⟩, .slice none 0 0, .slice none 0 0, .slice none 0 0] 28)) none := Lf.gbt (Lf.gbt (Lf.gbt (Lf.gb _) (Lf.gb _)) (Lf.gb _)) (Lf.gb _)
  generalize ((((W.alloc (.cells #[.int .i64 13, .slice ta tl tc] 24)).alloc (.cells #[.int .i64 k, .int .i64 n, .int .i64 p, .string s, .slice na nl nc] 39)).alloc (.cells #[.int .i64 13, .int .i64 0, .int .i64 0, .string ⟨#[]⟩, .slice none 0 0, .slice none 0 0, .slice none 0 0] 28)).alloc (.cells #[.int .i64 13, .int .i64 0, .int .i64 0, .string ⟨#[]⟩, .slice none 0 0, .slice none 0 0, .slice none 0 0] 28)) = wf at *
  obtain ⟨z0, z1, z2, z3, z4, z5, z6⟩ := box7 hb'
  exact bodyPost_ret (v := .tuple #[vaV 13 0 0 ⟨#[]⟩ none 0 0 none 0 0 none 0 0, .bool false]) (by simp [results, Try.results47, go_sem, z0, z1, z2, z3, z4, z5, z6, vaV]) rfl ⟨rfl, hg'⟩

set_option maxRecDepth 100000 in
set_option maxHeartbeats 1000000 in
theorem rd_map {W : World} (ta : Option Addr) (tl tc : Nat) (n p : Int) (s : ByteArray) (na : Option Addr) (nl nc : Nat) (targs : List Ty) (l : List Tr) (HE : Hid (∀ W2, W.grownBy W2 none → Calls Try.prog 87 #[tyV 13 ta tl tc, .slice na nl nc] W2 (EachPost (readEs l targs) W2))) :
    Calls Try.prog 47 #[tyV 13 ta tl tc, nodeV 3 n p s na nl nc] W (ReadPost (.nd 3 n p s l) (.nd 13 targs) W) := by
  have HRE : Hid (readT (.nd 3 n p s l) (.nd 13 targs) = (readEs l targs).map (leafVa 13 0 ⟨#[]⟩)) := by show _ = _; rw [readT]; simp [Ty.t, Ty.args]
  have HN4 := Lf.hide (new4 W (.cells #[.int .i64 13, .slice ta tl tc] 24) (.cells #[.int .i64 3, .int .i64 n, .int .i64 p, .string s, .slice na nl nc] 39) (.cells #[.int .i64 0, .int .i64 0, .int .i64 0, .string ⟨#[]⟩, .slice none 0 0, .slice none 0 0, .slice none 0 0] 28) (.cells #[.int .i64 13, .int .i64 0, .int .i64 0, .string ⟨#[]⟩, .slice none 0 0, .slice none 0 0, .slice none 0 0] 28))
  have HG4 : Hid (W.grownBy ((((W.alloc (.cells #[.int .i64 13, .slice ta tl tc] 24)).alloc (.cells #[.int .i64 3, .int .i64 n, .int .i64 p, .string s, .slice na nl nc] 39)).alloc (.cells #[.int .i64 0, .int .i64 0, .int .i64 0, .string ⟨#[]⟩, .slice none 0 0, .slice none 0 0, .slice none 0 0] 28)).alloc (.cells #[.int .i64 13, .int .i64 0, .int .i64 0, .string ⟨#[]⟩, .slice none 0 0, .slice none 0 0, .slice none 0 0] 28)) none) := Lf.gbt (Lf.gbt (Lf.gbt (Lf.gb _) (Lf.gb _)) (Lf.gb _)) (Lf.gb _)
  generalize readEs l targs = r at *
  unfold tyV nodeV at *
  go_enter Try.func47, Try.ntmps47
  go_wp2_with fail
  refine (HE.out _ HG4.out).mono ?_; rintro e w1 ⟨hg1, hw⟩
  obtain ⟨n0, n1, n2, n3⟩ := HN4.out
  have hz1 := (hg1.block _ (lt_of_blk2 n2) (by simp)).trans n2
  have hv1 := (hg1.block _ (lt_of_blk2 n3) (by simp)).trans n3
  obtain ⟨v0, v1, v2, v3, v4, v5, v6⟩ := box7 hv1
  obtain ⟨y0, y1, y2, y3, y4, y5, y6⟩ := box7 hz1
  have fv := free7 hv1
  have fz := free7 hz1
  have HS1 : Hid (((((W.alloc (.cells #[.int .i64 13, .slice ta tl tc] 24)).alloc (.cells #[.int .i64 3, .int .i64 n, .int .i64 p, .string s, .slice na nl nc] 39)).alloc (.cells #[.int .i64 0, .int .i64 0, .int .i64 0, .string ⟨#[]⟩, .slice none 0 0, .slice none 0 0, .slice none 0 0] 28)).alloc (.cells #[.int .i64 13, .int .i64 0, .int .i64 0, .string ⟨#[]⟩, .slice none 0 0, .slice none 0 0, .slice none 0 0] 28)).heap.size = W.heap.size + 1 + 1 + 1 + 1) := by show _ = _; simp
  have HGZ0 := Lf.hide (Lf.gbt HG4.out hg1)
  have HV1 := Lf.hide hv1
  have HZ1 := Lf.hide hz1
  rcases hw with ⟨ys, rfl, ya, yc, V, rfl, hyc, hrow⟩ | ⟨rfl, rfl⟩
  · have HRT : Hid (readT (.nd 3 n p s l) (.nd 13 targs) = some (leafVa 13 0 ⟨#[]⟩ ys)) := by show _ = _; rw [HRE.out]; rfl
    have hgs := grow_set (g := W.heap.size + 1 + 1 + 1) (grow_refl w1 _) 4 none (.slice ya ys.length yc)
    have HGZ := Lf.hide (grow_new HGZ0.out hgs (by omega))
    have HZZ := Lf.hide ((hgs.block _ (lt_of_blk2 HZ1.out) (by simp)).trans HZ1.out)
    rw [HS1.out] at hrow
    have HROW := Lf.hide (hrow.same (w' := w1.setCell ⟨W.heap.size + 1 + 1 + 1, 4, none⟩ (.slice ya ys.length yc)) (fun b o hb hlt => World.cell?_of_block (hgs.block b hlt (by simp; have h : W.heap.size + 1 + 1 + 1 + 1 ≤ b := hb; omega))))
    have HCAP := Lf.hide hyc
    clear hrow hyc hgs hg1 n0 n1 n2 n3 HRE HE hz1 hv1
    go_wp2_with fail
    change bodyPost _ _ _ _ _ (set7 (w1.setCell ⟨W.heap.size + 1 + 1 + 1, 4, none⟩ (.slice ya ys.length yc)) (W.heap.size + 1 + 1) (.int .i64 13) (.int .i64 0) (.int .i64 0) (.string ⟨#[]⟩) (.slice ya ys.length yc) (.slice none 0 0) (.slice none 0 0))
    obtain ⟨j1, j2, j3⟩ := rd_fin (W := W) (wz := (w1.setCell ⟨W.heap.size + 1 + 1 + 1, 4, none⟩ (.slice ya ys.length yc))) 13 0 ⟨#[]⟩ ya ys.length yc HGZ.out HZZ.out
    generalize set7 (w1.setCell ⟨W.heap.size + 1 + 1 + 1, 4, none⟩ (.slice ya ys.length yc)) (W.heap.size + 1 + 1) (.int .i64 13) (.int .i64 0) (.int .i64 0) (.string ⟨#[]⟩) (.slice ya ys.length yc) (.slice none 0 0) (.slice none 0 0) = wf at *
    obtain ⟨z0, z1, z2, z3, z4, z5, z6⟩ := box7 j2
    refine bodyPost_ret (v := .tuple #[vaV 13 0 0 ⟨#[]⟩ ya ys.length yc none 0 0 none 0 0, .bool true]) (by simp [results, Try.results47, go_sem, z0, z1, z2, z3, z4, z5, z6, vaV]) rfl ⟨j1, _, _, _, _, _, _, _, _, _, _, _, _, _, _, rfl, ?_, ?_⟩
    · intro _
      exact ⟨leafVa 13 0 ⟨#[]⟩ ys, HRT.out, liesV_leaf ⟨by omega, by omega⟩ ⟨by omega, by omega⟩ (Nat.zero_le _) (j3 ys _ HROW.out) HCAP.out⟩
    · intro h; cases h
  · have HRT : Hid (readT (.nd 3 n p s l) (.nd 13 targs) = none) := by show _ = _; rw [HRE.out]; rfl
    have hgs := grow_set (g := W.heap.size + 1 + 1 + 1) (grow_refl w1 _) 4 none (.slice none 0 0)
    have HGZ := Lf.hide (grow_new HGZ0.out hgs (by omega))
    have HZZ := Lf.hide ((hgs.block _ (lt_of_blk2 HZ1.out) (by simp)).trans HZ1.out)
    clear hgs hg1 n0 n1 n2 n3 HRE HE hz1 hv1
    go_wp2_with fail
    change bodyPost _ _ _ _ _ (set7 (w1.setCell ⟨W.heap.size + 1 + 1 + 1, 4, none⟩ (.slice none 0 0)) (W.heap.size + 1 + 1) (.int .i64 13) (.int .i64 0) (.int .i64 0) (.string ⟨#[]⟩) (.slice none 0 0) (.slice none 0 0) (.slice none 0 0))
    obtain ⟨j1, j2, j3⟩ := rd_fin (W := W) (wz := (w1.setCell ⟨W.heap.size + 1 + 1 + 1, 4, none⟩ (.slice none 0 0))) 13 0 ⟨#[]⟩ none 0 0 HGZ.out HZZ.out
    generalize set7 (w1.setCell ⟨W.heap.size + 1 + 1 + 1, 4, none⟩ (.slice none 0 0)) (W.heap.size + 1 + 1) (.int .i64 13) (.int .i64 0) (.int .i64 0) (.string ⟨#[]⟩) (.slice none 0 0) (.slice none 0 0) (.slice none 0 0) = wf at *
    obtain ⟨z0, z1, z2, z3, z4, z5, z6⟩ := box7 j2
    refine bodyPost_ret (v := .tuple #[vaV 13 0 0 ⟨#[]⟩ none 0 0 none 0 0 none 0 0, .bool false]) (by simp [results, Try.results47, go_sem, z0, z1, z2, z3, z4, z5, z6, vaV]) rfl ⟨j1, _, _, _, _, _, _, _, _, _, _, _, _, _, _, rfl, ?_, ?_⟩
    · intro h; cases h
    · intro _; exact HRT.out

end Go.Proofs.Ytmmgihaoahhkjaa

/- read by its contract: a primitive, a list, and read itself. -/
namespace Go.Proofs.Ytmmgihaoahhkjaa
set_option maxRecDepth 20000
open Go.ChangeShapes Go.WideShapes Go.ChangeAt Go.RowKit
set_option linter.unusedVariables false

theorem readT_branch {k n p : Int} {s : ByteArray} {l : List Tr} {T : Ty} (h3 : T.t ≠ 3) (h4 : T.t ≠ 4) (h5 : T.t ≠ 5) (h6 : T.t ≠ 6) (h7 : T.t ≠ 7) (h10 : T.t ≠ 10) (h13 : T.t ≠ 13) : readT (.nd k n p s l) T = match branchF T p with
    | none => none
    | some (m, ts) => (readTs l ts).map (leafVa T.t m ⟨#[]⟩) := by
  rw [readT, if_neg (by omega), if_neg h6, if_neg h10, if_neg h13]
  rfl

theorem set_one7 {w : World} {g : Nat} {T : TypeId} {x0 x1 x2 x3 x4 x5 x6 : Value} (h : w.heap[g]? = some (.cells #[x0, x1, x2, x3, x4, x5, x6] T (0, 0))) (u : Value) :
    (w.setCell ⟨g, 1, none⟩ u).heap[g]? = some (.cells #[x0, u, x2, x3, x4, x5, x6] T (0, 0)) ∧ (w.setCell ⟨g, 4, none⟩ u).heap[g]? = some (.cells #[x0, x1, x2, x3, u, x5, x6] T (0, 0)) := by
  simp [World.setCell, Array.getElem?_modify, h]

set_option maxRecDepth 100000 in
set_option maxHeartbeats 1000000 in
theorem rd_def {W : World} {t : Int} (ta : Option Addr) (tl tc : Nat) (k n p : Int) (s : ByteArray) (na : Option Addr) (nl nc : Nat) {T : Ty} {l : List Tr} (ht : T.t = t) (it : I64 t) (h3 : t ≠ 3) (h4 : t ≠ 4) (h5 : t ≠ 5) (h6 : t ≠ 6) (h7 : t ≠ 7) (h10 : t ≠ 10) (h13 : t ≠ 13)
    (HB : Hid (∀ W2, W.grownBy W2 none → Calls Try.prog 88 #[tyV t ta tl tc, .int .i64 p] W2 (BranchPost (· < W.heap.size) T p W2)))
    (HE : Hid (∀ W2 ts xa xc VX, W.grownBy W2 none → RowT (fun _ => True) W2 ts xa VX → (∃ d, ∀ U ∈ ts, formedB d U = true) → Calls Try.prog 85 #[.slice na nl nc, .slice xa ts.length xc] W2 (EachPost (readTs l ts) W2))) :
    Calls Try.prog 47 #[tyV t ta tl tc, nodeV k n p s na nl nc] W (ReadPost (.nd k n p s l) T W) := by
  subst ht
  have HRE := Lf.hide (readT_branch (k := k) (n := n) (p := p) (s := s) (l := l) h3 h4 h5 h6 h7 h10 h13)
  have HIT := Lf.hide it
  generalize T.t = t at *
  have b3 : (t == 3) = false := by simpa using h3
  have b4 : (t == 4) = false := by simpa using h4
  have b5 : (t == 5) = false := by simpa using h5
  have b6 : (t == 6) = false := by simpa using h6
  have b7 : (t == 7) = false := by simpa using h7
  have b10 : (t == 10) = false := by simpa using h10
  have b13 : (t == 13) = false := by simpa using h13
  clear h3 h4 h5 h6 h7 h10 h13 it
  have HN4 := Lf.hide (new4 W (.cells #[.int .i64 t, .slice ta tl tc] 24) (.cells #[.int .i64 k, .int .i64 n, .int .i64 p, .string s, .slice na nl nc] 39) (.cells #[.int .i64 0, .int .i64 0, .int .i64 0, .string ⟨#[]⟩, .slice none 0 0, .slice none 0 0, .slice none 0 0] 28) (.cells #[.int .i64 t, .int .i64 0, .int .i64 0, .string ⟨#[]⟩, .slice none 0 0, .slice none 0 0, .slice none 0 0] 28))
  have HG4 : Hid (W.grownBy ((((W.alloc (.cells #[.int .i64 t, .slice ta tl tc] 24)).alloc (.cells #[.int .i64 k, .int .i64 n, .int .i64 p, .string s, .slice na nl nc] 39)).alloc (.cells #[.int .i64 0, .int .i64 0, .int .i64 0, .string ⟨#[]⟩, .slice none 0 0, .slice none 0 0, .slice none 0 0] 28)).alloc (.cells #[.int .i64 t, .int .i64 0, .int .i64 0, .string ⟨#[]⟩, .slice none 0 0, .slice none 0 0, .slice none 0 0] 28)) none) := Lf.gbt (Lf.gbt (Lf.gbt (Lf.gb _) (Lf.gb _)) (Lf.gb _)) (Lf.gb _)
  have HS4 : Hid (((((W.alloc (.cells #[.int .i64 t, .slice ta tl tc] 24)).alloc (.cells #[.int .i64 k, .int .i64 n, .int .i64 p, .string s, .slice na nl nc] 39)).alloc (.cells #[.int .i64 0, .int .i64 0, .int .i64 0, .string ⟨#[]⟩, .slice none 0 0, .slice none 0 0, .slice none 0 0] 28)).alloc (.cells #[.int .i64 t, .int .i64 0, .int .i64 0, .string ⟨#[]⟩, .slice none 0 0, .slice none 0 0, .slice none 0 0] 28)).heap.size = W.heap.size + 1 + 1 + 1 + 1) := by show _ = _; simp
  unfold tyV nodeV at *
  go_enter Try.func47, Try.ntmps47
  go_wp2_with fail
  refine (HB.out _ HG4.out).mono ?_; rintro e w1 ⟨hg1, hw⟩
  obtain ⟨n0, n1, n2, n3⟩ := HN4.out
  have hz1 := (hg1.block _ (lt_of_blk2 n2) (by simp)).trans n2
  have hv1 := (hg1.block _ (lt_of_blk2 n3) (by simp)).trans n3
  have hn1 := (hg1.block _ (lt_of_blk2 n1) (by simp)).trans n1
  have HGZ0 := Lf.hide (Lf.gbt HG4.out hg1)
  rcases hw with ⟨hbr, rfl⟩ | ⟨m, ts, xa, xc, VX, hbr, rfl, im, hrowT, hform, _⟩
  · have HRT : Hid (readT (.nd k n p s l) T = none) := by show _ = _; rw [HRE.out, hbr]
    obtain ⟨v0, v1, v2, v3, v4, v5, v6⟩ := box7 hv1
    obtain ⟨y0, y1, y2, y3, y4, y5, y6⟩ := box7 hz1
    have fv := free7 hv1
    have fz := free7 hz1
    have hgs := grow_set (g := W.heap.size + 1 + 1 + 1) (grow_refl w1 _) 1 none (.int .i64 0)
    have HGZ := Lf.hide (grow_new HGZ0.out hgs (by omega))
    have HZZ := Lf.hide ((hgs.block _ (lt_of_blk2 hz1) (by simp)).trans hz1)
    clear hgs hg1 n0 n1 n2 n3 HRE HE hz1 hv1 hn1 hbr HB HG4 HN4 HS4
    go_wp2_with fail
    change bodyPost _ _ _ _ _ (set7 (w1.setCell ⟨W.heap.size + 1 + 1 + 1, 1, none⟩ (.int .i64 0)) (W.heap.size + 1 + 1) (.int .i64 t) (.int .i64 0) (.int .i64 0) (.string ⟨#[]⟩) (.slice none 0 0) (.slice none 0 0) (.slice none 0 0))
    obtain ⟨j1, j2, j3⟩ := rd_fin (W := W) (wz := (w1.setCell ⟨W.heap.size + 1 + 1 + 1, 1, none⟩ (.int .i64 0))) t 0 ⟨#[]⟩ none 0 0 HGZ.out HZZ.out
    generalize set7 (w1.setCell ⟨W.heap.size + 1 + 1 + 1, 1, none⟩ (.int .i64 0)) (W.heap.size + 1 + 1) (.int .i64 t) (.int .i64 0) (.int .i64 0) (.string ⟨#[]⟩) (.slice none 0 0) (.slice none 0 0) (.slice none 0 0) = wf at *
    obtain ⟨z0, z1, z2, z3, z4, z5, z6⟩ := box7 j2
    refine bodyPost_ret (v := .tuple #[vaV t 0 0 ⟨#[]⟩ none 0 0 none 0 0 none 0 0, .bool false]) (by simp [results, Try.results47, go_sem, z0, z1, z2, z3, z4, z5, z6, vaV]) rfl ⟨j1, _, _, _, _, _, _, _, _, _, _, _, _, _, _, rfl, ?_, ?_⟩
    · intro h; cases h
    · intro _; exact HRT.out
  · have HRE2 : Hid (readT (.nd k n p s l) T = (readTs l ts).map (leafVa t m ⟨#[]⟩)) := by show _ = _; rw [HRE.out, hbr]
    have HIM := Lf.hide im
    obtain ⟨v0, v1, v2, v3, v4, v5, v6⟩ := box7 hv1
    obtain ⟨m0, m1, m2, m3, m4⟩ := box5 hn1
    have fv := free7 hv1
    have hgs := grow_set (g := W.heap.size + 1 + 1 + 1) (grow_refl w1 _) 1 none (.int .i64 m)
    have HGQ := Lf.hide (grow_new HGZ0.out hgs (by omega))
    have HZQ := Lf.hide ((hgs.block _ (lt_of_blk2 hz1) (by simp)).trans hz1)
    have HVQ := Lf.hide (set_one7 hv1 (.int .i64 m)).1
    have hsq : (w1.setCell ⟨W.heap.size + 1 + 1 + 1, 1, none⟩ (.int .i64 m)).heap.size = w1.heap.size := set_size _ _ _
    have hs1 := hg1.size
    rw [HS4.out] at hs1
    have HSQ : Hid (W.heap.size + 1 + 1 + 1 + 1 ≤ (w1.setCell ⟨W.heap.size + 1 + 1 + 1, 1, none⟩ (.int .i64 m)).heap.size) := by show _ ≤ _; omega
    have HCE := Lf.hide (HE.out (w1.setCell ⟨W.heap.size + 1 + 1 + 1, 1, none⟩ (.int .i64 m)) ts xa xc VX HGQ.out ((hrowT.same (w' := w1.setCell ⟨W.heap.size + 1 + 1 + 1, 1, none⟩ (.int .i64 m)) (fun b o hb hlt => World.cell?_of_block ((hgs.block b (Nat.lt_of_lt_of_le hlt hg1.size) (by simp; have h : b < W.heap.size := hb; omega)).trans (hg1.block b hlt (by simp))))).okMono (fun _ _ _ => trivial)) hform)
    clear hrowT hform hgs hg1 n0 n1 n2 n3 HRE HE hz1 hv1 hn1 hbr HB HG4 HN4 HS4 im hsq hs1
    go_wp2_with fail
    refine HCE.out.mono ?_; rintro e w2 ⟨hg2, hw⟩
    have hz2 := (hg2.block _ (lt_of_blk2 HZQ.out) (by simp)).trans HZQ.out
    have hv2 := (hg2.block _ (lt_of_blk2 HVQ.out) (by simp)).trans HVQ.out
    have HG2 := Lf.hide (Lf.gbt HGQ.out hg2)
    clear v0 v1 v2 v3 v4 v5 v6 m0 m1 m2 m3 m4 fv HCE HGZ0
    obtain ⟨v0, v1, v2, v3, v4, v5, v6⟩ := box7 hv2
    obtain ⟨y0, y1, y2, y3, y4, y5, y6⟩ := box7 hz2
    have fv := free7 hv2
    have fz := free7 hz2
    rcases hw with ⟨ys, hry, ya, yc, V, rfl, hyc, hrow⟩ | ⟨hry, rfl⟩
    · have HRT : Hid (readT (.nd k n p s l) T = some (leafVa t m ⟨#[]⟩ ys)) := by show _ = _; rw [HRE2.out, hry]; rfl
      have hgs := grow_set (g := W.heap.size + 1 + 1 + 1) (grow_refl w2 _) 4 none (.slice ya ys.length yc)
      have HGZ := Lf.hide (grow_new HG2.out hgs (by omega))
      have HZZ := Lf.hide ((hgs.block _ (lt_of_blk2 hz2) (by simp)).trans hz2)
      have hq := HSQ.out
      have HROW := Lf.hide ((hrow.same (w' := w2.setCell ⟨W.heap.size + 1 + 1 + 1, 4, none⟩ (.slice ya ys.length yc)) (fun b o hb hlt => World.cell?_of_block (hgs.block b hlt (by simp; have h : (w1.setCell ⟨W.heap.size + 1 + 1 + 1, 1, none⟩ (.int .i64 m)).heap.size ≤ b := hb; omega)))).okMono (ok' := (W.heap.size + 1 + 1 + 1 + 1 ≤ ·)) (fun b _ hb => by have h : (w1.setCell ⟨W.heap.size + 1 + 1 + 1, 1, none⟩ (.int .i64 m)).heap.size ≤ b := hb; show W.heap.size + 1 + 1 + 1 + 1 ≤ b; omega))
      have HCAP := Lf.hide hyc
      clear hrow hyc hgs hg2 hz2 hv2 hry hq HSQ HVQ HZQ HGQ
      go_wp2_with fail
      change bodyPost _ _ _ _ _ (set7 (w2.setCell ⟨W.heap.size + 1 + 1 + 1, 4, none⟩ (.slice ya ys.length yc)) (W.heap.size + 1 + 1) (.int .i64 t) (.int .i64 m) (.int .i64 0) (.string ⟨#[]⟩) (.slice ya ys.length yc) (.slice none 0 0) (.slice none 0 0))
      obtain ⟨j1, j2, j3⟩ := rd_fin (W := W) (wz := (w2.setCell ⟨W.heap.size + 1 + 1 + 1, 4, none⟩ (.slice ya ys.length yc))) t m ⟨#[]⟩ ya ys.length yc HGZ.out HZZ.out
      generalize set7 (w2.setCell ⟨W.heap.size + 1 + 1 + 1, 4, none⟩ (.slice ya ys.length yc)) (W.heap.size + 1 + 1) (.int .i64 t) (.int .i64 m) (.int .i64 0) (.string ⟨#[]⟩) (.slice ya ys.length yc) (.slice none 0 0) (.slice none 0 0) = wf at *
      obtain ⟨z0, z1, z2, z3, z4, z5, z6⟩ := box7 j2
      refine bodyPost_ret (v := .tuple #[vaV t m 0 ⟨#[]⟩ ya ys.length yc none 0 0 none 0 0, .bool true]) (by simp [results, Try.results47, go_sem, z0, z1, z2, z3, z4, z5, z6, vaV]) rfl ⟨j1, _, _, _, _, _, _, _, _, _, _, _, _, _, _, rfl, ?_, ?_⟩
      · intro _
        exact ⟨leafVa t m ⟨#[]⟩ ys, HRT.out, liesV_leaf HIT.out HIM.out (Nat.zero_le _) (j3 ys _ HROW.out) HCAP.out⟩
      · intro h; cases h
    · have HRT : Hid (readT (.nd k n p s l) T = none) := by show _ = _; rw [HRE2.out, hry]; rfl
      have hgs := grow_set (g := W.heap.size + 1 + 1 + 1) (grow_refl w2 _) 4 none (.slice none 0 0)
      have HGZ := Lf.hide (grow_new HG2.out hgs (by omega))
      have HZZ := Lf.hide ((hgs.block _ (lt_of_blk2 hz2) (by simp)).trans hz2)
      clear hgs hg2 hz2 hv2 hry HSQ HVQ HZQ HGQ
      go_wp2_with fail
      change bodyPost _ _ _ _ _ (set7 (w2.setCell ⟨W.heap.size + 1 + 1 + 1, 4, none⟩ (.slice none 0 0)) (W.heap.size + 1 + 1) (.int .i64 t) (.int .i64 m) (.int .i64 0) (.string ⟨#[]⟩) (.slice none 0 0) (.slice none 0 0) (.slice none 0 0))
      obtain ⟨j1, j2, j3⟩ := rd_fin (W := W) (wz := (w2.setCell ⟨W.heap.size + 1 + 1 + 1, 4, none⟩ (.slice none 0 0))) t m ⟨#[]⟩ none 0 0 HGZ.out HZZ.out
      generalize set7 (w2.setCell ⟨W.heap.size + 1 + 1 + 1, 4, none⟩ (.slice none 0 0)) (W.heap.size + 1 + 1) (.int .i64 t) (.int .i64 m) (.int .i64 0) (.string ⟨#[]⟩) (.slice none 0 0) (.slice none 0 0) (.slice none 0 0) = wf at *
      obtain ⟨z0, z1, z2, z3, z4, z5, z6⟩ := box7 j2
      refine bodyPost_ret (v := .tuple #[vaV t m 0 ⟨#[]⟩ none 0 0 none 0 0 none 0 0, .bool false]) (by simp [results, Try.results47, go_sem, z0, z1, z2, z3, z4, z5, z6, vaV]) rfl ⟨j1, _, _, _, _, _, _, _, _, _, _, _, _, _, _, rfl, ?_, ?_⟩
      · intro h; cases h
      · intro _; exact HRT.out

end Go.Proofs.Ytmmgihaoahhkjaa

/- read by its contract: a list, and read itself. -/
namespace Go.Proofs.Ytmmgihaoahhkjaa
set_option maxRecDepth 20000
open Go.ChangeShapes Go.WideShapes Go.ChangeAt Go.RowKit
set_option linter.unusedVariables false

theorem EachPost.form {r : Option (List Va)} {W : World} {e : Ending} {w' : World} (h : EachPost r W e w') : ∃ xa xl xc bb, e = .returned (.tuple #[.slice xa xl xc, .bool bb]) ∧ (bb = true → ∃ ys V, r = some ys ∧ xl = ys.length ∧ ys.length ≤ xc ∧ RowVa (W.heap.size ≤ ·) w' ys xa V) ∧ (bb = false → r = none) := by
  rcases h.2 with ⟨ys, hr, a, c, V, he, hc, hrow⟩ | ⟨hr, he⟩
  · exact ⟨a, _, c, true, he, fun _ => ⟨ys, V, hr, rfl, hc, hrow⟩, fun h => by cases h⟩
  · exact ⟨none, 0, 0, false, he, (fun h => by cases h), fun _ => hr⟩

theorem grow_ofDrewR {w w' : World} {r : Option Nat} (h : w.drew.grownBy w' r) : w.grownBy w' r := ⟨h.os, h.tape, h.output, h.size, h.block⟩

/-- behind a list's region: what was read lies in the value's block -/
theorem lsCut_of {r : Option (List Va)} {W w1 w2 : World} {xa : Option Addr} {xl xc : Nat} {bb : Bool} (hG : W.grownBy w2 none) (hz : w2.heap[W.heap.size + 1 + 1]? = some (.cells #[.int .i64 0, .int .i64 0, .int .i64 0, .string ⟨#[]⟩, .slice none 0 0, .slice none 0 0, .slice none 0 0] 28 (0, 0))) (hs : W.heap.size + 1 + 1 + 1 + 1 ≤ w1.heap.size)
    (h1 : bb = true → ∃ ys V, r = some ys ∧ xl = ys.length ∧ ys.length ≤ xc ∧ RowVa (w1.heap.size ≤ ·) w2 ys xa V) :
    W.grownBy (w2.setCell ⟨W.heap.size + 1 + 1 + 1, 4, none⟩ (.slice xa xl xc)) none ∧ (w2.setCell ⟨W.heap.size + 1 + 1 + 1, 4, none⟩ (.slice xa xl xc)).heap[W.heap.size + 1 + 1]? = some (.cells #[.int .i64 0, .int .i64 0, .int .i64 0, .string ⟨#[]⟩, .slice none 0 0, .slice none 0 0, .slice none 0 0] 28 (0, 0)) ∧
    (bb = true → ∃ ys V, r = some ys ∧ xl = ys.length ∧ ys.length ≤ xc ∧ RowVa (W.heap.size + 1 + 1 + 1 + 1 ≤ ·) (w2.setCell ⟨W.heap.size + 1 + 1 + 1, 4, none⟩ (.slice xa xl xc)) ys xa V) := by
  have hgs := grow_set (g := W.heap.size + 1 + 1 + 1) (grow_refl w2 _) 4 none (.slice xa xl xc)
  refine ⟨grow_new hG hgs (by omega), (hgs.block _ (lt_of_blk2 hz) (by simp)).trans hz, fun hb => ?_⟩
  obtain ⟨ys, V, e1, e2, e3, hrow⟩ := h1 hb
  exact ⟨ys, V, e1, e2, e3, (hrow.same (fun b o hb hlt => World.cell?_of_block (hgs.block b hlt (by simp; have h : w1.heap.size ≤ b := hb; omega)))).okMono (fun b _ hb => by have h : w1.heap.size ≤ b := hb; show W.heap.size + 1 + 1 + 1 + 1 ≤ b; omega)⟩

set_option maxRecDepth 100000 in
set_option maxHeartbeats 1000000 in
theorem rd_list {W : World} (b o tc : Nat) (n p : Int) (s : ByteArray) (na : Option Addr) (nl nc : Nat) {targs : List Ty} {l : List Tr} {t0 : Int} {a0 : Option Addr} {l0 c0 : Nat} {r : Option (List Va)} (hre : readT (.nd 3 n p s l) (.nd 10 targs) = r.map (leafVa 10 0 ⟨#[]⟩))
    (HRep : Hid (∀ W2, W.grownBy W2 none → Calls Try.prog 86 #[.slice (some ⟨b, o, none⟩) 1 tc, .int .i64 nl] W2 fun e w' => ∃ g c', e = .returned (.slice (some ⟨g, 0, none⟩) nl c') ∧ W2.heap.size ≤ g ∧ RepAt w' g nl nl (.int .i64 t0) (.slice a0 l0 c0) ∧ W2.grownBy w' none))
    (HE : Hid (∀ W2 g c', W.grownBy W2 none → RepAt W2 g nl nl (.int .i64 t0) (.slice a0 l0 c0) → Calls Try.prog 85 #[.slice na nl nc, .slice (some ⟨g, 0, none⟩) nl c'] W2 (EachPost r W2))) :
    Calls Try.prog 47 #[tyV 10 (some ⟨b, o, none⟩) 1 tc, nodeV 3 n p s na nl nc] W (ReadPost (.nd 3 n p s l) (.nd 10 targs) W) := by
  have HRE := Lf.hide hre
  clear hre
  unfold tyV nodeV at *
  go_enter Try.func47, Try.ntmps47
  go_wp2_with fail
  have hwb : W.grownBy ((W.alloc (.cells #[.int .i64 10, .slice (some ⟨b, o, none⟩) 1 tc] 24)).alloc (.cells #[.int .i64 3, .int .i64 n, .int .i64 p, .string s, .slice na nl nc] 39)) none := Lf.gbt (Lf.gb _) (Lf.gb _)
  have hsb : ((W.alloc (.cells #[.int .i64 10, .slice (some ⟨b, o, none⟩) 1 tc] 24)).alloc (.cells #[.int .i64 3, .int .i64 n, .int .i64 p, .string s, .slice na nl nc] 39)).heap.size = W.heap.size + 1 + 1 := by simp
  have n0 := res_new W (.cells #[.int .i64 10, .slice (some ⟨b, o, none⟩) 1 tc] 24) (.cells #[.int .i64 3, .int .i64 n, .int .i64 p, .string s, .slice na nl nc] 39)
  have n1 := new_twoI W (.cells #[.int .i64 10, .slice (some ⟨b, o, none⟩) 1 tc] 24) (.cells #[.int .i64 3, .int .i64 n, .int .i64 p, .string s, .slice na nl nc] 39)
  generalize (W.alloc (.cells #[.int .i64 10, .slice (some ⟨b, o, none⟩) 1 tc] 24)).alloc (.cells #[.int .i64 3, .int .i64 n, .int .i64 p, .string s, .slice na nl nc] 39) = wb at *
  have hw5 : wb.grownBy ((wb.alloc (.cells #[.int .i64 0, .int .i64 0, .int .i64 0, .string ⟨#[]⟩, .slice none 0 0, .slice none 0 0, .slice none 0 0] 28)).alloc (.cells #[.int .i64 10, .int .i64 0, .int .i64 0, .string ⟨#[]⟩, .slice none 0 0, .slice none 0 0, .slice none 0 0] 28)) none := Lf.gbt (Lf.gb _) (Lf.gb _)
  have hs5 : ((wb.alloc (.cells #[.int .i64 0, .int .i64 0, .int .i64 0, .string ⟨#[]⟩, .slice none 0 0, .slice none 0 0, .slice none 0 0] 28)).alloc (.cells #[.int .i64 10, .int .i64 0, .int .i64 0, .string ⟨#[]⟩, .slice none 0 0, .slice none 0 0, .slice none 0 0] 28)).heap.size = W.heap.size + 1 + 1 + 1 + 1 := by simp; omega
  have n2 := res_new wb (.cells #[.int .i64 0, .int .i64 0, .int .i64 0, .string ⟨#[]⟩, .slice none 0 0, .slice none 0 0, .slice none 0 0] 28) (.cells #[.int .i64 10, .int .i64 0, .int .i64 0, .string ⟨#[]⟩, .slice none 0 0, .slice none 0 0, .slice none 0 0] 28)
  have n3 := new_twoI wb (.cells #[.int .i64 0, .int .i64 0, .int .i64 0, .string ⟨#[]⟩, .slice none 0 0, .slice none 0 0, .slice none 0 0] 28) (.cells #[.int .i64 10, .int .i64 0, .int .i64 0, .string ⟨#[]⟩, .slice none 0 0, .slice none 0 0, .slice none 0 0] 28)
  rw [hsb] at n2 n3
  generalize (wb.alloc (.cells #[.int .i64 0, .int .i64 0, .int .i64 0, .string ⟨#[]⟩, .slice none 0 0, .slice none 0 0, .slice none 0 0] 28)).alloc (.cells #[.int .i64 10, .int .i64 0, .int .i64 0, .string ⟨#[]⟩, .slice none 0 0, .slice none 0 0, .slice none 0 0] 28) = w5 at *
  have k0 : ∀ W3 : World, wb.grownBy W3 none → W3.heap[W.heap.size]? = _ := fun W3 h => (h.block _ (lt_of_blk2 n0) (by simp)).trans n0
  have k1 : ∀ W3 : World, wb.grownBy W3 none → W3.heap[W.heap.size + 1]? = _ := fun W3 h => (h.block _ (lt_of_blk2 n1) (by simp)).trans n1
  have f0 : ∀ W3 : World, wb.grownBy W3 none → W3.cell? ⟨W.heap.size + 1, 4, none⟩ = some (.slice na nl nc) := fun W3 h => (box5 (k1 W3 h)).2.2.2.2
  have f1 : ∀ W3 : World, wb.grownBy W3 none → W3.cell? ⟨W.heap.size, 1, none⟩ = some (.slice (some ⟨b, o, none⟩) 1 tc) := fun W3 h => cell1_of (k0 W3 h)
  have HWB := Lf.hide hwb
  have HN2 := Lf.hide n2
  have HN3 := Lf.hide n3
  have hw5d := grow_drew hw5
  have hle : wb.heap.size ≤ W.heap.size + 1 + 1 + 1 := by omega
  have HS5 := Lf.hide hs5
  have HW5 := Lf.hide hw5
  clear k0 k1 n0 n1 n2 n3 hwb hw5 hs5 hsb
  go_region_held3 (fun w' => wb.grownBy w' none) (first | with_reducible assumption | with_reducible exact grow_setNew (by assumption) hle _ _ _ | with_reducible exact Lf.gbt (by assumption) (Lf.gb _)) (first
      | (go_at_call 86; refine (HRep.out _ (Lf.gbt HWB.out (by assumption))).mono ?_; rintro e w1 ⟨g, c', rfl, hgs, hrep, hg⟩; have hS := Lf.gbt hw5d hg; have HP := Lf.hide hrep; have HG1 := Lf.hide (grow_ofDrewR hg); clear hgs hrep hg)
      | (go_at_call 85; refine (HE.out _ _ _ (Lf.gbt HWB.out (by assumption)) HP.out).mono ?_; rintro e w2 hpost; obtain ⟨xa, xl, xc, bb, rfl, hpt, hpf⟩ := hpost.form; have hS2 := Lf.gbt (by assumption) hpost.1; have hg2 := Lf.gbt HG1.out hpost.1; have HZ2 := Lf.hide ((hg2.block _ (lt_of_blk2 HN2.out) (by simp)).trans HN2.out); have HV2 := Lf.hide ((hg2.block _ (lt_of_blk2 HN3.out) (by simp)).trans HN3.out); have fv := free7 HV2.out; have HG2 := Lf.hide (Lf.gbt HWB.out hS2); have HPT := Lf.hide hpt; have HPF := Lf.hide hpf; have HS1 : Hid (W.heap.size + 1 + 1 + 1 + 1 ≤ w1.heap.size) := (by show _ ≤ _; have h1 := HG1.out.size; have h2 := HS5.out; have h3 : w5.heap.size ≤ w1.heap.size := h1; omega); obtain ⟨v0, v1, v2, v3, v4, v5, v6⟩ := box7 HV2.out; obtain ⟨y0, y1, y2, y3, y4, y5, y6⟩ := box7 HZ2.out; have fz := free7 HZ2.out; clear hpost hpt hpf hg2 f0 f1))
  all_goals
    have HCUT := Lf.hide (lsCut_of HG2.out HZ2.out HS1.out HPT.out)
    clear HRep HE hw5d HWB HN2 HN3 HW5 HS5 HPT HP HG1
    go_wp2_with fail
    obtain ⟨hgz, hzz, hpt⟩ := HCUT.out
    have HGZ := Lf.hide hgz
    have HZZ := Lf.hide hzz
    change bodyPost _ _ _ _ _ (set7 (w2.setCell ⟨W.heap.size + 1 + 1 + 1, 4, none⟩ (.slice xa xl xc)) (W.heap.size + 1 + 1) (.int .i64 10) (.int .i64 0) (.int .i64 0) (.string ⟨#[]⟩) (.slice xa xl xc) (.slice none 0 0) (.slice none 0 0))
    obtain ⟨j1, j2, j3⟩ := rd_fin (W := W) (wz := (w2.setCell ⟨W.heap.size + 1 + 1 + 1, 4, none⟩ (.slice xa xl xc))) 10 0 ⟨#[]⟩ xa xl xc HGZ.out HZZ.out
    generalize set7 (w2.setCell ⟨W.heap.size + 1 + 1 + 1, 4, none⟩ (.slice xa xl xc)) (W.heap.size + 1 + 1) (.int .i64 10) (.int .i64 0) (.int .i64 0) (.string ⟨#[]⟩) (.slice xa xl xc) (.slice none 0 0) (.slice none 0 0) = wf at *
    obtain ⟨z0, z1, z2, z3, z4, z5, z6⟩ := box7 j2
    refine bodyPost_ret (v := .tuple #[vaV 10 0 0 ⟨#[]⟩ xa xl xc none 0 0 none 0 0, .bool bb]) (by simp [results, Try.results47, go_sem, z0, z1, z2, z3, z4, z5, z6, vaV]) rfl ⟨j1, _, _, _, _, _, _, _, _, _, _, _, _, _, _, rfl, ?_, ?_⟩
    · intro hb
      obtain ⟨ys, V, e1, e2, e3, hrow⟩ := hpt hb
      subst e2
      exact ⟨leafVa 10 0 ⟨#[]⟩ ys, by rw [HRE.out, e1]; rfl, liesV_leaf ⟨by omega, by omega⟩ ⟨by omega, by omega⟩ (Nat.zero_le _) (j3 ys _ hrow) e3⟩
    · intro hb
      rw [HRE.out, HPF.out hb]; rfl

theorem leafPost {t n : Int} {s : ByteArray} {tr : Tr} {T : Ty} {W : World} {bb : Bool} (it : I64 t) (iN : I64 n) (hs : s.size ≤ maxLen) (h1 : bb = true → readT tr T = some (leafVa t n s [])) (h2 : bb = false → readT tr T = none) {e : Ending} {w' : World} (h : e = .returned (.tuple #[vaV t n 0 s none 0 0 none 0 0 none 0 0, .bool bb]) ∧ W.grownBy w' none) : ReadPost tr T W e w' :=
  ⟨h.2, _, _, _, _, _, _, _, _, _, _, _, _, _, _, h.1, fun hb => ⟨_, h1 hb, liesV_leaf (ys := []) it iN hs (RowVa.nil _ _ none (fun _ => .int .i64 0)) (Nat.le_refl _)⟩, h2⟩

theorem read_step {N : Nat} (hN : ReadN N) : ReadN (N + 1) := by
  intro tr T u tv W d hz hz9 hL hT hf
  obtain ⟨na, nc, VN, rfl, ⟨ik, iN, ip, hs⟩, hRN⟩ := hL.invN
  have hTc := hT
  have hTW : LiesT (· < W.heap.size) W T tv := hT.okMono (fun b hb _ => hb)
  obtain ⟨ta, tc, VT, rfl, it, hRT⟩ := hT.inv
  have hse := tsize_eq tr
  have hll := length_le_sizes tr.args0
  obtain ⟨hlen, hfa⟩ := formed_args2 hf
  have I0 : I64 0 := ⟨by omega, by omega⟩
  obtain ⟨k, n, p, s, l⟩ := tr
  simp only [Tr.k0, Tr.n0, Tr.p0, Tr.s0, Tr.args0] at *
  have hEach : ∀ W2 ts xa xc VX, W.grownBy W2 none → RowT (fun _ => True) W2 ts xa VX → (∃ d, ∀ U ∈ ts, formedB d U = true) → Calls Try.prog 85 #[.slice na l.length nc, .slice xa ts.length xc] W2 (EachPost (readTs l ts) W2) := fun W2 ts xa xc VX hg hr hd => by
    obtain ⟨d', hd'⟩ := hd
    exact readEach_any hN (hRN.same (sameAll hg)) hr hd' (by omega) (by omega)
  obtain ⟨t, targs⟩ := T
  simp only [Ty.t, Ty.args] at *
  by_cases h3 : t = 3
  · subst h3
    exact (rd_int3 _ _ _ _ _ _ _ _ _ _ _).mono fun e w' h => leafPost it iN (Nat.zero_le _) (fun hb => by rw [readT]; simp [Ty.t]; simpa using hb) (fun hb => by rw [readT]; simp [Ty.t]; simpa using hb) h
  by_cases h4 : t = 4
  · subst h4
    exact (rd_int4 _ _ _ _ _ _ _ _ _ _ _).mono fun e w' h => leafPost it iN (Nat.zero_le _) (fun hb => by rw [readT]; simp [Ty.t]; simpa using hb) (fun hb => by rw [readT]; simp [Ty.t]; simpa using hb) h
  by_cases h5 : t = 5
  · subst h5
    exact (rd_int5 _ _ _ _ _ _ _ _ _ _ _).mono fun e w' h => leafPost it iN (Nat.zero_le _) (fun hb => by rw [readT]; simp [Ty.t]; simpa using hb) (fun hb => by rw [readT]; simp [Ty.t]; simpa using hb) h
  by_cases h7 : t = 7
  · subst h7
    exact (rd_int7 _ _ _ _ _ _ _ _ _ _ _).mono fun e w' h => leafPost it iN (Nat.zero_le _) (fun hb => by rw [readT]; simp [Ty.t]; simpa using hb) (fun hb => by rw [readT]; simp [Ty.t]; simpa using hb) h
  by_cases h6 : t = 6
  · subst h6
    exact (rd_text _ _ _ _ _ _ _ _ _ _ _).mono fun e w' h => leafPost it I0 hs (fun hb => by rw [readT]; simp [Ty.t]; simpa using hb) (fun hb => by rw [readT]; simp [Ty.t]; simpa using hb) h
  by_cases h10 : t = 10
  · subst h10
    by_cases hk : k = 3
    · subst hk
      have hl1 : targs.length = 1 := by simp [partsF] at hlen; omega
      obtain ⟨A, rfl⟩ := List.length_eq_one_iff.1 hl1
      obtain ⟨b, o, rfl, _, t0, a0, l0, c0, hv0, e0, e1⟩ := hRT.2.1 0 (by simp)
      have hA := hRT.2.2 0 (by simp)
      rw [hv0] at hA
      refine rd_list b o tc n p s na l.length nc (t0 := t0) (a0 := a0) (l0 := l0) (c0 := c0) (r := readTs l (List.replicate l.length A)) (by rw [readT]; simp [Ty.t, Ty.args, tyAt]) (fun W2 hg => ?_) (fun W2 g c' hg hrep => ?_)
      · exact repeat_at t0 a0 l0 c0 b o l.length tc (by omega) W2 (by have := (World.cell?_of_block (hg.block b (World.block_lt_of_cell? W _ e0) (by simp))).trans e0; simpa using this) (by have := (World.cell?_of_block (hg.block b (World.block_lt_of_cell? W _ e0) (by simp))).trans e1; simpa using this)
      · have ht := rep_tys (T := A) (W := W2) (w := W2) (LiesT.same hA (sameAll hg)) (by unfold maxLen; omega) hrep
        have h := hEach W2 (List.replicate l.length A) (some ⟨g, 0, none⟩) c' _ hg ⟨ht.1, fun i hi => (ht.2 i hi).1, fun i hi => (ht.2 i hi).2⟩ ⟨d + 1, fun U hU => by rw [List.eq_of_mem_replicate hU]; exact hfa A (by simp)⟩
        rw [List.length_replicate] at h
        exact h
    · exact (rd_list0 _ _ _ _ _ _ _ _ _ _ _ hk).mono fun e w' h => leafPost it I0 (Nat.zero_le _) (fun hb => by cases hb) (fun _ => by rw [readT]; simp [Ty.t, hk]) h
  by_cases h13 : t = 13
  · subst h13
    by_cases hk : k = 3
    · subst hk
      exact rd_map _ _ _ n p s _ _ _ targs l (fun W2 hg => readElts_any hN (LiesT.same hTc (sameAll hg)) (hRN.same (sameAll hg)) hfa (by omega) (by omega))
    · exact (rd_map0 _ _ _ _ _ _ _ _ _ _ _ hk).mono fun e w' h => leafPost it I0 (Nat.zero_le _) (fun hb => by cases hb) (fun _ => by rw [readT]; simp [Ty.t, hk]) h
  exact rd_def _ _ _ k n p s _ _ _ rfl it h3 h4 h5 h6 h7 h10 h13 (fun W2 hg => branch_any (hTW.same (fun b o hb _ => World.cell?_of_block (hg.block b hb (by simp)))) hf p) hEach

/-- read, whatever tree and type -/
theorem read_all : ∀ N, ReadN N
  | 0 => fun t _ _ _ _ _ h => by have := size_pos t; omega
  | N + 1 => read_step (read_all N)

end Go.Proofs.Ytmmgihaoahhkjaa
