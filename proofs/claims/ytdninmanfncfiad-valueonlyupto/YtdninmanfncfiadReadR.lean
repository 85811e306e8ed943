/- read by its contract: the walks, a case each. -/
import Derived.Test.YtdninmanfncfiadReadL
namespace Go.Proofs.Ytdninmanfncfiad
set_option maxRecDepth 20000
open Go.ChangeShapes Go.WideShapes Go.ChangeAt Go.RowKit
set_option linter.unusedVariables false

theorem new4 (w : World) (o1 o2 o3 o4 : Obj) : ((((w.alloc o1).alloc o2).alloc o3).alloc o4).heap[w.heap.size]? = some o1 ∧ ((((w.alloc o1).alloc o2).alloc o3).alloc o4).heap[w.heap.size + 1]? = some o2 ∧ ((((w.alloc o1).alloc o2).alloc o3).alloc o4).heap[w.heap.size + 1 + 1]? = some o3 ∧ ((((w.alloc o1).alloc o2).alloc o3).alloc o4).heap[w.heap.size + 1 + 1 + 1]? = some o4 :=
  ⟨heap_keep (heap_keep (res_new w o1 o2)), heap_keep (heap_keep (new_twoI w o1 o2)), heap_keep (new_3of3 w o1 o2 o3), new_4of4 w o1 o2 o3 o4⟩

/-- what read gives is laid in its result -/
theorem rd_fin {W wz : World} (t m : Int) (s : ByteArray) (a : Option Addr) (l c : Nat) {x0 x1 x2 x3 x4 x5 x6 : Value} (hg : W.grownBy wz none) (hb : wz.heap[W.heap.size + 1 + 1]? = some (.cells #[x0, x1, x2, x3, x4, x5, x6] 30 (0, 0))) :
    W.grownBy (set7 wz (W.heap.size + 1 + 1) (.int .i64 t) (.int .i64 m) (.int .i64 0) (.string s) (.slice a l c) (.slice none 0 0) (.slice none 0 0)) none ∧ (set7 wz (W.heap.size + 1 + 1) (.int .i64 t) (.int .i64 m) (.int .i64 0) (.string s) (.slice a l c) (.slice none 0 0) (.slice none 0 0)).heap[W.heap.size + 1 + 1]? = some (.cells #[.int .i64 t, .int .i64 m, .int .i64 0, .string s, .slice a l c, .slice none 0 0, .slice none 0 0] 30 (0, 0)) ∧
    ∀ ys V, RowVa (W.heap.size + 1 + 1 + 1 + 1 ≤ ·) wz ys a V → RowVa (W.heap.size ≤ ·) (set7 wz (W.heap.size + 1 + 1) (.int .i64 t) (.int .i64 m) (.int .i64 0) (.string s) (.slice a l c) (.slice none 0 0) (.slice none 0 0)) ys a V := by
  have hgs := set7_grow wz (W.heap.size + 1 + 1) (.int .i64 t) (.int .i64 m) (.int .i64 0) (.string s) (.slice a l c) (.slice none 0 0) (.slice none 0 0)
  refine ⟨grow_new hg hgs (by omega), set7_block hb _ _ _ _ _ _ _, fun ys V hR => ?_⟩
  refine (hR.same (fun b o hb hlt => World.cell?_of_block (hgs.block b hlt (by simp; have h : W.heap.size + 1 + 1 + 1 + 1 ≤ b := hb; omega)))).okMono (fun b _ hb => by have h : W.heap.size + 1 + 1 + 1 + 1 ≤ b := hb; show W.heap.size ≤ b; omega)

set_option maxRecDepth 100000 in
set_option maxHeartbeats 1000000 in
theorem rd_int3 (ta : Option Addr) (tl tc : Nat) (k n p : Int) (s : ByteArray) (na : Option Addr) (nl nc : Nat) (W : World) : Calls Try.prog 18 #[tyV 3 ta tl tc, nodeV k n p s na nl nc] W fun e w' => e = .returned (.tuple #[vaV 3 n 0 ⟨#[]⟩ none 0 0 none 0 0 none 0 0, .bool (k == 0)]) ∧ W.grownBy w' none := by
  unfold tyV nodeV
  go_enter Try.func18, Try.ntmps18
  go_wp2_with fail
  go_region_with (fail)
  all_goals
    go_wp2_with fail
    have hb' : ((((W.alloc (.cells #[.int .i64 3, .slice ta tl tc] 24)).alloc (.cells #[.int .i64 k, .int .i64 n, .int .i64 p, .string s, .slice na nl nc] 27)).alloc (.cells #[.int .i64 3, .int .i64 n, .int .i64 0, .string ⟨#[]⟩, .slice none 0 0, .slice none 0 0, .slice none 0 0] 30)).alloc (.cells #[.int .i64 3, .int .i64 n, .int .i64 0, .string ⟨#[]⟩, .slice none 0 0, .slice none 0 0, .slice none 0 0] 30)).drew.heap[W.heap.size + 1 + 1]? = some (.cells #[.int .i64 3, .int .i64 n, .int .i64 0, .string ⟨#[]⟩, .slice none 0 0, .slice none 0 0, .slice none 0 0] 30 (0, 0)) := new_3of4 _ _ _ _ _
    have hg' : W.grownBy ((((W.alloc (.cells #[.int .i64 3, .slice ta tl tc] 24)).alloc (.cells #[.int .i64 k, .int .i64 n, .int .i64 p, .string s, .slice na nl nc] 27)).alloc (.cells #[.int .i64 3, .int .i64 n, .int .i64 0, .string ⟨#[]⟩, .slice none 0 0, .slice none 0 0, .slice none 0 0] 30)).alloc (.cells #[.int .i64 3, .int .i64 n, .int .i64 0, .string ⟨#[]⟩, .slice none 0 0, .slice none 0 0, .slice none 0 0] 30)).drew none := grow_drew (Lf.gbt (Lf.gbt (Lf.gbt (Lf.gb _) (Lf.gb _)) (Lf.gb _)) (Lf.gb _))
    generalize ((((W.alloc (.cells #[.int .i64 3, .slice ta tl tc] 24)).alloc (.cells #[.int .i64 k, .int .i64 n, .int .i64 p, .string s, .slice na nl nc] 27)).alloc (.cells #[.int .i64 3, .int .i64 n, .int .i64 0, .string ⟨#[]⟩, .slice none 0 0, .slice none 0 0, .slice none 0 0] 30)).alloc (.cells #[.int .i64 3, .int .i64 n, .int .i64 0, .string ⟨#[]⟩, .slice none 0 0, .slice none 0 0, .slice none 0 0] 30)).drew = wf at *
    obtain ⟨z0, z1, z2, z3, z4, z5, z6⟩ := box7 hb'
    exact bodyPost_ret (v := .tuple #[vaV 3 n 0 ⟨#[]⟩ none 0 0 none 0 0 none 0 0, .bool (k == 0)]) (by simp [results, Try.results18, go_sem, z0, z1, z2, z3, z4, z5, z6, vaV]) rfl ⟨rfl, hg'⟩

set_option maxRecDepth 100000 in
set_option maxHeartbeats 1000000 in
theorem rd_int4 (ta : Option Addr) (tl tc : Nat) (k n p : Int) (s : ByteArray) (na : Option Addr) (nl nc : Nat) (W : World) : Calls Try.prog 18 #[tyV 4 ta tl tc, nodeV k n p s na nl nc] W fun e w' => e = .returned (.tuple #[vaV 4 n 0 ⟨#[]⟩ none 0 0 none 0 0 none 0 0, .bool (k == 0)]) ∧ W.grownBy w' none := by
  unfold tyV nodeV
  go_enter Try.func18, Try.ntmps18
  go_wp2_with fail
  go_region_with (fail)
  all_goals
    go_wp2_with fail
    have hb' : ((((W.alloc (.cells #[.int .i64 4, .slice ta tl tc] 24)).alloc (.cells #[.int .i64 k, .int .i64 n, .int .i64 p, .string s, .slice na nl nc] 27)).alloc (.cells #[.int .i64 4, .int .i64 n, .int .i64 0, .string ⟨#[]⟩, .slice none 0 0, .slice none 0 0, .slice none 0 0] 30)).alloc (.cells #[.int .i64 4, .int .i64 n, .int .i64 0, .string ⟨#[]⟩, .slice none 0 0, .slice none 0 0, .slice none 0 0] 30)).drew.heap[W.heap.size + 1 + 1]? = some (.cells #[.int .i64 4, .int .i64 n, .int .i64 0, .string ⟨#[]⟩, .slice none 0 0, .slice none 0 0, .slice none 0 0] 30 (0, 0)) := new_3of4 _ _ _ _ _
    have hg' : W.grownBy ((((W.alloc (.cells #[.int .i64 4, .slice ta tl tc] 24)).alloc (.cells #[.int .i64 k, .int .i64 n, .int .i64 p, .string s, .slice na nl nc] 27)).alloc (.cells #[.int .i64 4, .int .i64 n, .int .i64 0, .string ⟨#[]⟩, .slice none 0 0, .slice none 0 0, .slice none 0 0] 30)).alloc (.cells #[.int .i64 4, .int .i64 n, .int .i64 0, .string ⟨#[]⟩, .slice none 0 0, .slice none 0 0, .slice none 0 0] 30)).drew none := grow_drew (Lf.gbt (Lf.gbt (Lf.gbt (Lf.gb _) (Lf.gb _)) (Lf.gb _)) (Lf.gb _))
    generalize ((((W.alloc (.cells #[.int .i64 4, .slice ta tl tc] 24)).alloc (.cells #[.int .i64 k, .int .i64 n, .int .i64 p, .string s, .slice na nl nc] 27)).alloc (.cells #[.int .i64 4, .int .i64 n, .int .i64 0, .string ⟨#[]⟩, .slice none 0 0, .slice none 0 0, .slice none 0 0] 30)).alloc (.cells #[.int .i64 4, .int .i64 n, .int .i64 0, .string ⟨#[]⟩, .slice none 0 0, .slice none 0 0, .slice none 0 0] 30)).drew = wf at *
    obtain ⟨z0, z1, z2, z3, z4, z5, z6⟩ := box7 hb'
    exact bodyPost_ret (v := .tuple #[vaV 4 n 0 ⟨#[]⟩ none 0 0 none 0 0 none 0 0, .bool (k == 0)]) (by simp [results, Try.results18, go_sem, z0, z1, z2, z3, z4, z5, z6, vaV]) rfl ⟨rfl, hg'⟩

set_option maxRecDepth 100000 in
set_option maxHeartbeats 1000000 in
theorem rd_int5 (ta : Option Addr) (tl tc : Nat) (k n p : Int) (s : ByteArray) (na : Option Addr) (nl nc : Nat) (W : World) : Calls Try.prog 18 #[tyV 5 ta tl tc, nodeV k n p s na nl nc] W fun e w' => e = .returned (.tuple #[vaV 5 n 0 ⟨#[]⟩ none 0 0 none 0 0 none 0 0, .bool (k == 0)]) ∧ W.grownBy w' none := by
  unfold tyV nodeV
  go_enter Try.func18, Try.ntmps18
  go_wp2_with fail
  go_region_with (fail)
  all_goals
    go_wp2_with fail
    have hb' : ((((W.alloc (.cells #[.int .i64 5, .slice ta tl tc] 24)).alloc (.cells #[.int .i64 k, .int .i64 n, .int .i64 p, .string s, .slice na nl nc] 27)).alloc (.cells #[.int .i64 5, .int .i64 n, .int .i64 0, .string ⟨#[]⟩, .slice none 0 0, .slice none 0 0, .slice none 0 0] 30)).alloc (.cells #[.int .i64 5, .int .i64 n, .int .i64 0, .string ⟨#[]⟩, .slice none 0 0, .slice none 0 0, .slice none 0 0] 30)).drew.heap[W.heap.size + 1 + 1]? = some (.cells #[.int .i64 5, .int .i64 n, .int .i64 0, .string ⟨#[]⟩, .slice none 0 0, .slice none 0 0, .slice none 0 0] 30 (0, 0)) := new_3of4 _ _ _ _ _
    have hg' : W.grownBy ((((W.alloc (.cells #[.int .i64 5, .slice ta tl tc] 24)).alloc (.cells #[.int .i64 k, .int .i64 n, .int .i64 p, .string s, .slice na nl nc] 27)).alloc (.cells #[.int .i64 5, .int .i64 n, .int .i64 0, .string ⟨#[]⟩, .slice none 0 0, .slice none 0 0, .slice none 0 0] 30)).alloc (.cells #[.int .i64 5, .int .i64 n, .int .i64 0, .string ⟨#[]⟩, .slice none 0 0, .slice none 0 0, .slice none 0 0] 30)).drew none := grow_drew (Lf.gbt (Lf.gbt (Lf.gbt (Lf.gb _) (Lf.gb _)) (Lf.gb _)) (Lf.gb _))
    generalize ((((W.alloc (.cells #[.int .i64 5, .slice ta tl tc] 24)).alloc (.cells #[.int .i64 k, .int .i64 n, .int .i64 p, .string s, .slice na nl nc] 27)).alloc (.cells #[.int .i64 5, .int .i64 n, .int .i64 0, .string ⟨#[]⟩, .slice none 0 0, .slice none 0 0, .slice none 0 0] 30)).alloc (.cells #[.int .i64 5, .int .i64 n, .int .i64 0, .string ⟨#[]⟩, .slice none 0 0, .slice none 0 0, .slice none 0 0] 30)).drew = wf at *
    obtain ⟨z0, z1, z2, z3, z4, z5, z6⟩ := box7 hb'
    exact bodyPost_ret (v := .tuple #[vaV 5 n 0 ⟨#[]⟩ none 0 0 none 0 0 none 0 0, .bool (k == 0)]) (by simp [results, Try.results18, go_sem, z0, z1, z2, z3, z4, z5, z6, vaV]) rfl ⟨rfl, hg'⟩

set_option maxRecDepth 100000 in
set_option maxHeartbeats 1000000 in
theorem rd_int7 (ta : Option Addr) (tl tc : Nat) (k n p : Int) (s : ByteArray) (na : Option Addr) (nl nc : Nat) (W : World) : Calls Try.prog 18 #[tyV 7 ta tl tc, nodeV k n p s na nl nc] W fun e w' => e = .returned (.tuple #[vaV 7 n 0 ⟨#[]⟩ none 0 0 none 0 0 none 0 0, .bool (k == 0)]) ∧ W.grownBy w' none := by
  unfold tyV nodeV
  go_enter Try.func18, Try.ntmps18
  go_wp2_with fail
  go_region_with (fail)
  all_goals
    go_wp2_with fail
    have hb' : ((((W.alloc (.cells #[.int .i64 7, .slice ta tl tc] 24)).alloc (.cells #[.int .i64 k, .int .i64 n, .int .i64 p, .string s, .slice na nl nc] 27)).alloc (.cells #[.int .i64 7, .int .i64 n, .int .i64 0, .string ⟨#[]⟩, .slice none 0 0, .slice none 0 0, .slice none 0 0] 30)).alloc (.cells #[.int .i64 7, .int .i64 n, .int .i64 0, .string ⟨#[]⟩, .slice none 0 0, .slice none 0 0, .slice none 0 0] 30)).drew.heap[W.heap.size + 1 + 1]? = some (.cells #[.int .i64 7, .int .i64 n, .int .i64 0, .string ⟨#[]⟩, .slice none 0 0, .slice none 0 0, .slice none 0 0] 30 (0, 0)) := new_3of4 _ _ _ _ _
    have hg' : W.grownBy ((((W.alloc (.cells #[.int .i64 7, .slice ta tl tc] 24)).alloc (.cells #[.int .i64 k, .int .i64 n, .int .i64 p, .string s, .slice na nl nc] 27)).alloc (.cells #[.int .i64 7, .int .i64 n, .int .i64 0, .string ⟨#[]⟩, .slice none 0 0, .slice none 0 0, .slice none 0 0] 30)).alloc (.cells #[.int .i64 7, .int .i64 n, .int .i64 0, .string ⟨#[]⟩, .slice none 0 0, .slice none 0 0, .slice none 0 0] 30)).drew none := grow_drew (Lf.gbt (Lf.gbt (Lf.gbt (Lf.gb _) (Lf.gb _)) (Lf.gb _)) (Lf.gb _))
    generalize ((((W.alloc (.cells #[.int .i64 7, .slice ta tl tc] 24)).alloc (.cells #[.int .i64 k, .int .i64 n, .int .i64 p, .string s, .slice na nl nc] 27)).alloc (.cells #[.int .i64 7, .int .i64 n, .int .i64 0, .string ⟨#[]⟩, .slice none 0 0, .slice none 0 0, .slice none 0 0] 30)).alloc (.cells #[.int .i64 7, .int .i64 n, .int .i64 0, .string ⟨#[]⟩, .slice none 0 0, .slice none 0 0, .slice none 0 0] 30)).drew = wf at *
    obtain ⟨z0, z1, z2, z3, z4, z5, z6⟩ := box7 hb'
    exact bodyPost_ret (v := .tuple #[vaV 7 n 0 ⟨#[]⟩ none 0 0 none 0 0 none 0 0, .bool (k == 0)]) (by simp [results, Try.results18, go_sem, z0, z1, z2, z3, z4, z5, z6, vaV]) rfl ⟨rfl, hg'⟩

set_option maxRecDepth 100000 in
set_option maxHeartbeats 1000000 in
theorem rd_text (ta : Option Addr) (tl tc : Nat) (k n p : Int) (s : ByteArray) (na : Option Addr) (nl nc : Nat) (W : World) : Calls Try.prog 18 #[tyV 6 ta tl tc, nodeV k n p s na nl nc] W fun e w' => e = .returned (.tuple #[vaV 6 0 0 s none 0 0 none 0 0 none 0 0, .bool (k == 1)]) ∧ W.grownBy w' none := by
  unfold tyV nodeV
  go_enter Try.func18, Try.ntmps18
  go_wp2_with fail
  go_region_with (fail)
  all_goals
    go_wp2_with fail
    have hb' : ((((W.alloc (.cells #[.int .i64 6, .slice ta tl tc] 24)).alloc (.cells #[.int .i64 k, .int .i64 n, .int .i64 p, .string s, .slice na nl nc] 27)).alloc (.cells #[.int .i64 6, .int .i64 0, .int .i64 0, .string s, .slice none 0 0, .slice none 0 0, .slice none 0 0] 30)).alloc (.cells #[.int .i64 6, .int .i64 0, .int .i64 0, .string s, .slice none 0 0, .slice none 0 0, .slice none 0 0] 30)).drew.heap[W.heap.size + 1 + 1]? = some (.cells #[.int .i64 6, .int .i64 0, .int .i64 0, .string s, .slice none 0 0, .slice none 0 0, .slice none 0 0] 30 (0, 0)) := new_3of4 _ _ _ _ _
    have hg' : W.grownBy ((((W.alloc (.cells #[.int .i64 6, .slice ta tl tc] 24)).alloc (.cells #[.int .i64 k, .int .i64 n, .int .i64 p, .string s, .slice na nl nc] 27)).alloc (.cells #[.int .i64 6, .int .i64 0, .int .i64 0, .string s, .slice none 0 0, .slice none 0 0, .slice none 0 0] 30)).alloc (.cells #[.int .i64 6, .int .i64 0, .int .i64 0, .string s, .slice none 0 0, .slice none 0 0, .slice none 0 0] 30)).drew none := grow_drew (Lf.gbt (Lf.gbt (Lf.gbt (Lf.gb _) (Lf.gb _)) (Lf.gb _)) (Lf.gb _))
    generalize ((((W.alloc (.cells #[.int .i64 6, .slice ta tl tc] 24)).alloc (.cells #[.int .i64 k, .int .i64 n, .int .i64 p, .string s, .slice na nl nc] 27)).alloc (.cells #[.int .i64 6, .int .i64 0, .int .i64 0, .string s, .slice none 0 0, .slice none 0 0, .slice none 0 0] 30)).alloc (.cells #[.int .i64 6, .int .i64 0, .int .i64 0, .string s, .slice none 0 0, .slice none 0 0, .slice none 0 0] 30)).drew = wf at *
    obtain ⟨z0, z1, z2, z3, z4, z5, z6⟩ := box7 hb'
    exact bodyPost_ret (v := .tuple #[vaV 6 0 0 s none 0 0 none 0 0 none 0 0, .bool (k == 1)]) (by simp [results, Try.results18, go_sem, z0, z1, z2, z3, z4, z5, z6, vaV]) rfl ⟨rfl, hg'⟩

set_option maxRecDepth 100000 in
set_option maxHeartbeats 1000000 in
theorem rd_list0 (ta : Option Addr) (tl tc : Nat) (k n p : Int) (s : ByteArray) (na : Option Addr) (nl nc : Nat) (W : World) (h3 : k ≠ 3) : Calls Try.prog 18 #[tyV 10 ta tl tc, nodeV k n p s na nl nc] W fun e w' => e = .returned (.tuple #[vaV 10 0 0 ⟨#[]⟩ none 0 0 none 0 0 none 0 0, .bool false]) ∧ W.grownBy w' none := by
  have hk3 : (k == 3) = false := by simpa using h3
  clear h3
  unfold tyV nodeV
  go_enter Try.func18, Try.ntmps18
  go_wp2_with fail
  have hb' := new_3of4 W (.cells #[.int .i64 10, .slice ta tl tc] 24) (.cells #[.int .i64 k, .int .i64 n, .int .i64 p, .string s, .slice na nl nc] 27) (.cells #[.int .i64 10, .int .i64 0, .int .i64 0, .string ⟨#[]⟩, .slice none 0 0, .slice none 0 0, .slice none 0 0] 30) (.cells #[.int .i64 10, .int .i64 0, .int .i64 0, .string ⟨#[]⟩, .slice none 0 0, .slice none 0 0, .slice none 0 0] 30)
  have hg' : W.grownBy ((((W.alloc (.cells #[.int .i64 10, .slice ta tl tc] 24)).alloc (.cells #[.int .i64 k, .int .i64 n, .int .i64 p, .string s, .slice na nl nc] 27)).alloc (.cells #[.int .i64 10, .int .i64 0, .int .i64 0, .string ⟨#[]⟩, .slice none 0 0, .slice none 0 0, .slice none 0 0] 30)).alloc (.cells #[.int .i64 10, .int .i64 0, .int .i64 0, .string ⟨#[]⟩, .slice none 0 0, .slice none 0 0, .slice none 0 0] 30)) none := Lf.gbt (Lf.gbt (Lf.gbt (Lf.gb _) (Lf.gb _)) (Lf.gb _)) (Lf.gb _)
  generalize ((((W.alloc (.cells #[.int .i64 10, .slice ta tl tc] 24)).alloc (.cells #[.int .i64 k, .int .i64 n, .int .i64 p, .string s, .slice na nl nc] 27)).alloc (.cells #[.int .i64 10, .int .i64 0, .int .i64 0, .string ⟨#[]⟩, .slice none 0 0, .slice none 0 0, .slice none 0 0] 30)).alloc (.cells #[.int .i64 10, .int .i64 0, .int .i64 0, .string ⟨#[]⟩, .slice none 0 0, .slice none 0 0, .slice none 0 0] 30)) = wf at *
  obtain ⟨z0, z1, z2, z3, z4, z5, z6⟩ := box7 hb'
  exact bodyPost_ret (v := .tuple #[vaV 10 0 0 ⟨#[]⟩ none 0 0 none 0 0 none 0 0, .bool false]) (by simp [results, Try.results18, go_sem, z0, z1, z2, z3, z4, z5, z6, vaV]) rfl ⟨rfl, hg'⟩

set_option maxRecDepth 100000 in
set_option maxHeartbeats 1000000 in
theorem rd_map0 (ta : Option Addr) (tl tc : Nat) (k n p : Int) (s : ByteArray) (na : Option Addr) (nl nc : Nat) (W : World) (h3 : k ≠ 3) : Calls Try.prog 18 #[tyV 13 ta tl tc, nodeV k n p s na nl nc] W fun e w' => e = .returned (.tuple #[vaV 13 0 0 ⟨#[]⟩ none 0 0 none 0 0 none 0 0, .bool false]) ∧ W.grownBy w' none := by
  have hk3 : (k == 3) = false := by simpa using h3
  clear h3
  unfold tyV nodeV
  go_enter Try.func18, Try.ntmps18
  go_wp2_with fail
  have hb' := new_3of4 W (.cells #[.int .i64 13, .slice ta tl tc] 24) (.cells #[.int .i64 k, .int .i64 n, .int .i64 p, .string s, .slice na nl nc] 27) (.cells #[.int .i64 13, .int .i64 0, .int .i64 0, .string ⟨#[]⟩, .slice none 0 0, .slice none 0 0, .slice none 0 0] 30) (.cells #[.int .i64 13, .int .i64 0, .int .i64 0, .string ⟨#[]⟩, .slice none 0 0, .slice none 0 0, .slice none 0 0] 30)
  have hg' : W.grownBy ((((W.alloc (.cells #[.int .i64 13, .slice ta tl tc] 24)).alloc (.cells #[.int .i64 k, .int .i64 n, .int .i64 p, .string s, .slice na nl nc] 27)).alloc (.cells #[.int .i64 13, .int .i64 0, .int .i64 0, .string ⟨#[]⟩, .slice none 0 0, .slice none 0 0, .slice none 0 0] 30)).alloc (.cells #[.int .i64 13, .int .i64 0, .int .i64 0, .string ⟨#[]⟩, .slice none 0 0, .slice none 0 0, .slice none 0 0] 30)) none := Lf.gbt (Lf.gbt (Lf.gbt (Lf.gb _) (Lf.gb _)) (Lf.gb _)) (Lf.gb _)
  generalize ((((W.alloc (.cells #[.int .i64 13, .slice ta tl tc] 24)).alloc (.cells #[.int .i64 k, .int .i64 n, .int .i64 p, .string s, .slice na nl nc] 27)).alloc (.cells #[.int .i64 13, .int .i64 0, .int .i64 0, .string ⟨#[]⟩, .slice none 0 0, .slice none 0 0, .slice none 0 0] 30)).alloc (.cells #[.int .i64 13, .int .i64 0, .int .i64 0, .string ⟨#[]⟩, .slice none 0 0, .slice none 0 0, .slice none 0 0] 30)) = wf at *
  obtain ⟨z0, z1, z2, z3, z4, z5, z6⟩ := box7 hb'
  exact bodyPost_ret (v := .tuple #[vaV 13 0 0 ⟨#[]⟩ none 0 0 none 0 0 none 0 0, .bool false]) (by simp [results, Try.results18, go_sem, z0, z1, z2, z3, z4, z5, z6, vaV]) rfl ⟨rfl, hg'⟩

set_option maxRecDepth 100000 in
set_option maxHeartbeats 1000000 in
theorem rd_map {W : World} (ta : Option Addr) (tl tc : Nat) (n p : Int) (s : ByteArray) (na : Option Addr) (nl nc : Nat) (targs : List Ty) (l : List Tr) (HE : Hid (∀ W2, W.grownBy W2 none → Calls Try.prog 46 #[tyV 13 ta tl tc, .slice na nl nc] W2 (EachPost (readEs l targs) W2))) :
    Calls Try.prog 18 #[tyV 13 ta tl tc, nodeV 3 n p s na nl nc] W (ReadPost (.nd 3 n p s l) (.nd 13 targs) W) := by
  have HRE : Hid (readT (.nd 3 n p s l) (.nd 13 targs) = (readEs l targs).map (leafVa 13 0 ⟨#[]⟩)) := by show _ = _; rw [readT]; simp [Ty.t, Ty.args]
  have HN4 := Lf.hide (new4 W (.cells #[.int .i64 13, .slice ta tl tc] 24) (.cells #[.int .i64 3, .int .i64 n, .int .i64 p, .string s, .slice na nl nc] 27) (.cells #[.int .i64 0, .int .i64 0, .int .i64 0, .string ⟨#[]⟩, .slice none 0 0, .slice none 0 0, .slice none 0 0] 30) (.cells #[.int .i64 13, .int .i64 0, .int .i64 0, .string ⟨#[]⟩, .slice none 0 0, .slice none 0 0, .slice none 0 0] 30))
  have HG4 : Hid (W.grownBy ((((W.alloc (.cells #[.int .i64 13, .slice ta tl tc] 24)).alloc (.cells #[.int .i64 3, .int .i64 n, .int .i64 p, .string s, .slice na nl nc] 27)).alloc (.cells #[.int .i64 0, .int .i64 0, .int .i64 0, .string ⟨#[]⟩, .slice none 0 0, .slice none 0 0, .slice none 0 0] 30)).alloc (.cells #[.int .i64 13, .int .i64 0, .int .i64 0, .string ⟨#[]⟩, .slice none 0 0, .slice none 0 0, .slice none 0 0] 30)) none) := Lf.gbt (Lf.gbt (Lf.gbt (Lf.gb _) (Lf.gb _)) (Lf.gb _)) (Lf.gb _)
  generalize readEs l targs = r at *
  unfold tyV nodeV at *
  go_enter Try.func18, Try.ntmps18
  go_wp2_with fail
  refine (HE.out _ HG4.out).mono ?_; rintro e w1 ⟨hg1, hw⟩
  obtain ⟨n0, n1, n2, n3⟩ := HN4.out
  have hz1 := (hg1.block _ (lt_of_blk2 n2) (by simp)).trans n2
  have hv1 := (hg1.block _ (lt_of_blk2 n3) (by simp)).trans n3
  obtain ⟨v0, v1, v2, v3, v4, v5, v6⟩ := box7 hv1
  obtain ⟨y0, y1, y2, y3, y4, y5, y6⟩ := box7 hz1
  have fv := free7 hv1
  have fz := free7 hz1
  have HS1 : Hid (((((W.alloc (.cells #[.int .i64 13, .slice ta tl tc] 24)).alloc (.cells #[.int .i64 3, .int .i64 n, .int .i64 p, .string s, .slice na nl nc] 27)).alloc (.cells #[.int .i64 0, .int .i64 0, .int .i64 0, .string ⟨#[]⟩, .slice none 0 0, .slice none 0 0, .slice none 0 0] 30)).alloc (.cells #[.int .i64 13, .int .i64 0, .int .i64 0, .string ⟨#[]⟩, .slice none 0 0, .slice none 0 0, .slice none 0 0] 30)).heap.size = W.heap.size + 1 + 1 + 1 + 1) := by show _ = _; simp
  have HGZ0 := Lf.hide (Lf.gbt HG4.out hg1)
  have HV1 := Lf.hide hv1
  have HZ1 := Lf.hide hz1
  rcases hw with ⟨ys, rfl, ya, yc, V, rfl, hyc, hrow⟩ | ⟨rfl, rfl⟩
  · have HRT : Hid (readT (.nd 3 n p s l) (.nd 13 targs) = some (leafVa 13 0 ⟨#[]⟩ ys)) := by show _ = _; rw [HRE.out]; rfl
    have hgs := grow_set (g := W.heap.size + 1 + 1 + 1) (grow_refl w1 _) 4 none (.slice ya ys.length yc)
    have HGZ := Lf.hide (grow_new HGZ0.out hgs (by omega))
    have HZZ := Lf.hide ((hgs.block _ (lt_of_blk2 HZ1.out) (by simp)).trans HZ1.out)
    rw [HS1.out] at hrow
    have HROW := Lf.hide (hrow.same (w' := w1.setCell ⟨W.heap.size + 1 + 1 + 1, 4, none⟩ (.slice ya ys.length yc)) (fun b o hb hlt => World.cell?_of_block (hgs.block b hlt (by simp; have h : W.heap.size + 1 + 1 + 1 + 1 ≤ b := hb; omega))))
    have HCAP := Lf.hide hyc
    clear hrow hyc hgs hg1 n0 n1 n2 n3 HRE HE hz1 hv1
    go_wp2_with fail
    change bodyPost _ _ _ _ _ (set7 (w1.setCell ⟨W.heap.size + 1 + 1 + 1, 4, none⟩ (.slice ya ys.length yc)) (W.heap.size + 1 + 1) (.int .i64 13) (.int .i64 0) (.int .i64 0) (.string ⟨#[]⟩) (.slice ya ys.length yc) (.slice none 0 0) (.slice none 0 0))
    obtain ⟨j1, j2, j3⟩ := rd_fin (W := W) (wz := (w1.setCell ⟨W.heap.size + 1 + 1 + 1, 4, none⟩ (.slice ya ys.length yc))) 13 0 ⟨#[]⟩ ya ys.length yc HGZ.out HZZ.out
    generalize set7 (w1.setCell ⟨W.heap.size + 1 + 1 + 1, 4, none⟩ (.slice ya ys.length yc)) (W.heap.size + 1 + 1) (.int .i64 13) (.int .i64 0) (.int .i64 0) (.string ⟨#[]⟩) (.slice ya ys.length yc) (.slice none 0 0) (.slice none 0 0) = wf at *
    obtain ⟨z0, z1, z2, z3, z4, z5, z6⟩ := box7 j2
    refine bodyPost_ret (v := .tuple #[vaV 13 0 0 ⟨#[]⟩ ya ys.length yc none 0 0 none 0 0, .bool true]) (by simp [results, Try.results18, go_sem, z0, z1, z2, z3, z4, z5, z6, vaV]) rfl ⟨j1, _, _, _, _, _, _, _, _, _, _, _, _, _, _, rfl, ?_, ?_⟩
    · intro _
      exact ⟨leafVa 13 0 ⟨#[]⟩ ys, HRT.out, liesV_leaf ⟨by omega, by omega⟩ ⟨by omega, by omega⟩ (Nat.zero_le _) (j3 ys _ HROW.out) HCAP.out⟩
    · intro h; cases h
  · have HRT : Hid (readT (.nd 3 n p s l) (.nd 13 targs) = none) := by show _ = _; rw [HRE.out]; rfl
    have hgs := grow_set (g := W.heap.size + 1 + 1 + 1) (grow_refl w1 _) 4 none (.slice none 0 0)
    have HGZ := Lf.hide (grow_new HGZ0.out hgs (by omega))
    have HZZ := Lf.hide ((hgs.block _ (lt_of_blk2 HZ1.out) (by simp)).trans HZ1.out)
    clear hgs hg1 n0 n1 n2 n3 HRE HE hz1 hv1
    go_wp2_with fail
    change bodyPost _ _ _ _ _ (set7 (w1.setCell ⟨W.heap.size + 1 + 1 + 1, 4, none⟩ (.slice none 0 0)) (W.heap.size + 1 + 1) (.int .i64 13) (.int .i64 0) (.int .i64 0) (.string ⟨#[]⟩) (.slice none 0 0) (.slice none 0 0) (.slice none 0 0))
    obtain ⟨j1, j2, j3⟩ := rd_fin (W := W) (wz := (w1.setCell ⟨W.heap.size + 1 + 1 + 1, 4, none⟩ (.slice none 0 0))) 13 0 ⟨#[]⟩ none 0 0 HGZ.out HZZ.out
    generalize set7 (w1.setCell ⟨W.heap.size + 1 + 1 + 1, 4, none⟩ (.slice none 0 0)) (W.heap.size + 1 + 1) (.int .i64 13) (.int .i64 0) (.int .i64 0) (.string ⟨#[]⟩) (.slice none 0 0) (.slice none 0 0) (.slice none 0 0) = wf at *
    obtain ⟨z0, z1, z2, z3, z4, z5, z6⟩ := box7 j2
    refine bodyPost_ret (v := .tuple #[vaV 13 0 0 ⟨#[]⟩ none 0 0 none 0 0 none 0 0, .bool false]) (by simp [results, Try.results18, go_sem, z0, z1, z2, z3, z4, z5, z6, vaV]) rfl ⟨j1, _, _, _, _, _, _, _, _, _, _, _, _, _, _, rfl, ?_, ?_⟩
    · intro h; cases h
    · intro _; exact HRT.out

end Go.Proofs.Ytdninmanfncfiad
