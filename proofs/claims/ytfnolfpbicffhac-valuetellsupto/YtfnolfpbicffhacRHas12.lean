/- The document's own has: RHas12. (Made by wip/tools/gen-rhas.py.) -/
import Derived.Test.YtfnolfpbicffhacRHasV
namespace Go.Proofs.Ytfnolfpbicffhac
set_option maxRecDepth 20000
open Go.ChangeShapes Go.WideShapes Go.ChangeAt Go.RowKit
set_option linter.unusedVariables false

set_option maxRecDepth 100000 in
set_option maxHeartbeats 4000000 in
theorem rhas_12_no {W : World} {xa : Int} {s : ByteArray} {na : Option Addr} {nl nc : Nat} {a aa ta : Option Addr} {tn c al ac tl tc : Nat} {n : Int}  (HB : Hid (Ans 90 #[.agg #[.int .i64 12, .int .i64 n, .int .i64 xa, .string s, .slice aa al ac, .slice ta tl tc, .slice na nl nc], .bool true, .bool false, .bool false, .int .i64 1, .int .i64 0, .bool false] W false)) :
    Calls Try.prog 51 #[.agg #[.int .i64 12, .slice a tn c], .agg #[.int .i64 12, .int .i64 n, .int .i64 xa, .string s, .slice aa al ac, .slice ta tl tc, .slice na nl nc]] W fun e w' => e = .returned (.bool false) ∧ W.grownBy w' none := by
  have HG0 := Lf.hide (Lf.gbt (Lf.gb (w := W) (.cells #[.int .i64 12, .slice a tn c] 24)) (Lf.gb (.cells #[.int .i64 12, .int .i64 n, .int .i64 xa, .string s, .slice aa al ac, .slice ta tl tc, .slice na nl nc] 30)))
  have hA := res_new W (.cells #[.int .i64 12, .slice a tn c] 24) (.cells #[.int .i64 12, .int .i64 n, .int .i64 xa, .string s, .slice aa al ac, .slice ta tl tc, .slice na nl nc] 30)
  have hB := rnew_two W (.cells #[.int .i64 12, .slice a tn c] 24) (.cells #[.int .i64 12, .int .i64 n, .int .i64 xa, .string s, .slice aa al ac, .slice ta tl tc, .slice na nl nc] 30)
  go_enter Try.func51, Try.ntmps51
  go_wp2_with fail
  generalize (W.alloc (.cells #[.int .i64 12, .slice a tn c] 24)).alloc (.cells #[.int .i64 12, .int .i64 n, .int .i64 xa, .string s, .slice aa al ac, .slice ta tl tc, .slice na nl nc] 30) = w5 at *
  have qd0 : ∀ W3 : World, w5.grownBy W3 none → W3.cell? ⟨W.heap.size, 0, none⟩ = some (.int .i64 12) := fun W3 h => cell0_of (keepB hA h)
  have qd1 : ∀ W3 : World, w5.grownBy W3 none → W3.cell? ⟨W.heap.size, 1, none⟩ = some (.slice a tn c) := fun W3 h => cell1_of (keepB hA h)
  have bd0 : ∀ W3 : World, w5.grownBy W3 none → W3.cell? ⟨W.heap.size + 1, 0, none⟩ = some (.int .i64 12) := fun W3 h => (box7 (keepB hB h)).1
  have bd1 : ∀ W3 : World, w5.grownBy W3 none → W3.cell? ⟨W.heap.size + 1, 1, none⟩ = some (.int .i64 n) := fun W3 h => (box7 (keepB hB h)).2.1
  have bd2 : ∀ W3 : World, w5.grownBy W3 none → W3.cell? ⟨W.heap.size + 1, 2, none⟩ = some (.int .i64 xa) := fun W3 h => (box7 (keepB hB h)).2.2.1
  have bd3 : ∀ W3 : World, w5.grownBy W3 none → W3.cell? ⟨W.heap.size + 1, 3, none⟩ = some (.string s) := fun W3 h => (box7 (keepB hB h)).2.2.2.1
  have bd4 : ∀ W3 : World, w5.grownBy W3 none → W3.cell? ⟨W.heap.size + 1, 4, none⟩ = some (.slice aa al ac) := fun W3 h => (box7 (keepB hB h)).2.2.2.2.1
  have bd5 : ∀ W3 : World, w5.grownBy W3 none → W3.cell? ⟨W.heap.size + 1, 5, none⟩ = some (.slice ta tl tc) := fun W3 h => (box7 (keepB hB h)).2.2.2.2.2.1
  have bd6 : ∀ W3 : World, w5.grownBy W3 none → W3.cell? ⟨W.heap.size + 1, 6, none⟩ = some (.slice na nl nc) := fun W3 h => (box7 (keepB hB h)).2.2.2.2.2.2
  clear hA hB
  refine wp_region_held_drew (S := fun w' => w5.grownBy w' none) (by kernel_rfl) ?_ (fun hHeld => ?_)
  · exact grow_drew (grow_refl _ _)
  refine reg_yes (i := 0) (d := 164) (v := ?_) ⟨_, rfl, rfl, by rfl, ?_⟩ (by kernel_rfl) (by kernel_rfl) (by kernel_rfl) (fun _ _ _ h => h) (by assumption) ?_
  rotate_left
  · intro w hSw; go_simp; try with_reducible rfl
  simp only [Act.put, List.setIfInBounds_toArray, List.set_cons_zero, List.set_cons_succ]
  refine wpAnyH_ready (rs := [1]) (by kernel_rfl) (by simp) ?_
  refine AllReadyH.cons rfl (fun K hK => ?_) AllReadyH.nil
  go_simp
  go_at_call 90
  refine (HB.out _ (Lf.gbt HG0.out hHeld)).mono ?_; rintro e v0 ⟨rfl, hg0⟩
  have hH0 := Lf.gbt hHeld hg0
  refine hK.out _ _ hH0 (fun _ => ?_)
  clear hK K hHeld hg0
  have hHeld := hH0
  clear hH0
  refine reg_yes (i := 2) (d := 166) (v := ?_) ⟨_, rfl, rfl, by rfl, ?_⟩ (by kernel_rfl) (by kernel_rfl) (by kernel_rfl) (fun _ _ _ h => h) (by assumption) ?_
  rotate_left
  · intro w hSw; go_simp; try with_reducible rfl
  simp only [Act.put, List.setIfInBounds_toArray, List.set_cons_zero, List.set_cons_succ]
  refine reg_no (i := 3) (d := 167) ⟨_, rfl, rfl, by rfl⟩ (by kernel_rfl) (by kernel_rfl) (by kernel_rfl) (fun _ _ _ h => h) (by assumption) ?_
  simp only [Act.put, List.setIfInBounds_toArray, List.set_cons_zero, List.set_cons_succ]
  refine reg_no (i := 4) (d := 168) ⟨_, rfl, rfl, by rfl⟩ (by kernel_rfl) (by kernel_rfl) (by kernel_rfl) (fun _ _ _ h => h) (by assumption) ?_
  simp only [Act.put, List.setIfInBounds_toArray, List.set_cons_zero, List.set_cons_succ]
  refine reg_no (i := 5) (d := 169) ⟨_, rfl, rfl, by rfl⟩ (by kernel_rfl) (by kernel_rfl) (by kernel_rfl) (fun _ _ _ h => h) (by assumption) ?_
  simp only [Act.put, List.setIfInBounds_toArray, List.set_cons_zero, List.set_cons_succ]
  refine reg_no (i := 6) (d := 170) ⟨_, rfl, rfl, by rfl⟩ (by kernel_rfl) (by kernel_rfl) (by kernel_rfl) (fun _ _ _ h => h) (by assumption) ?_
  simp only [Act.put, List.setIfInBounds_toArray, List.set_cons_zero, List.set_cons_succ]
  refine reg_no (i := 7) (d := 171) ⟨_, rfl, rfl, by rfl⟩ (by kernel_rfl) (by kernel_rfl) (by kernel_rfl) (fun _ _ _ h => h) (by assumption) ?_
  simp only [Act.put, List.setIfInBounds_toArray, List.set_cons_zero, List.set_cons_succ]
  refine reg_no (i := 8) (d := 172) ⟨_, rfl, rfl, by rfl⟩ (by kernel_rfl) (by kernel_rfl) (by kernel_rfl) (fun _ _ _ h => h) (by assumption) ?_
  simp only [Act.put, List.setIfInBounds_toArray, List.set_cons_zero, List.set_cons_succ]
  refine reg_no (i := 9) (d := 173) ⟨_, rfl, rfl, by rfl⟩ (by kernel_rfl) (by kernel_rfl) (by kernel_rfl) (fun _ _ _ h => h) (by assumption) ?_
  simp only [Act.put, List.setIfInBounds_toArray, List.set_cons_zero, List.set_cons_succ]
  refine reg_no (i := 10) (d := 174) ⟨_, rfl, rfl, by rfl⟩ (by kernel_rfl) (by kernel_rfl) (by kernel_rfl) (fun _ _ _ h => h) (by assumption) ?_
  simp only [Act.put, List.setIfInBounds_toArray, List.set_cons_zero, List.set_cons_succ]
  refine reg_yes (i := 11) (d := 175) (v := ?_) ⟨_, rfl, rfl, by rfl, ?_⟩ (by kernel_rfl) (by kernel_rfl) (by kernel_rfl) (fun _ _ _ h => h) (by assumption) ?_
  rotate_left
  · intro w hSw; go_simp; try with_reducible rfl
  simp only [Act.put, List.setIfInBounds_toArray, List.set_cons_zero, List.set_cons_succ]
  refine reg_yes (i := 12) (d := 176) (v := ?_) ⟨_, rfl, rfl, by rfl, ?_⟩ (by kernel_rfl) (by kernel_rfl) (by kernel_rfl) (fun _ _ _ h => h) (by assumption) ?_
  rotate_left
  · intro w hSw; go_simp; try with_reducible rfl
  simp only [Act.put, List.setIfInBounds_toArray, List.set_cons_zero, List.set_cons_succ]
  refine reg_no (i := 13) (d := 177) ⟨_, rfl, rfl, by rfl⟩ (by kernel_rfl) (by kernel_rfl) (by kernel_rfl) (fun _ _ _ h => h) (by assumption) ?_
  simp only [Act.put, List.setIfInBounds_toArray, List.set_cons_zero, List.set_cons_succ]
  refine reg_no (i := 14) (d := 178) ⟨_, rfl, rfl, by rfl⟩ (by kernel_rfl) (by kernel_rfl) (by kernel_rfl) (fun _ _ _ h => h) (by assumption) ?_
  simp only [Act.put, List.setIfInBounds_toArray, List.set_cons_zero, List.set_cons_succ]
  refine reg_no (i := 15) (d := 179) ⟨_, rfl, rfl, by rfl⟩ (by kernel_rfl) (by kernel_rfl) (by kernel_rfl) (fun _ _ _ h => h) (by assumption) ?_
  simp only [Act.put, List.setIfInBounds_toArray, List.set_cons_zero, List.set_cons_succ]
  refine reg_no (i := 16) (d := 180) ⟨_, rfl, rfl, by rfl⟩ (by kernel_rfl) (by kernel_rfl) (by kernel_rfl) (fun _ _ _ h => h) (by assumption) ?_
  simp only [Act.put, List.setIfInBounds_toArray, List.set_cons_zero, List.set_cons_succ]
  refine reg_no (i := 17) (d := 181) ⟨_, rfl, rfl, by rfl⟩ (by kernel_rfl) (by kernel_rfl) (by kernel_rfl) (fun _ _ _ h => h) (by assumption) ?_
  simp only [Act.put, List.setIfInBounds_toArray, List.set_cons_zero, List.set_cons_succ]
  refine reg_no (i := 18) (d := 182) ⟨_, rfl, rfl, by rfl⟩ (by kernel_rfl) (by kernel_rfl) (by kernel_rfl) (fun _ _ _ h => h) (by assumption) ?_
  simp only [Act.put, List.setIfInBounds_toArray, List.set_cons_zero, List.set_cons_succ]
  refine reg_no (i := 19) (d := 183) ⟨_, rfl, rfl, by rfl⟩ (by kernel_rfl) (by kernel_rfl) (by kernel_rfl) (fun _ _ _ h => h) (by assumption) ?_
  simp only [Act.put, List.setIfInBounds_toArray, List.set_cons_zero, List.set_cons_succ]
  refine reg_no (i := 20) (d := 184) ⟨_, rfl, rfl, by rfl⟩ (by kernel_rfl) (by kernel_rfl) (by kernel_rfl) (fun _ _ _ h => h) (by assumption) ?_
  simp only [Act.put, List.setIfInBounds_toArray, List.set_cons_zero, List.set_cons_succ]
  refine reg_no (i := 21) (d := 185) ⟨_, rfl, rfl, by rfl⟩ (by kernel_rfl) (by kernel_rfl) (by kernel_rfl) (fun _ _ _ h => h) (by assumption) ?_
  simp only [Act.put, List.setIfInBounds_toArray, List.set_cons_zero, List.set_cons_succ]
  refine reg_no (i := 22) (d := 186) ⟨_, rfl, rfl, by rfl⟩ (by kernel_rfl) (by kernel_rfl) (by kernel_rfl) (fun _ _ _ h => h) (by assumption) ?_
  simp only [Act.put, List.setIfInBounds_toArray, List.set_cons_zero, List.set_cons_succ]
  refine reg_no (i := 23) (d := 187) ⟨_, rfl, rfl, by rfl⟩ (by kernel_rfl) (by kernel_rfl) (by kernel_rfl) (fun _ _ _ h => h) (by assumption) ?_
  simp only [Act.put, List.setIfInBounds_toArray, List.set_cons_zero, List.set_cons_succ]
  refine reg_yes (i := 24) (d := 188) (v := ?_) ⟨_, rfl, rfl, by rfl, ?_⟩ (by kernel_rfl) (by kernel_rfl) (by kernel_rfl) (fun _ _ _ h => h) (by assumption) ?_
  rotate_left
  · intro w hSw; go_simp; try with_reducible rfl
  simp only [Act.put, List.setIfInBounds_toArray, List.set_cons_zero, List.set_cons_succ]
  refine reg_yes (i := 25) (d := 4) (v := ?_) ⟨_, rfl, rfl, by rfl, ?_⟩ (by kernel_rfl) (by kernel_rfl) (by kernel_rfl) (fun _ _ _ h => h) (by assumption) ?_
  rotate_left
  · intro w hSw; go_simp; try with_reducible rfl
  simp only [Act.put, List.setIfInBounds_toArray, List.set_cons_zero, List.set_cons_succ]
  refine wpAnyH_done (by kernel_rfl) ?_ _
  have HS9 := Lf.hide (Lf.gbt HG0.out hHeld)
  go_wp2_with fail
  go_ret
  exact ⟨rfl, HS9.out⟩

set_option maxRecDepth 100000 in
set_option maxHeartbeats 4000000 in
theorem rhas_12_x {W : World} {xa : Int} {s : ByteArray} {na : Option Addr} {nl nc : Nat} {a aa ta : Option Addr} {tn c al ac tl tc : Nat} {n : Int}  (HB : Hid (Ans 90 #[.agg #[.int .i64 12, .int .i64 n, .int .i64 xa, .string s, .slice aa al ac, .slice ta tl tc, .slice na nl nc], .bool true, .bool false, .bool false, .int .i64 1, .int .i64 0, .bool false] W true)) (h3 : (n == 0) = false) (h4 : (n == 1) = false) :
    Calls Try.prog 51 #[.agg #[.int .i64 12, .slice a tn c], .agg #[.int .i64 12, .int .i64 n, .int .i64 xa, .string s, .slice aa al ac, .slice ta tl tc, .slice na nl nc]] W fun e w' => e = .returned (.bool false) ∧ W.grownBy w' none := by
  have HG0 := Lf.hide (Lf.gbt (Lf.gb (w := W) (.cells #[.int .i64 12, .slice a tn c] 24)) (Lf.gb (.cells #[.int .i64 12, .int .i64 n, .int .i64 xa, .string s, .slice aa al ac, .slice ta tl tc, .slice na nl nc] 30)))
  have hA := res_new W (.cells #[.int .i64 12, .slice a tn c] 24) (.cells #[.int .i64 12, .int .i64 n, .int .i64 xa, .string s, .slice aa al ac, .slice ta tl tc, .slice na nl nc] 30)
  have hB := rnew_two W (.cells #[.int .i64 12, .slice a tn c] 24) (.cells #[.int .i64 12, .int .i64 n, .int .i64 xa, .string s, .slice aa al ac, .slice ta tl tc, .slice na nl nc] 30)
  go_enter Try.func51, Try.ntmps51
  go_wp2_with fail
  generalize (W.alloc (.cells #[.int .i64 12, .slice a tn c] 24)).alloc (.cells #[.int .i64 12, .int .i64 n, .int .i64 xa, .string s, .slice aa al ac, .slice ta tl tc, .slice na nl nc] 30) = w5 at *
  have qd0 : ∀ W3 : World, w5.grownBy W3 none → W3.cell? ⟨W.heap.size, 0, none⟩ = some (.int .i64 12) := fun W3 h => cell0_of (keepB hA h)
  have qd1 : ∀ W3 : World, w5.grownBy W3 none → W3.cell? ⟨W.heap.size, 1, none⟩ = some (.slice a tn c) := fun W3 h => cell1_of (keepB hA h)
  have bd0 : ∀ W3 : World, w5.grownBy W3 none → W3.cell? ⟨W.heap.size + 1, 0, none⟩ = some (.int .i64 12) := fun W3 h => (box7 (keepB hB h)).1
  have bd1 : ∀ W3 : World, w5.grownBy W3 none → W3.cell? ⟨W.heap.size + 1, 1, none⟩ = some (.int .i64 n) := fun W3 h => (box7 (keepB hB h)).2.1
  have bd2 : ∀ W3 : World, w5.grownBy W3 none → W3.cell? ⟨W.heap.size + 1, 2, none⟩ = some (.int .i64 xa) := fun W3 h => (box7 (keepB hB h)).2.2.1
  have bd3 : ∀ W3 : World, w5.grownBy W3 none → W3.cell? ⟨W.heap.size + 1, 3, none⟩ = some (.string s) := fun W3 h => (box7 (keepB hB h)).2.2.2.1
  have bd4 : ∀ W3 : World, w5.grownBy W3 none → W3.cell? ⟨W.heap.size + 1, 4, none⟩ = some (.slice aa al ac) := fun W3 h => (box7 (keepB hB h)).2.2.2.2.1
  have bd5 : ∀ W3 : World, w5.grownBy W3 none → W3.cell? ⟨W.heap.size + 1, 5, none⟩ = some (.slice ta tl tc) := fun W3 h => (box7 (keepB hB h)).2.2.2.2.2.1
  have bd6 : ∀ W3 : World, w5.grownBy W3 none → W3.cell? ⟨W.heap.size + 1, 6, none⟩ = some (.slice na nl nc) := fun W3 h => (box7 (keepB hB h)).2.2.2.2.2.2
  clear hA hB
  refine wp_region_held_drew (S := fun w' => w5.grownBy w' none) (by kernel_rfl) ?_ (fun hHeld => ?_)
  · exact grow_drew (grow_refl _ _)
  refine reg_yes (i := 0) (d := 164) (v := ?_) ⟨_, rfl, rfl, by rfl, ?_⟩ (by kernel_rfl) (by kernel_rfl) (by kernel_rfl) (fun _ _ _ h => h) (by assumption) ?_
  rotate_left
  · intro w hSw; go_simp; try with_reducible rfl
  simp only [Act.put, List.setIfInBounds_toArray, List.set_cons_zero, List.set_cons_succ]
  refine wpAnyH_ready (rs := [1]) (by kernel_rfl) (by simp) ?_
  refine AllReadyH.cons rfl (fun K hK => ?_) AllReadyH.nil
  go_simp
  go_at_call 90
  refine (HB.out _ (Lf.gbt HG0.out hHeld)).mono ?_; rintro e v0 ⟨rfl, hg0⟩
  have hH0 := Lf.gbt hHeld hg0
  refine hK.out _ _ hH0 (fun _ => ?_)
  clear hK K hHeld hg0
  have hHeld := hH0
  clear hH0
  refine reg_yes (i := 2) (d := 166) (v := ?_) ⟨_, rfl, rfl, by rfl, ?_⟩ (by kernel_rfl) (by kernel_rfl) (by kernel_rfl) (fun _ _ _ h => h) (by assumption) ?_
  rotate_left
  · intro w hSw; go_simp; try with_reducible rfl
  simp only [Act.put, List.setIfInBounds_toArray, List.set_cons_zero, List.set_cons_succ]
  refine reg_yes (i := 3) (d := 167) (v := ?_) ⟨_, rfl, rfl, by rfl, ?_⟩ (by kernel_rfl) (by kernel_rfl) (by kernel_rfl) (fun _ _ _ h => h) (by assumption) ?_
  rotate_left
  · intro w hSw; go_simp; try with_reducible rfl
  simp only [Act.put, List.setIfInBounds_toArray, List.set_cons_zero, List.set_cons_succ]
  refine reg_yes (i := 4) (d := 168) (v := ?_) ⟨_, rfl, rfl, by rfl, ?_⟩ (by kernel_rfl) (by kernel_rfl) (by kernel_rfl) (fun _ _ _ h => h) (by assumption) ?_
  rotate_left
  · intro w hSw; go_simp; try with_reducible rfl
  simp only [Act.put, List.setIfInBounds_toArray, List.set_cons_zero, List.set_cons_succ]
  refine reg_yes (i := 5) (d := 169) (v := ?_) ⟨_, rfl, rfl, by rfl, ?_⟩ (by kernel_rfl) (by kernel_rfl) (by kernel_rfl) (fun _ _ _ h => h) (by assumption) ?_
  rotate_left
  · intro w hSw; go_simp; try with_reducible rfl
  simp only [Act.put, List.setIfInBounds_toArray, List.set_cons_zero, List.set_cons_succ]
  refine reg_yes (i := 6) (d := 170) (v := ?_) ⟨_, rfl, rfl, by rfl, ?_⟩ (by kernel_rfl) (by kernel_rfl) (by kernel_rfl) (fun _ _ _ h => h) (by assumption) ?_
  rotate_left
  · intro w hSw; go_simp; try with_reducible rfl
  simp only [Act.put, List.setIfInBounds_toArray, List.set_cons_zero, List.set_cons_succ]
  refine reg_yes (i := 7) (d := 171) (v := ?_) ⟨_, rfl, rfl, by rfl, ?_⟩ (by kernel_rfl) (by kernel_rfl) (by kernel_rfl) (fun _ _ _ h => h) (by assumption) ?_
  rotate_left
  · intro w hSw; go_simp; try with_reducible rfl
  simp only [Act.put, List.setIfInBounds_toArray, List.set_cons_zero, List.set_cons_succ]
  refine reg_yes (i := 8) (d := 172) (v := ?_) ⟨_, rfl, rfl, by rfl, ?_⟩ (by kernel_rfl) (by kernel_rfl) (by kernel_rfl) (fun _ _ _ h => h) (by assumption) ?_
  rotate_left
  · intro w hSw; go_simp; try with_reducible rfl
  simp only [Act.put, List.setIfInBounds_toArray, List.set_cons_zero, List.set_cons_succ]
  refine reg_yes (i := 9) (d := 173) (v := ?_) ⟨_, rfl, rfl, by rfl, ?_⟩ (by kernel_rfl) (by kernel_rfl) (by kernel_rfl) (fun _ _ _ h => h) (by assumption) ?_
  rotate_left
  · intro w hSw; go_simp; try with_reducible rfl
  simp only [Act.put, List.setIfInBounds_toArray, List.set_cons_zero, List.set_cons_succ]
  refine reg_yes (i := 10) (d := 174) (v := ?_) ⟨_, rfl, rfl, by rfl, ?_⟩ (by kernel_rfl) (by kernel_rfl) (by kernel_rfl) (fun _ _ _ h => h) (by assumption) ?_
  rotate_left
  · intro w hSw; go_simp; try with_reducible rfl
  simp only [Act.put, List.setIfInBounds_toArray, List.set_cons_zero, List.set_cons_succ]
  refine reg_yes (i := 11) (d := 175) (v := ?_) ⟨_, rfl, rfl, by rfl, ?_⟩ (by kernel_rfl) (by kernel_rfl) (by kernel_rfl) (fun _ _ _ h => h) (by assumption) ?_
  rotate_left
  · intro w hSw; go_simp; try with_reducible rfl
  simp only [Act.put, List.setIfInBounds_toArray, List.set_cons_zero, List.set_cons_succ]
  refine reg_yes (i := 12) (d := 176) (v := ?_) ⟨_, rfl, rfl, by rfl, ?_⟩ (by kernel_rfl) (by kernel_rfl) (by kernel_rfl) (fun _ _ _ h => h) (by assumption) ?_
  rotate_left
  · intro w hSw; go_simp; try with_reducible rfl
  simp only [Act.put, List.setIfInBounds_toArray, List.set_cons_zero, List.set_cons_succ]
  refine reg_no (i := 13) (d := 177) ⟨_, rfl, rfl, by rfl⟩ (by kernel_rfl) (by kernel_rfl) (by kernel_rfl) (fun _ _ _ h => h) (by assumption) ?_
  simp only [Act.put, List.setIfInBounds_toArray, List.set_cons_zero, List.set_cons_succ]
  refine reg_no (i := 14) (d := 178) ⟨_, rfl, rfl, by rfl⟩ (by kernel_rfl) (by kernel_rfl) (by kernel_rfl) (fun _ _ _ h => h) (by assumption) ?_
  simp only [Act.put, List.setIfInBounds_toArray, List.set_cons_zero, List.set_cons_succ]
  refine reg_no (i := 15) (d := 179) ⟨_, rfl, rfl, by rfl⟩ (by kernel_rfl) (by kernel_rfl) (by kernel_rfl) (fun _ _ _ h => h) (by assumption) ?_
  simp only [Act.put, List.setIfInBounds_toArray, List.set_cons_zero, List.set_cons_succ]
  refine reg_no (i := 16) (d := 180) ⟨_, rfl, rfl, by rfl⟩ (by kernel_rfl) (by kernel_rfl) (by kernel_rfl) (fun _ _ _ h => h) (by assumption) ?_
  simp only [Act.put, List.setIfInBounds_toArray, List.set_cons_zero, List.set_cons_succ]
  refine reg_no (i := 17) (d := 181) ⟨_, rfl, rfl, by rfl⟩ (by kernel_rfl) (by kernel_rfl) (by kernel_rfl) (fun _ _ _ h => h) (by assumption) ?_
  simp only [Act.put, List.setIfInBounds_toArray, List.set_cons_zero, List.set_cons_succ]
  refine reg_no (i := 18) (d := 182) ⟨_, rfl, rfl, by rfl⟩ (by kernel_rfl) (by kernel_rfl) (by kernel_rfl) (fun _ _ _ h => h) (by assumption) ?_
  simp only [Act.put, List.setIfInBounds_toArray, List.set_cons_zero, List.set_cons_succ]
  refine reg_no (i := 19) (d := 183) ⟨_, rfl, rfl, by rfl⟩ (by kernel_rfl) (by kernel_rfl) (by kernel_rfl) (fun _ _ _ h => h) (by assumption) ?_
  simp only [Act.put, List.setIfInBounds_toArray, List.set_cons_zero, List.set_cons_succ]
  refine reg_no (i := 20) (d := 184) ⟨_, rfl, rfl, by rfl⟩ (by kernel_rfl) (by kernel_rfl) (by kernel_rfl) (fun _ _ _ h => h) (by assumption) ?_
  simp only [Act.put, List.setIfInBounds_toArray, List.set_cons_zero, List.set_cons_succ]
  refine reg_no (i := 21) (d := 185) ⟨_, rfl, rfl, by rfl⟩ (by kernel_rfl) (by kernel_rfl) (by kernel_rfl) (fun _ _ _ h => h) (by assumption) ?_
  simp only [Act.put, List.setIfInBounds_toArray, List.set_cons_zero, List.set_cons_succ]
  refine reg_no (i := 22) (d := 186) ⟨_, rfl, rfl, by rfl⟩ (by kernel_rfl) (by kernel_rfl) (by kernel_rfl) (fun _ _ _ h => h) (by assumption) ?_
  simp only [Act.put, List.setIfInBounds_toArray, List.set_cons_zero, List.set_cons_succ]
  refine reg_no (i := 23) (d := 187) ⟨_, rfl, rfl, by rfl⟩ (by kernel_rfl) (by kernel_rfl) (by kernel_rfl) (fun _ _ _ h => h) (by assumption) ?_
  simp only [Act.put, List.setIfInBounds_toArray, List.set_cons_zero, List.set_cons_succ]
  refine reg_yes (i := 24) (d := 188) (v := ?_) ⟨_, rfl, rfl, by rfl, ?_⟩ (by kernel_rfl) (by kernel_rfl) (by kernel_rfl) (fun _ _ _ h => h) (by assumption) ?_
  rotate_left
  · intro w hSw; go_simp; try with_reducible rfl
  simp only [Act.put, List.setIfInBounds_toArray, List.set_cons_zero, List.set_cons_succ]
  refine reg_yes (i := 25) (d := 4) (v := ?_) ⟨_, rfl, rfl, by rfl, ?_⟩ (by kernel_rfl) (by kernel_rfl) (by kernel_rfl) (fun _ _ _ h => h) (by assumption) ?_
  rotate_left
  · intro w hSw; go_simp; try with_reducible rfl
  simp only [Act.put, List.setIfInBounds_toArray, List.set_cons_zero, List.set_cons_succ]
  refine wpAnyH_done (by kernel_rfl) ?_ _
  have HS9 := Lf.hide (Lf.gbt HG0.out hHeld)
  go_wp2_with fail
  go_ret
  exact ⟨rfl, HS9.out⟩

set_option maxRecDepth 100000 in
set_option maxHeartbeats 4000000 in
theorem rhas_12_0 {W : World} {xa : Int} {s : ByteArray} {na : Option Addr} {nl nc : Nat} {ta : Option Addr} {c ac tl tc : Nat} {bt ot bv ov : Nat} {t_t : Int} {t_a : Option Addr} {t_l t_c : Nat} {y_k y_n y_x : Int} {y_s : ByteArray} {y_a y_ta y_na : Option Addr} {y_l y_c y_tl y_tc y_nl y_nc : Nat} {q : Bool} (tc0 : ∀ W3 : World, W.grownBy W3 none → W3.cell? ⟨bt, ot, none⟩ = some (.int .i64 t_t)) (tc1 : ∀ W3 : World, W.grownBy W3 none → W3.cell? ⟨bt, ot + 1, none⟩ = some (.slice t_a t_l t_c)) (yc0 : ∀ W3 : World, W.grownBy W3 none → W3.cell? ⟨bv, ov, none⟩ = some (.int .i64 y_k)) (yc1 : ∀ W3 : World, W.grownBy W3 none → W3.cell? ⟨bv, ov + 1, none⟩ = some (.int .i64 y_n)) (yc2 : ∀ W3 : World, W.grownBy W3 none → W3.cell? ⟨bv, ov + 2, none⟩ = some (.int .i64 y_x)) (yc3 : ∀ W3 : World, W.grownBy W3 none → W3.cell? ⟨bv, ov + 3, none⟩ = some (.string y_s)) (yc4 : ∀ W3 : World, W.grownBy W3 none → W3.cell? ⟨bv, ov + 4, none⟩ = some (.slice y_a y_l y_c)) (yc5 : ∀ W3 : World, W.grownBy W3 none → W3.cell? ⟨bv, ov + 5, none⟩ = some (.slice y_ta y_tl y_tc)) (yc6 : ∀ W3 : World, W.grownBy W3 none → W3.cell? ⟨bv, ov + 6, none⟩ = some (.slice y_na y_nl y_nc)) (HB : Hid (Ans 90 #[.agg #[.int .i64 12, .int .i64 0, .int .i64 xa, .string s, .slice (some ⟨bv, ov, none⟩) 1 ac, .slice ta tl tc, .slice na nl nc], .bool true, .bool false, .bool false, .int .i64 1, .int .i64 0, .bool false] W true)) (HH : Hid (Ans 51 #[.agg #[.int .i64 t_t, .slice t_a t_l t_c], .agg #[.int .i64 y_k, .int .i64 y_n, .int .i64 y_x, .string y_s, .slice y_a y_l y_c, .slice y_ta y_tl y_tc, .slice y_na y_nl y_nc]] W q)) :
    Calls Try.prog 51 #[.agg #[.int .i64 12, .slice (some ⟨bt, ot, none⟩) 2 c], .agg #[.int .i64 12, .int .i64 0, .int .i64 xa, .string s, .slice (some ⟨bv, ov, none⟩) 1 ac, .slice ta tl tc, .slice na nl nc]] W fun e w' => e = .returned (.bool q) ∧ W.grownBy w' none := by
  have HG0 := Lf.hide (Lf.gbt (Lf.gb (w := W) (.cells #[.int .i64 12, .slice (some ⟨bt, ot, none⟩) 2 c] 24)) (Lf.gb (.cells #[.int .i64 12, .int .i64 0, .int .i64 xa, .string s, .slice (some ⟨bv, ov, none⟩) 1 ac, .slice ta tl tc, .slice na nl nc] 30)))
  have hA := res_new W (.cells #[.int .i64 12, .slice (some ⟨bt, ot, none⟩) 2 c] 24) (.cells #[.int .i64 12, .int .i64 0, .int .i64 xa, .string s, .slice (some ⟨bv, ov, none⟩) 1 ac, .slice ta tl tc, .slice na nl nc] 30)
  have hB := rnew_two W (.cells #[.int .i64 12, .slice (some ⟨bt, ot, none⟩) 2 c] 24) (.cells #[.int .i64 12, .int .i64 0, .int .i64 xa, .string s, .slice (some ⟨bv, ov, none⟩) 1 ac, .slice ta tl tc, .slice na nl nc] 30)
  go_enter Try.func51, Try.ntmps51
  go_wp2_with fail
  generalize (W.alloc (.cells #[.int .i64 12, .slice (some ⟨bt, ot, none⟩) 2 c] 24)).alloc (.cells #[.int .i64 12, .int .i64 0, .int .i64 xa, .string s, .slice (some ⟨bv, ov, none⟩) 1 ac, .slice ta tl tc, .slice na nl nc] 30) = w5 at *
  have qd0 : ∀ W3 : World, w5.grownBy W3 none → W3.cell? ⟨W.heap.size, 0, none⟩ = some (.int .i64 12) := fun W3 h => cell0_of (keepB hA h)
  have qd1 : ∀ W3 : World, w5.grownBy W3 none → W3.cell? ⟨W.heap.size, 1, none⟩ = some (.slice (some ⟨bt, ot, none⟩) 2 c) := fun W3 h => cell1_of (keepB hA h)
  have bd0 : ∀ W3 : World, w5.grownBy W3 none → W3.cell? ⟨W.heap.size + 1, 0, none⟩ = some (.int .i64 12) := fun W3 h => (box7 (keepB hB h)).1
  have bd1 : ∀ W3 : World, w5.grownBy W3 none → W3.cell? ⟨W.heap.size + 1, 1, none⟩ = some (.int .i64 0) := fun W3 h => (box7 (keepB hB h)).2.1
  have bd2 : ∀ W3 : World, w5.grownBy W3 none → W3.cell? ⟨W.heap.size + 1, 2, none⟩ = some (.int .i64 xa) := fun W3 h => (box7 (keepB hB h)).2.2.1
  have bd3 : ∀ W3 : World, w5.grownBy W3 none → W3.cell? ⟨W.heap.size + 1, 3, none⟩ = some (.string s) := fun W3 h => (box7 (keepB hB h)).2.2.2.1
  have bd4 : ∀ W3 : World, w5.grownBy W3 none → W3.cell? ⟨W.heap.size + 1, 4, none⟩ = some (.slice (some ⟨bv, ov, none⟩) 1 ac) := fun W3 h => (box7 (keepB hB h)).2.2.2.2.1
  have bd5 : ∀ W3 : World, w5.grownBy W3 none → W3.cell? ⟨W.heap.size + 1, 5, none⟩ = some (.slice ta tl tc) := fun W3 h => (box7 (keepB hB h)).2.2.2.2.2.1
  have bd6 : ∀ W3 : World, w5.grownBy W3 none → W3.cell? ⟨W.heap.size + 1, 6, none⟩ = some (.slice na nl nc) := fun W3 h => (box7 (keepB hB h)).2.2.2.2.2.2
  clear hA hB
  have td0 : ∀ W3 : World, w5.grownBy W3 none → W3.cell? ⟨bt, ot, none⟩ = some (.int .i64 t_t) := fun W3 h => tc0 W3 (Lf.gbt HG0.out h)
  have td1 : ∀ W3 : World, w5.grownBy W3 none → W3.cell? ⟨bt, ot + 1, none⟩ = some (.slice t_a t_l t_c) := fun W3 h => tc1 W3 (Lf.gbt HG0.out h)
  clear tc0 tc1
  have yd0 : ∀ W3 : World, w5.grownBy W3 none → W3.cell? ⟨bv, ov, none⟩ = some (.int .i64 y_k) := fun W3 h => yc0 W3 (Lf.gbt HG0.out h)
  have yd1 : ∀ W3 : World, w5.grownBy W3 none → W3.cell? ⟨bv, ov + 1, none⟩ = some (.int .i64 y_n) := fun W3 h => yc1 W3 (Lf.gbt HG0.out h)
  have yd2 : ∀ W3 : World, w5.grownBy W3 none → W3.cell? ⟨bv, ov + 2, none⟩ = some (.int .i64 y_x) := fun W3 h => yc2 W3 (Lf.gbt HG0.out h)
  have yd3 : ∀ W3 : World, w5.grownBy W3 none → W3.cell? ⟨bv, ov + 3, none⟩ = some (.string y_s) := fun W3 h => yc3 W3 (Lf.gbt HG0.out h)
  have yd4 : ∀ W3 : World, w5.grownBy W3 none → W3.cell? ⟨bv, ov + 4, none⟩ = some (.slice y_a y_l y_c) := fun W3 h => yc4 W3 (Lf.gbt HG0.out h)
  have yd5 : ∀ W3 : World, w5.grownBy W3 none → W3.cell? ⟨bv, ov + 5, none⟩ = some (.slice y_ta y_tl y_tc) := fun W3 h => yc5 W3 (Lf.gbt HG0.out h)
  have yd6 : ∀ W3 : World, w5.grownBy W3 none → W3.cell? ⟨bv, ov + 6, none⟩ = some (.slice y_na y_nl y_nc) := fun W3 h => yc6 W3 (Lf.gbt HG0.out h)
  clear yc0 yc1 yc2 yc3 yc4 yc5 yc6
  refine wp_region_held_drew (S := fun w' => w5.grownBy w' none) (by kernel_rfl) ?_ (fun hHeld => ?_)
  · exact grow_drew (grow_refl _ _)
  refine reg_yes (i := 0) (d := 164) (v := ?_) ⟨_, rfl, rfl, by rfl, ?_⟩ (by kernel_rfl) (by kernel_rfl) (by kernel_rfl) (fun _ _ _ h => h) (by assumption) ?_
  rotate_left
  · intro w hSw; go_simp; try with_reducible rfl
  simp only [Act.put, List.setIfInBounds_toArray, List.set_cons_zero, List.set_cons_succ]
  refine wpAnyH_ready (rs := [1]) (by kernel_rfl) (by simp) ?_
  refine AllReadyH.cons rfl (fun K hK => ?_) AllReadyH.nil
  go_simp
  go_at_call 90
  refine (HB.out _ (Lf.gbt HG0.out hHeld)).mono ?_; rintro e v0 ⟨rfl, hg0⟩
  have hH0 := Lf.gbt hHeld hg0
  refine hK.out _ _ hH0 (fun _ => ?_)
  clear hK K hHeld hg0
  have hHeld := hH0
  clear hH0
  refine reg_yes (i := 2) (d := 166) (v := ?_) ⟨_, rfl, rfl, by rfl, ?_⟩ (by kernel_rfl) (by kernel_rfl) (by kernel_rfl) (fun _ _ _ h => h) (by assumption) ?_
  rotate_left
  · intro w hSw; go_simp; try with_reducible rfl
  simp only [Act.put, List.setIfInBounds_toArray, List.set_cons_zero, List.set_cons_succ]
  refine reg_yes (i := 3) (d := 167) (v := ?_) ⟨_, rfl, rfl, by rfl, ?_⟩ (by kernel_rfl) (by kernel_rfl) (by kernel_rfl) (fun _ _ _ h => h) (by assumption) ?_
  rotate_left
  · intro w hSw; go_simp; try with_reducible rfl
  simp only [Act.put, List.setIfInBounds_toArray, List.set_cons_zero, List.set_cons_succ]
  refine reg_yes (i := 4) (d := 168) (v := ?_) ⟨_, rfl, rfl, by rfl, ?_⟩ (by kernel_rfl) (by kernel_rfl) (by kernel_rfl) (fun _ _ _ h => h) (by assumption) ?_
  rotate_left
  · intro w hSw; go_simp; try with_reducible rfl
  simp only [Act.put, List.setIfInBounds_toArray, List.set_cons_zero, List.set_cons_succ]
  refine reg_yes (i := 5) (d := 169) (v := ?_) ⟨_, rfl, rfl, by rfl, ?_⟩ (by kernel_rfl) (by kernel_rfl) (by kernel_rfl) (fun _ _ _ h => h) (by assumption) ?_
  rotate_left
  · intro w hSw; go_simp; try with_reducible rfl
  simp only [Act.put, List.setIfInBounds_toArray, List.set_cons_zero, List.set_cons_succ]
  refine reg_yes (i := 6) (d := 170) (v := ?_) ⟨_, rfl, rfl, by rfl, ?_⟩ (by kernel_rfl) (by kernel_rfl) (by kernel_rfl) (fun _ _ _ h => h) (by assumption) ?_
  rotate_left
  · intro w hSw; go_simp; try with_reducible rfl
  simp only [Act.put, List.setIfInBounds_toArray, List.set_cons_zero, List.set_cons_succ]
  refine reg_no (i := 7) (d := 171) ⟨_, rfl, rfl, by rfl⟩ (by kernel_rfl) (by kernel_rfl) (by kernel_rfl) (fun _ _ _ h => h) (by assumption) ?_
  simp only [Act.put, List.setIfInBounds_toArray, List.set_cons_zero, List.set_cons_succ]
  refine reg_no (i := 8) (d := 172) ⟨_, rfl, rfl, by rfl⟩ (by kernel_rfl) (by kernel_rfl) (by kernel_rfl) (fun _ _ _ h => h) (by assumption) ?_
  simp only [Act.put, List.setIfInBounds_toArray, List.set_cons_zero, List.set_cons_succ]
  refine reg_no (i := 9) (d := 173) ⟨_, rfl, rfl, by rfl⟩ (by kernel_rfl) (by kernel_rfl) (by kernel_rfl) (fun _ _ _ h => h) (by assumption) ?_
  simp only [Act.put, List.setIfInBounds_toArray, List.set_cons_zero, List.set_cons_succ]
  refine reg_yes (i := 10) (d := 174) (v := ?_) ⟨_, rfl, rfl, by rfl, ?_⟩ (by kernel_rfl) (by kernel_rfl) (by kernel_rfl) (fun _ _ _ h => h) (by assumption) ?_
  rotate_left
  · intro w hSw; go_simp; try with_reducible rfl
  simp only [Act.put, List.setIfInBounds_toArray, List.set_cons_zero, List.set_cons_succ]
  refine reg_yes (i := 11) (d := 175) (v := ?_) ⟨_, rfl, rfl, by rfl, ?_⟩ (by kernel_rfl) (by kernel_rfl) (by kernel_rfl) (fun _ _ _ h => h) (by assumption) ?_
  rotate_left
  · intro w hSw; go_simp; try with_reducible rfl
  simp only [Act.put, List.setIfInBounds_toArray, List.set_cons_zero, List.set_cons_succ]
  refine reg_yes (i := 12) (d := 176) (v := ?_) ⟨_, rfl, rfl, by rfl, ?_⟩ (by kernel_rfl) (by kernel_rfl) (by kernel_rfl) (fun _ _ _ h => h) (by assumption) ?_
  rotate_left
  · intro w hSw; go_simp; try with_reducible rfl
  simp only [Act.put, List.setIfInBounds_toArray, List.set_cons_zero, List.set_cons_succ]
  refine reg_yes (i := 13) (d := 177) (v := ?_) ⟨_, rfl, rfl, by rfl, ?_⟩ (by kernel_rfl) (by kernel_rfl) (by kernel_rfl) (fun _ _ _ h => h) (by assumption) ?_
  rotate_left
  · intro w hSw; go_simp; try with_reducible rfl
  simp only [Act.put, List.setIfInBounds_toArray, List.set_cons_zero, List.set_cons_succ]
  refine reg_yes (i := 14) (d := 178) (v := ?_) ⟨_, rfl, rfl, by rfl, ?_⟩ (by kernel_rfl) (by kernel_rfl) (by kernel_rfl) (fun _ _ _ h => h) (by assumption) ?_
  rotate_left
  · intro w hSw; go_simp; try with_reducible rfl
  simp only [Act.put, List.setIfInBounds_toArray, List.set_cons_zero, List.set_cons_succ]
  refine reg_yes (i := 15) (d := 179) (v := ?_) ⟨_, rfl, rfl, by rfl, ?_⟩ (by kernel_rfl) (by kernel_rfl) (by kernel_rfl) (fun _ _ _ h => h) (by assumption) ?_
  rotate_left
  · intro w hSw; go_simp; try with_reducible rfl
  simp only [Act.put, List.setIfInBounds_toArray, List.set_cons_zero, List.set_cons_succ]
  refine reg_yes (i := 16) (d := 180) (v := ?_) ⟨_, rfl, rfl, by rfl, ?_⟩ (by kernel_rfl) (by kernel_rfl) (by kernel_rfl) (fun _ _ _ h => h) (by assumption) ?_
  rotate_left
  · intro w hSw; go_simp; try with_reducible rfl
  simp only [Act.put, List.setIfInBounds_toArray, List.set_cons_zero, List.set_cons_succ]
  refine reg_yes (i := 17) (d := 181) (v := ?_) ⟨_, rfl, rfl, by rfl, ?_⟩ (by kernel_rfl) (by kernel_rfl) (by kernel_rfl) (fun _ _ _ h => h) (by assumption) ?_
  rotate_left
  · intro w hSw; go_simp; try with_reducible rfl
  simp only [Act.put, List.setIfInBounds_toArray, List.set_cons_zero, List.set_cons_succ]
  refine reg_yes (i := 18) (d := 182) (v := ?_) ⟨_, rfl, rfl, by rfl, ?_⟩ (by kernel_rfl) (by kernel_rfl) (by kernel_rfl) (fun _ _ _ h => h) (by assumption) ?_
  rotate_left
  · intro w hSw; go_simp; try with_reducible rfl
  simp only [Act.put, List.setIfInBounds_toArray, List.set_cons_zero, List.set_cons_succ]
  refine reg_yes (i := 19) (d := 183) (v := ?_) ⟨_, rfl, rfl, by rfl, ?_⟩ (by kernel_rfl) (by kernel_rfl) (by kernel_rfl) (fun _ _ _ h => h) (by assumption) ?_
  rotate_left
  · intro w hSw; go_simp; try with_reducible rfl
  simp only [Act.put, List.setIfInBounds_toArray, List.set_cons_zero, List.set_cons_succ]
  refine reg_yes (i := 20) (d := 184) (v := ?_) ⟨_, rfl, rfl, by rfl, ?_⟩ (by kernel_rfl) (by kernel_rfl) (by kernel_rfl) (fun _ _ _ h => h) (by assumption) ?_
  rotate_left
  · intro w hSw; go_simp; try with_reducible rfl
  simp only [Act.put, List.setIfInBounds_toArray, List.set_cons_zero, List.set_cons_succ]
  refine reg_yes (i := 21) (d := 185) (v := ?_) ⟨_, rfl, rfl, by rfl, ?_⟩ (by kernel_rfl) (by kernel_rfl) (by kernel_rfl) (fun _ _ _ h => h) (by assumption) ?_
  rotate_left
  · intro w hSw; go_simp; try with_reducible rfl
  simp only [Act.put, List.setIfInBounds_toArray, List.set_cons_zero, List.set_cons_succ]
  refine reg_yes (i := 22) (d := 186) (v := ?_) ⟨_, rfl, rfl, by rfl, ?_⟩ (by kernel_rfl) (by kernel_rfl) (by kernel_rfl) (fun _ _ _ h => h) (by assumption) ?_
  rotate_left
  · intro w hSw; go_simp; try with_reducible rfl
  simp only [Act.put, List.setIfInBounds_toArray, List.set_cons_zero, List.set_cons_succ]
  refine wpAnyH_ready (rs := [23]) (by kernel_rfl) (by simp) ?_
  refine AllReadyH.cons rfl (fun K hK => ?_) AllReadyH.nil
  go_simp
  go_at_call 51
  refine (HH.out _ (Lf.gbt HG0.out hHeld)).mono ?_; rintro e v1 ⟨rfl, hg1⟩
  have hH1 := Lf.gbt hHeld hg1
  refine hK.out _ _ hH1 (fun _ => ?_)
  clear hK K hHeld hg1
  have hHeld := hH1
  clear hH1
  refine reg_yes (i := 24) (d := 188) (v := ?_) ⟨_, rfl, rfl, by rfl, ?_⟩ (by kernel_rfl) (by kernel_rfl) (by kernel_rfl) (fun _ _ _ h => h) (by assumption) ?_
  rotate_left
  · intro w hSw; go_simp; try with_reducible rfl
  simp only [Act.put, List.setIfInBounds_toArray, List.set_cons_zero, List.set_cons_succ]
  refine reg_yes (i := 25) (d := 4) (v := ?_) ⟨_, rfl, rfl, by rfl, ?_⟩ (by kernel_rfl) (by kernel_rfl) (by kernel_rfl) (fun _ _ _ h => h) (by assumption) ?_
  rotate_left
  · intro w hSw; go_simp; try with_reducible rfl
  simp only [Act.put, List.setIfInBounds_toArray, List.set_cons_zero, List.set_cons_succ]
  refine wpAnyH_done (by kernel_rfl) ?_ _
  have HS9 := Lf.hide (Lf.gbt HG0.out hHeld)
  go_wp2_with fail
  go_ret
  exact ⟨by simp, HS9.out⟩

set_option maxRecDepth 100000 in
set_option maxHeartbeats 4000000 in
theorem rhas_12_1 {W : World} {xa : Int} {s : ByteArray} {na : Option Addr} {nl nc : Nat} {ta : Option Addr} {c ac tl tc : Nat} {bt ot bv ov : Nat} {t_t : Int} {t_a : Option Addr} {t_l t_c : Nat} {y_k y_n y_x : Int} {y_s : ByteArray} {y_a y_ta y_na : Option Addr} {y_l y_c y_tl y_tc y_nl y_nc : Nat} {q : Bool} (tc0 : ∀ W3 : World, W.grownBy W3 none → W3.cell? ⟨bt, ot + 2, none⟩ = some (.int .i64 t_t)) (tc1 : ∀ W3 : World, W.grownBy W3 none → W3.cell? ⟨bt, ot + 3, none⟩ = some (.slice t_a t_l t_c)) (yc0 : ∀ W3 : World, W.grownBy W3 none → W3.cell? ⟨bv, ov, none⟩ = some (.int .i64 y_k)) (yc1 : ∀ W3 : World, W.grownBy W3 none → W3.cell? ⟨bv, ov + 1, none⟩ = some (.int .i64 y_n)) (yc2 : ∀ W3 : World, W.grownBy W3 none → W3.cell? ⟨bv, ov + 2, none⟩ = some (.int .i64 y_x)) (yc3 : ∀ W3 : World, W.grownBy W3 none → W3.cell? ⟨bv, ov + 3, none⟩ = some (.string y_s)) (yc4 : ∀ W3 : World, W.grownBy W3 none → W3.cell? ⟨bv, ov + 4, none⟩ = some (.slice y_a y_l y_c)) (yc5 : ∀ W3 : World, W.grownBy W3 none → W3.cell? ⟨bv, ov + 5, none⟩ = some (.slice y_ta y_tl y_tc)) (yc6 : ∀ W3 : World, W.grownBy W3 none → W3.cell? ⟨bv, ov + 6, none⟩ = some (.slice y_na y_nl y_nc)) (HB : Hid (Ans 90 #[.agg #[.int .i64 12, .int .i64 1, .int .i64 xa, .string s, .slice (some ⟨bv, ov, none⟩) 1 ac, .slice ta tl tc, .slice na nl nc], .bool true, .bool false, .bool false, .int .i64 1, .int .i64 0, .bool false] W true)) (HH : Hid (Ans 51 #[.agg #[.int .i64 t_t, .slice t_a t_l t_c], .agg #[.int .i64 y_k, .int .i64 y_n, .int .i64 y_x, .string y_s, .slice y_a y_l y_c, .slice y_ta y_tl y_tc, .slice y_na y_nl y_nc]] W q)) :
    Calls Try.prog 51 #[.agg #[.int .i64 12, .slice (some ⟨bt, ot, none⟩) 2 c], .agg #[.int .i64 12, .int .i64 1, .int .i64 xa, .string s, .slice (some ⟨bv, ov, none⟩) 1 ac, .slice ta tl tc, .slice na nl nc]] W fun e w' => e = .returned (.bool q) ∧ W.grownBy w' none := by
  have HG0 := Lf.hide (Lf.gbt (Lf.gb (w := W) (.cells #[.int .i64 12, .slice (some ⟨bt, ot, none⟩) 2 c] 24)) (Lf.gb (.cells #[.int .i64 12, .int .i64 1, .int .i64 xa, .string s, .slice (some ⟨bv, ov, none⟩) 1 ac, .slice ta tl tc, .slice na nl nc] 30)))
  have hA := res_new W (.cells #[.int .i64 12, .slice (some ⟨bt, ot, none⟩) 2 c] 24) (.cells #[.int .i64 12, .int .i64 1, .int .i64 xa, .string s, .slice (some ⟨bv, ov, none⟩) 1 ac, .slice ta tl tc, .slice na nl nc] 30)
  have hB := rnew_two W (.cells #[.int .i64 12, .slice (some ⟨bt, ot, none⟩) 2 c] 24) (.cells #[.int .i64 12, .int .i64 1, .int .i64 xa, .string s, .slice (some ⟨bv, ov, none⟩) 1 ac, .slice ta tl tc, .slice na nl nc] 30)
  go_enter Try.func51, Try.ntmps51
  go_wp2_with fail
  generalize (W.alloc (.cells #[.int .i64 12, .slice (some ⟨bt, ot, none⟩) 2 c] 24)).alloc (.cells #[.int .i64 12, .int .i64 1, .int .i64 xa, .string s, .slice (some ⟨bv, ov, none⟩) 1 ac, .slice ta tl tc, .slice na nl nc] 30) = w5 at *
  have qd0 : ∀ W3 : World, w5.grownBy W3 none → W3.cell? ⟨W.heap.size, 0, none⟩ = some (.int .i64 12) := fun W3 h => cell0_of (keepB hA h)
  have qd1 : ∀ W3 : World, w5.grownBy W3 none → W3.cell? ⟨W.heap.size, 1, none⟩ = some (.slice (some ⟨bt, ot, none⟩) 2 c) := fun W3 h => cell1_of (keepB hA h)
  have bd0 : ∀ W3 : World, w5.grownBy W3 none → W3.cell? ⟨W.heap.size + 1, 0, none⟩ = some (.int .i64 12) := fun W3 h => (box7 (keepB hB h)).1
  have bd1 : ∀ W3 : World, w5.grownBy W3 none → W3.cell? ⟨W.heap.size + 1, 1, none⟩ = some (.int .i64 1) := fun W3 h => (box7 (keepB hB h)).2.1
  have bd2 : ∀ W3 : World, w5.grownBy W3 none → W3.cell? ⟨W.heap.size + 1, 2, none⟩ = some (.int .i64 xa) := fun W3 h => (box7 (keepB hB h)).2.2.1
  have bd3 : ∀ W3 : World, w5.grownBy W3 none → W3.cell? ⟨W.heap.size + 1, 3, none⟩ = some (.string s) := fun W3 h => (box7 (keepB hB h)).2.2.2.1
  have bd4 : ∀ W3 : World, w5.grownBy W3 none → W3.cell? ⟨W.heap.size + 1, 4, none⟩ = some (.slice (some ⟨bv, ov, none⟩) 1 ac) := fun W3 h => (box7 (keepB hB h)).2.2.2.2.1
  have bd5 : ∀ W3 : World, w5.grownBy W3 none → W3.cell? ⟨W.heap.size + 1, 5, none⟩ = some (.slice ta tl tc) := fun W3 h => (box7 (keepB hB h)).2.2.2.2.2.1
  have bd6 : ∀ W3 : World, w5.grownBy W3 none → W3.cell? ⟨W.heap.size + 1, 6, none⟩ = some (.slice na nl nc) := fun W3 h => (box7 (keepB hB h)).2.2.2.2.2.2
  clear hA hB
  have td0 : ∀ W3 : World, w5.grownBy W3 none → W3.cell? ⟨bt, ot + 2, none⟩ = some (.int .i64 t_t) := fun W3 h => tc0 W3 (Lf.gbt HG0.out h)
  have td1 : ∀ W3 : World, w5.grownBy W3 none → W3.cell? ⟨bt, ot + 3, none⟩ = some (.slice t_a t_l t_c) := fun W3 h => tc1 W3 (Lf.gbt HG0.out h)
  clear tc0 tc1
  have yd0 : ∀ W3 : World, w5.grownBy W3 none → W3.cell? ⟨bv, ov, none⟩ = some (.int .i64 y_k) := fun W3 h => yc0 W3 (Lf.gbt HG0.out h)
  have yd1 : ∀ W3 : World, w5.grownBy W3 none → W3.cell? ⟨bv, ov + 1, none⟩ = some (.int .i64 y_n) := fun W3 h => yc1 W3 (Lf.gbt HG0.out h)
  have yd2 : ∀ W3 : World, w5.grownBy W3 none → W3.cell? ⟨bv, ov + 2, none⟩ = some (.int .i64 y_x) := fun W3 h => yc2 W3 (Lf.gbt HG0.out h)
  have yd3 : ∀ W3 : World, w5.grownBy W3 none → W3.cell? ⟨bv, ov + 3, none⟩ = some (.string y_s) := fun W3 h => yc3 W3 (Lf.gbt HG0.out h)
  have yd4 : ∀ W3 : World, w5.grownBy W3 none → W3.cell? ⟨bv, ov + 4, none⟩ = some (.slice y_a y_l y_c) := fun W3 h => yc4 W3 (Lf.gbt HG0.out h)
  have yd5 : ∀ W3 : World, w5.grownBy W3 none → W3.cell? ⟨bv, ov + 5, none⟩ = some (.slice y_ta y_tl y_tc) := fun W3 h => yc5 W3 (Lf.gbt HG0.out h)
  have yd6 : ∀ W3 : World, w5.grownBy W3 none → W3.cell? ⟨bv, ov + 6, none⟩ = some (.slice y_na y_nl y_nc) := fun W3 h => yc6 W3 (Lf.gbt HG0.out h)
  clear yc0 yc1 yc2 yc3 yc4 yc5 yc6
  refine wp_region_held_drew (S := fun w' => w5.grownBy w' none) (by kernel_rfl) ?_ (fun hHeld => ?_)
  · exact grow_drew (grow_refl _ _)
  refine reg_yes (i := 0) (d := 164) (v := ?_) ⟨_, rfl, rfl, by rfl, ?_⟩ (by kernel_rfl) (by kernel_rfl) (by kernel_rfl) (fun _ _ _ h => h) (by assumption) ?_
  rotate_left
  · intro w hSw; go_simp; try with_reducible rfl
  simp only [Act.put, List.setIfInBounds_toArray, List.set_cons_zero, List.set_cons_succ]
  refine wpAnyH_ready (rs := [1]) (by kernel_rfl) (by simp) ?_
  refine AllReadyH.cons rfl (fun K hK => ?_) AllReadyH.nil
  go_simp
  go_at_call 90
  refine (HB.out _ (Lf.gbt HG0.out hHeld)).mono ?_; rintro e v0 ⟨rfl, hg0⟩
  have hH0 := Lf.gbt hHeld hg0
  refine hK.out _ _ hH0 (fun _ => ?_)
  clear hK K hHeld hg0
  have hHeld := hH0
  clear hH0
  refine reg_yes (i := 2) (d := 166) (v := ?_) ⟨_, rfl, rfl, by rfl, ?_⟩ (by kernel_rfl) (by kernel_rfl) (by kernel_rfl) (fun _ _ _ h => h) (by assumption) ?_
  rotate_left
  · intro w hSw; go_simp; try with_reducible rfl
  simp only [Act.put, List.setIfInBounds_toArray, List.set_cons_zero, List.set_cons_succ]
  refine reg_yes (i := 3) (d := 167) (v := ?_) ⟨_, rfl, rfl, by rfl, ?_⟩ (by kernel_rfl) (by kernel_rfl) (by kernel_rfl) (fun _ _ _ h => h) (by assumption) ?_
  rotate_left
  · intro w hSw; go_simp; try with_reducible rfl
  simp only [Act.put, List.setIfInBounds_toArray, List.set_cons_zero, List.set_cons_succ]
  refine reg_yes (i := 4) (d := 168) (v := ?_) ⟨_, rfl, rfl, by rfl, ?_⟩ (by kernel_rfl) (by kernel_rfl) (by kernel_rfl) (fun _ _ _ h => h) (by assumption) ?_
  rotate_left
  · intro w hSw; go_simp; try with_reducible rfl
  simp only [Act.put, List.setIfInBounds_toArray, List.set_cons_zero, List.set_cons_succ]
  refine reg_yes (i := 5) (d := 169) (v := ?_) ⟨_, rfl, rfl, by rfl, ?_⟩ (by kernel_rfl) (by kernel_rfl) (by kernel_rfl) (fun _ _ _ h => h) (by assumption) ?_
  rotate_left
  · intro w hSw; go_simp; try with_reducible rfl
  simp only [Act.put, List.setIfInBounds_toArray, List.set_cons_zero, List.set_cons_succ]
  refine reg_yes (i := 6) (d := 170) (v := ?_) ⟨_, rfl, rfl, by rfl, ?_⟩ (by kernel_rfl) (by kernel_rfl) (by kernel_rfl) (fun _ _ _ h => h) (by assumption) ?_
  rotate_left
  · intro w hSw; go_simp; try with_reducible rfl
  simp only [Act.put, List.setIfInBounds_toArray, List.set_cons_zero, List.set_cons_succ]
  refine reg_yes (i := 7) (d := 171) (v := ?_) ⟨_, rfl, rfl, by rfl, ?_⟩ (by kernel_rfl) (by kernel_rfl) (by kernel_rfl) (fun _ _ _ h => h) (by assumption) ?_
  rotate_left
  · intro w hSw; go_simp; try with_reducible rfl
  simp only [Act.put, List.setIfInBounds_toArray, List.set_cons_zero, List.set_cons_succ]
  refine reg_yes (i := 8) (d := 172) (v := ?_) ⟨_, rfl, rfl, by rfl, ?_⟩ (by kernel_rfl) (by kernel_rfl) (by kernel_rfl) (fun _ _ _ h => h) (by assumption) ?_
  rotate_left
  · intro w hSw; go_simp; try with_reducible rfl
  simp only [Act.put, List.setIfInBounds_toArray, List.set_cons_zero, List.set_cons_succ]
  refine reg_yes (i := 9) (d := 173) (v := ?_) ⟨_, rfl, rfl, by rfl, ?_⟩ (by kernel_rfl) (by kernel_rfl) (by kernel_rfl) (fun _ _ _ h => h) (by assumption) ?_
  rotate_left
  · intro w hSw; go_simp; try with_reducible rfl
  simp only [Act.put, List.setIfInBounds_toArray, List.set_cons_zero, List.set_cons_succ]
  refine reg_yes (i := 10) (d := 174) (v := ?_) ⟨_, rfl, rfl, by rfl, ?_⟩ (by kernel_rfl) (by kernel_rfl) (by kernel_rfl) (fun _ _ _ h => h) (by assumption) ?_
  rotate_left
  · intro w hSw; go_simp; try with_reducible rfl
  simp only [Act.put, List.setIfInBounds_toArray, List.set_cons_zero, List.set_cons_succ]
  refine reg_yes (i := 11) (d := 175) (v := ?_) ⟨_, rfl, rfl, by rfl, ?_⟩ (by kernel_rfl) (by kernel_rfl) (by kernel_rfl) (fun _ _ _ h => h) (by assumption) ?_
  rotate_left
  · intro w hSw; go_simp; try with_reducible rfl
  simp only [Act.put, List.setIfInBounds_toArray, List.set_cons_zero, List.set_cons_succ]
  refine reg_yes (i := 12) (d := 176) (v := ?_) ⟨_, rfl, rfl, by rfl, ?_⟩ (by kernel_rfl) (by kernel_rfl) (by kernel_rfl) (fun _ _ _ h => h) (by assumption) ?_
  rotate_left
  · intro w hSw; go_simp; try with_reducible rfl
  simp only [Act.put, List.setIfInBounds_toArray, List.set_cons_zero, List.set_cons_succ]
  refine reg_yes (i := 13) (d := 177) (v := ?_) ⟨_, rfl, rfl, by rfl, ?_⟩ (by kernel_rfl) (by kernel_rfl) (by kernel_rfl) (fun _ _ _ h => h) (by assumption) ?_
  rotate_left
  · intro w hSw; go_simp; try with_reducible rfl
  simp only [Act.put, List.setIfInBounds_toArray, List.set_cons_zero, List.set_cons_succ]
  refine reg_yes (i := 14) (d := 178) (v := ?_) ⟨_, rfl, rfl, by rfl, ?_⟩ (by kernel_rfl) (by kernel_rfl) (by kernel_rfl) (fun _ _ _ h => h) (by assumption) ?_
  rotate_left
  · intro w hSw; go_simp; try with_reducible rfl
  simp only [Act.put, List.setIfInBounds_toArray, List.set_cons_zero, List.set_cons_succ]
  refine reg_yes (i := 15) (d := 179) (v := ?_) ⟨_, rfl, rfl, by rfl, ?_⟩ (by kernel_rfl) (by kernel_rfl) (by kernel_rfl) (fun _ _ _ h => h) (by assumption) ?_
  rotate_left
  · intro w hSw; go_simp; try with_reducible rfl
  simp only [Act.put, List.setIfInBounds_toArray, List.set_cons_zero, List.set_cons_succ]
  refine reg_yes (i := 16) (d := 180) (v := ?_) ⟨_, rfl, rfl, by rfl, ?_⟩ (by kernel_rfl) (by kernel_rfl) (by kernel_rfl) (fun _ _ _ h => h) (by assumption) ?_
  rotate_left
  · intro w hSw; go_simp; try with_reducible rfl
  simp only [Act.put, List.setIfInBounds_toArray, List.set_cons_zero, List.set_cons_succ]
  refine reg_yes (i := 17) (d := 181) (v := ?_) ⟨_, rfl, rfl, by rfl, ?_⟩ (by kernel_rfl) (by kernel_rfl) (by kernel_rfl) (fun _ _ _ h => h) (by assumption) ?_
  rotate_left
  · intro w hSw; go_simp; try with_reducible rfl
  simp only [Act.put, List.setIfInBounds_toArray, List.set_cons_zero, List.set_cons_succ]
  refine reg_yes (i := 18) (d := 182) (v := ?_) ⟨_, rfl, rfl, by rfl, ?_⟩ (by kernel_rfl) (by kernel_rfl) (by kernel_rfl) (fun _ _ _ h => h) (by assumption) ?_
  rotate_left
  · intro w hSw; go_simp; try with_reducible rfl
  simp only [Act.put, List.setIfInBounds_toArray, List.set_cons_zero, List.set_cons_succ]
  refine reg_yes (i := 19) (d := 183) (v := ?_) ⟨_, rfl, rfl, by rfl, ?_⟩ (by kernel_rfl) (by kernel_rfl) (by kernel_rfl) (fun _ _ _ h => h) (by assumption) ?_
  rotate_left
  · intro w hSw; go_simp; try with_reducible rfl
  simp only [Act.put, List.setIfInBounds_toArray, List.set_cons_zero, List.set_cons_succ]
  refine reg_yes (i := 20) (d := 184) (v := ?_) ⟨_, rfl, rfl, by rfl, ?_⟩ (by kernel_rfl) (by kernel_rfl) (by kernel_rfl) (fun _ _ _ h => h) (by assumption) ?_
  rotate_left
  · intro w hSw; go_simp; try with_reducible rfl
  simp only [Act.put, List.setIfInBounds_toArray, List.set_cons_zero, List.set_cons_succ]
  refine reg_yes (i := 21) (d := 185) (v := ?_) ⟨_, rfl, rfl, by rfl, ?_⟩ (by kernel_rfl) (by kernel_rfl) (by kernel_rfl) (fun _ _ _ h => h) (by assumption) ?_
  rotate_left
  · intro w hSw; go_simp; try with_reducible rfl
  simp only [Act.put, List.setIfInBounds_toArray, List.set_cons_zero, List.set_cons_succ]
  refine reg_yes (i := 22) (d := 186) (v := ?_) ⟨_, rfl, rfl, by rfl, ?_⟩ (by kernel_rfl) (by kernel_rfl) (by kernel_rfl) (fun _ _ _ h => h) (by assumption) ?_
  rotate_left
  · intro w hSw; go_simp; try with_reducible rfl
  simp only [Act.put, List.setIfInBounds_toArray, List.set_cons_zero, List.set_cons_succ]
  refine wpAnyH_ready (rs := [23]) (by kernel_rfl) (by simp) ?_
  refine AllReadyH.cons rfl (fun K hK => ?_) AllReadyH.nil
  go_simp
  go_at_call 51
  refine (HH.out _ (Lf.gbt HG0.out hHeld)).mono ?_; rintro e v1 ⟨rfl, hg1⟩
  have hH1 := Lf.gbt hHeld hg1
  refine hK.out _ _ hH1 (fun _ => ?_)
  clear hK K hHeld hg1
  have hHeld := hH1
  clear hH1
  refine reg_yes (i := 24) (d := 188) (v := ?_) ⟨_, rfl, rfl, by rfl, ?_⟩ (by kernel_rfl) (by kernel_rfl) (by kernel_rfl) (fun _ _ _ h => h) (by assumption) ?_
  rotate_left
  · intro w hSw; go_simp; try with_reducible rfl
  simp only [Act.put, List.setIfInBounds_toArray, List.set_cons_zero, List.set_cons_succ]
  refine reg_yes (i := 25) (d := 4) (v := ?_) ⟨_, rfl, rfl, by rfl, ?_⟩ (by kernel_rfl) (by kernel_rfl) (by kernel_rfl) (fun _ _ _ h => h) (by assumption) ?_
  rotate_left
  · intro w hSw; go_simp; try with_reducible rfl
  simp only [Act.put, List.setIfInBounds_toArray, List.set_cons_zero, List.set_cons_succ]
  refine wpAnyH_done (by kernel_rfl) ?_ _
  have HS9 := Lf.hide (Lf.gbt HG0.out hHeld)
  go_wp2_with fail
  go_ret
  exact ⟨by simp, HS9.out⟩

end Go.Proofs.Ytfnolfpbicffhac
