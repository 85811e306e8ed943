/- The document's own has: RHas15. (Made by wip/tools/gen-rhas.py.) -/
import Derived.Test.YtmmgihaoahhkjaaKRHasV
namespace Go.Proofs.Ytmmgihaoahhkjaa
set_option maxRecDepth 20000
open Go.ChangeShapes Go.WideShapes Go.ChangeAt Go.RowKit
set_option linter.unusedVariables false

set_option maxRecDepth 100000 in
set_option maxHeartbeats 4000000 in
theorem rhas_15_no {W : World} {xa : Int} {s : ByteArray} {na : Option Addr} {nl nc : Nat} {a aa ta : Option Addr} {tn c al ac tl tc : Nat} {n : Int}  (HB : Hid (Ans 74 #[.agg #[.int .i64 15, .int .i64 n, .int .i64 xa, .string s, .slice aa al ac, .slice ta tl tc, .slice na nl nc], .bool true, .bool true, .bool false, .int .i64 1, .int .i64 0, .bool false] W false)) :
    Calls Try.prog 36 #[.agg #[.int .i64 15, .slice a tn c], .agg #[.int .i64 15, .int .i64 n, .int .i64 xa, .string s, .slice aa al ac, .slice ta tl tc, .slice na nl nc]] W fun e w' => e = .returned (.bool false) ∧ W.grownBy w' none := by
  have HG0 := Lf.hide (Lf.gbt (Lf.gb (w := W) (.cells #[.int .i64 15, .slice a tn c] 24)) (Lf.gb (.cells #[.int .i64 15, .int .i64 n, .int .i64 xa, .string s, .slice aa al ac, .slice ta tl tc, .slice na nl nc] 28)))
  have hA := res_new W (.cells #[.int .i64 15, .slice a tn c] 24) (.cells #[.int .i64 15, .int .i64 n, .int .i64 xa, .string s, .slice aa al ac, .slice ta tl tc, .slice na nl nc] 28)
  have hB := rnew_two W (.cells #[.int .i64 15, .slice a tn c] 24) (.cells #[.int .i64 15, .int .i64 n, .int .i64 xa, .string s, .slice aa al ac, .slice ta tl tc, .slice na nl nc] 28)
  go_enter Try.func36, Try.ntmps36
  go_wp2_with fail
  generalize (W.alloc (.cells #[.int .i64 15, .slice a tn c] 24)).alloc (.cells #[.int .i64 15, .int .i64 n, .int .i64 xa, .string s, .slice aa al ac, .slice ta tl tc, .slice na nl nc] 28) = w5 at *
  have qd0 := bq0 hA
  have qd1 := bq1 hA
  have bd0 := bx0 hB
  have bd1 := bx1 hB
  have bd2 := bx2 hB
  have bd3 := bx3 hB
  have bd4 := bx4 hB
  have bd5 := bx5 hB
  have bd6 := bx6 hB
  clear hA hB
  refine wp_region_held_drew (S := fun w' => w5.grownBy w' none) (by kernel_rfl) ?_ (fun hHeld => ?_)
  · exact grow_drew (grow_refl _ _)
  refine reg_go 0 246 ?_
  simp only [Act.put, pS]
  refine wpAnyH_ready (rs := [1]) (by kernel_rfl) (by simp) ?_
  refine AllReadyH.cons rfl (fun K hK => ?_) AllReadyH.nil
  go_simp
  go_at_call 74
  refine (HB.out _ (Lf.gbt HG0.out hHeld)).mono ?_; rintro e v0 ⟨rfl, hg0⟩
  have hH0 := Lf.gbt hHeld hg0
  refine hK.out _ _ hH0 (fun _ => ?_)
  clear hK K hHeld hg0
  have hHeld := hH0
  clear hH0
  refine reg_go 2 248 ?_
  simp only [Act.put, pS]
  refine reg_no 3 249 ?_
  simp only [Act.put, pS]
  refine reg_no 4 250 ?_
  simp only [Act.put, pS]
  refine reg_no 5 251 ?_
  simp only [Act.put, pS]
  refine reg_go 6 252 ?_
  simp only [Act.put, pS]
  refine reg_go 7 253 ?_
  simp only [Act.put, pS]
  refine reg_no 8 254 ?_
  simp only [Act.put, pS]
  refine reg_no 9 255 ?_
  simp only [Act.put, pS]
  refine reg_no 10 256 ?_
  simp only [Act.put, pS]
  refine reg_go 11 257 ?_
  simp only [Act.put, pS]
  refine reg_go 12 258 ?_
  simp only [Act.put, pS]
  refine reg_no 13 259 ?_
  simp only [Act.put, pS]
  refine reg_no 14 260 ?_
  simp only [Act.put, pS]
  refine reg_no 15 261 ?_
  simp only [Act.put, pS]
  refine reg_go 16 262 ?_
  simp only [Act.put, pS]
  refine reg_go 17 263 ?_
  simp only [Act.put, pS]
  refine reg_no 18 264 ?_
  simp only [Act.put, pS]
  refine reg_no 19 265 ?_
  simp only [Act.put, pS]
  refine reg_no 20 266 ?_
  simp only [Act.put, pS]
  refine reg_no 21 267 ?_
  simp only [Act.put, pS]
  refine reg_no 22 268 ?_
  simp only [Act.put, pS]
  refine reg_no 23 269 ?_
  simp only [Act.put, pS]
  refine reg_no 24 270 ?_
  simp only [Act.put, pS]
  refine reg_no 25 271 ?_
  simp only [Act.put, pS]
  refine reg_no 26 272 ?_
  simp only [Act.put, pS]
  refine reg_go 27 273 ?_
  simp only [Act.put, pS]
  refine reg_go 28 4 ?_
  simp only [Act.put, pS]
  refine wpAnyH_done (by kernel_rfl) ?_ _
  have HS9 := Lf.hide (Lf.gbt HG0.out hHeld)
  go_wp2_with fail
  go_ret
  exact ⟨rfl, HS9.out⟩

set_option maxRecDepth 100000 in
set_option maxHeartbeats 4000000 in
theorem rhas_15_a {W : World} {xa : Int} {s : ByteArray} {na : Option Addr} {nl nc : Nat} {a aa ta : Option Addr} {tn c al ac tl tc : Nat} {n : Int}  (HB : Hid (Ans 74 #[.agg #[.int .i64 15, .int .i64 n, .int .i64 xa, .string s, .slice aa al ac, .slice ta tl tc, .slice na nl nc], .bool true, .bool true, .bool false, .int .i64 1, .int .i64 0, .bool false] W true)) (HN : Hid (Ans 76 #[.int .i64 n] W false)) :
    Calls Try.prog 36 #[.agg #[.int .i64 15, .slice a tn c], .agg #[.int .i64 15, .int .i64 n, .int .i64 xa, .string s, .slice aa al ac, .slice ta tl tc, .slice na nl nc]] W fun e w' => e = .returned (.bool false) ∧ W.grownBy w' none := by
  have HG0 := Lf.hide (Lf.gbt (Lf.gb (w := W) (.cells #[.int .i64 15, .slice a tn c] 24)) (Lf.gb (.cells #[.int .i64 15, .int .i64 n, .int .i64 xa, .string s, .slice aa al ac, .slice ta tl tc, .slice na nl nc] 28)))
  have hA := res_new W (.cells #[.int .i64 15, .slice a tn c] 24) (.cells #[.int .i64 15, .int .i64 n, .int .i64 xa, .string s, .slice aa al ac, .slice ta tl tc, .slice na nl nc] 28)
  have hB := rnew_two W (.cells #[.int .i64 15, .slice a tn c] 24) (.cells #[.int .i64 15, .int .i64 n, .int .i64 xa, .string s, .slice aa al ac, .slice ta tl tc, .slice na nl nc] 28)
  go_enter Try.func36, Try.ntmps36
  go_wp2_with fail
  generalize (W.alloc (.cells #[.int .i64 15, .slice a tn c] 24)).alloc (.cells #[.int .i64 15, .int .i64 n, .int .i64 xa, .string s, .slice aa al ac, .slice ta tl tc, .slice na nl nc] 28) = w5 at *
  have qd0 := bq0 hA
  have qd1 := bq1 hA
  have bd0 := bx0 hB
  have bd1 := bx1 hB
  have bd2 := bx2 hB
  have bd3 := bx3 hB
  have bd4 := bx4 hB
  have bd5 := bx5 hB
  have bd6 := bx6 hB
  clear hA hB
  refine wp_region_held_drew (S := fun w' => w5.grownBy w' none) (by kernel_rfl) ?_ (fun hHeld => ?_)
  · exact grow_drew (grow_refl _ _)
  refine reg_go 0 246 ?_
  simp only [Act.put, pS]
  refine wpAnyH_ready (rs := [1]) (by kernel_rfl) (by simp) ?_
  refine AllReadyH.cons rfl (fun K hK => ?_) AllReadyH.nil
  go_simp
  go_at_call 74
  refine (HB.out _ (Lf.gbt HG0.out hHeld)).mono ?_; rintro e v0 ⟨rfl, hg0⟩
  have hH0 := Lf.gbt hHeld hg0
  refine hK.out _ _ hH0 (fun _ => ?_)
  clear hK K hHeld hg0
  have hHeld := hH0
  clear hH0
  refine reg_go 2 248 ?_
  simp only [Act.put, pS]
  refine reg_go 3 249 ?_
  simp only [Act.put, pS]
  refine reg_go 4 250 ?_
  simp only [Act.put, pS]
  refine wpAnyH_ready (rs := [5]) (by kernel_rfl) (by simp) ?_
  refine AllReadyH.cons rfl (fun K hK => ?_) AllReadyH.nil
  go_simp
  go_at_call 76
  refine (HN.out _ (Lf.gbt HG0.out hHeld)).mono ?_; rintro e v1 ⟨rfl, hg1⟩
  have hH1 := Lf.gbt hHeld hg1
  refine hK.out _ _ hH1 (fun _ => ?_)
  clear hK K hHeld hg1
  have hHeld := hH1
  clear hH1
  refine reg_go 6 252 ?_
  simp only [Act.put, pS]
  refine reg_go 7 253 ?_
  simp only [Act.put, pS]
  refine reg_no 8 254 ?_
  simp only [Act.put, pS]
  refine reg_no 9 255 ?_
  simp only [Act.put, pS]
  refine reg_no 10 256 ?_
  simp only [Act.put, pS]
  refine reg_go 11 257 ?_
  simp only [Act.put, pS]
  refine reg_go 12 258 ?_
  simp only [Act.put, pS]
  refine reg_no 13 259 ?_
  simp only [Act.put, pS]
  refine reg_no 14 260 ?_
  simp only [Act.put, pS]
  refine reg_no 15 261 ?_
  simp only [Act.put, pS]
  refine reg_go 16 262 ?_
  simp only [Act.put, pS]
  refine reg_go 17 263 ?_
  simp only [Act.put, pS]
  refine reg_no 18 264 ?_
  simp only [Act.put, pS]
  refine reg_no 19 265 ?_
  simp only [Act.put, pS]
  refine reg_no 20 266 ?_
  simp only [Act.put, pS]
  refine reg_no 21 267 ?_
  simp only [Act.put, pS]
  refine reg_no 22 268 ?_
  simp only [Act.put, pS]
  refine reg_no 23 269 ?_
  simp only [Act.put, pS]
  refine reg_no 24 270 ?_
  simp only [Act.put, pS]
  refine reg_no 25 271 ?_
  simp only [Act.put, pS]
  refine reg_no 26 272 ?_
  simp only [Act.put, pS]
  refine reg_go 27 273 ?_
  simp only [Act.put, pS]
  refine reg_go 28 4 ?_
  simp only [Act.put, pS]
  refine wpAnyH_done (by kernel_rfl) ?_ _
  have HS9 := Lf.hide (Lf.gbt HG0.out hHeld)
  go_wp2_with fail
  go_ret
  exact ⟨rfl, HS9.out⟩

set_option maxRecDepth 100000 in
set_option maxHeartbeats 4000000 in
theorem rhas_15_g {W : World} {xa : Int} {s : ByteArray} {na : Option Addr} {nl nc : Nat} {a aa ta : Option Addr} {tn c al ac tl tc : Nat} {n : Int}  (HB : Hid (Ans 74 #[.agg #[.int .i64 15, .int .i64 n, .int .i64 xa, .string s, .slice aa al ac, .slice ta tl tc, .slice na nl nc], .bool true, .bool true, .bool false, .int .i64 1, .int .i64 0, .bool false] W true)) (HN : Hid (Ans 76 #[.int .i64 n] W true)) (h0 : decide (0 < n) = false) :
    Calls Try.prog 36 #[.agg #[.int .i64 15, .slice a tn c], .agg #[.int .i64 15, .int .i64 n, .int .i64 xa, .string s, .slice aa al ac, .slice ta tl tc, .slice na nl nc]] W fun e w' => e = .returned (.bool false) ∧ W.grownBy w' none := by
  have HG0 := Lf.hide (Lf.gbt (Lf.gb (w := W) (.cells #[.int .i64 15, .slice a tn c] 24)) (Lf.gb (.cells #[.int .i64 15, .int .i64 n, .int .i64 xa, .string s, .slice aa al ac, .slice ta tl tc, .slice na nl nc] 28)))
  have hA := res_new W (.cells #[.int .i64 15, .slice a tn c] 24) (.cells #[.int .i64 15, .int .i64 n, .int .i64 xa, .string s, .slice aa al ac, .slice ta tl tc, .slice na nl nc] 28)
  have hB := rnew_two W (.cells #[.int .i64 15, .slice a tn c] 24) (.cells #[.int .i64 15, .int .i64 n, .int .i64 xa, .string s, .slice aa al ac, .slice ta tl tc, .slice na nl nc] 28)
  go_enter Try.func36, Try.ntmps36
  go_wp2_with fail
  generalize (W.alloc (.cells #[.int .i64 15, .slice a tn c] 24)).alloc (.cells #[.int .i64 15, .int .i64 n, .int .i64 xa, .string s, .slice aa al ac, .slice ta tl tc, .slice na nl nc] 28) = w5 at *
  have qd0 := bq0 hA
  have qd1 := bq1 hA
  have bd0 := bx0 hB
  have bd1 := bx1 hB
  have bd2 := bx2 hB
  have bd3 := bx3 hB
  have bd4 := bx4 hB
  have bd5 := bx5 hB
  have bd6 := bx6 hB
  clear hA hB
  refine wp_region_held_drew (S := fun w' => w5.grownBy w' none) (by kernel_rfl) ?_ (fun hHeld => ?_)
  · exact grow_drew (grow_refl _ _)
  refine reg_go 0 246 ?_
  simp only [Act.put, pS]
  refine wpAnyH_ready (rs := [1]) (by kernel_rfl) (by simp) ?_
  refine AllReadyH.cons rfl (fun K hK => ?_) AllReadyH.nil
  go_simp
  go_at_call 74
  refine (HB.out _ (Lf.gbt HG0.out hHeld)).mono ?_; rintro e v0 ⟨rfl, hg0⟩
  have hH0 := Lf.gbt hHeld hg0
  refine hK.out _ _ hH0 (fun _ => ?_)
  clear hK K hHeld hg0
  have hHeld := hH0
  clear hH0
  refine reg_go 2 248 ?_
  simp only [Act.put, pS]
  refine reg_go 3 249 ?_
  simp only [Act.put, pS]
  refine reg_go 4 250 ?_
  simp only [Act.put, pS]
  refine wpAnyH_ready (rs := [5]) (by kernel_rfl) (by simp) ?_
  refine AllReadyH.cons rfl (fun K hK => ?_) AllReadyH.nil
  go_simp
  go_at_call 76
  refine (HN.out _ (Lf.gbt HG0.out hHeld)).mono ?_; rintro e v1 ⟨rfl, hg1⟩
  have hH1 := Lf.gbt hHeld hg1
  refine hK.out _ _ hH1 (fun _ => ?_)
  clear hK K hHeld hg1
  have hHeld := hH1
  clear hH1
  refine reg_go 6 252 ?_
  simp only [Act.put, pS]
  refine reg_go 7 253 ?_
  simp only [Act.put, pS]
  refine reg_go 8 254 ?_
  simp only [Act.put, pS]
  refine reg_go 9 255 ?_
  simp only [Act.put, pS]
  refine reg_go 10 256 ?_
  simp only [Act.put, pS]
  refine reg_go 11 257 ?_
  simp only [Act.put, pS]
  refine reg_go 12 258 ?_
  simp only [Act.put, pS]
  refine reg_no 13 259 ?_
  simp only [Act.put, pS]
  refine reg_no 14 260 ?_
  simp only [Act.put, pS]
  refine reg_no 15 261 ?_
  simp only [Act.put, pS]
  refine reg_go 16 262 ?_
  simp only [Act.put, pS]
  refine reg_go 17 263 ?_
  simp only [Act.put, pS]
  refine reg_no 18 264 ?_
  simp only [Act.put, pS]
  refine reg_no 19 265 ?_
  simp only [Act.put, pS]
  refine reg_no 20 266 ?_
  simp only [Act.put, pS]
  refine reg_no 21 267 ?_
  simp only [Act.put, pS]
  refine reg_no 22 268 ?_
  simp only [Act.put, pS]
  refine reg_no 23 269 ?_
  simp only [Act.put, pS]
  refine reg_no 24 270 ?_
  simp only [Act.put, pS]
  refine reg_no 25 271 ?_
  simp only [Act.put, pS]
  refine reg_no 26 272 ?_
  simp only [Act.put, pS]
  refine reg_go 27 273 ?_
  simp only [Act.put, pS]
  refine reg_go 28 4 ?_
  simp only [Act.put, pS]
  refine wpAnyH_done (by kernel_rfl) ?_ _
  have HS9 := Lf.hide (Lf.gbt HG0.out hHeld)
  go_wp2_with fail
  go_ret
  exact ⟨rfl, HS9.out⟩

set_option maxRecDepth 100000 in
set_option maxHeartbeats 4000000 in
theorem rhas_15_d {W : World} {xa : Int} {s : ByteArray} {na : Option Addr} {nl nc : Nat} {a aa ta : Option Addr} {tn c al ac tl tc : Nat} {n : Int}  (HB : Hid (Ans 74 #[.agg #[.int .i64 15, .int .i64 n, .int .i64 xa, .string s, .slice aa al ac, .slice ta tl tc, .slice na nl nc], .bool true, .bool true, .bool false, .int .i64 1, .int .i64 0, .bool false] W true)) (HN : Hid (Ans 76 #[.int .i64 n] W true)) (HD : Hid (Ans 77 #[.int .i64 xa] W false)) (h0 : decide (0 < n) = true) :
    Calls Try.prog 36 #[.agg #[.int .i64 15, .slice a tn c], .agg #[.int .i64 15, .int .i64 n, .int .i64 xa, .string s, .slice aa al ac, .slice ta tl tc, .slice na nl nc]] W fun e w' => e = .returned (.bool false) ∧ W.grownBy w' none := by
  have HG0 := Lf.hide (Lf.gbt (Lf.gb (w := W) (.cells #[.int .i64 15, .slice a tn c] 24)) (Lf.gb (.cells #[.int .i64 15, .int .i64 n, .int .i64 xa, .string s, .slice aa al ac, .slice ta tl tc, .slice na nl nc] 28)))
  have hA := res_new W (.cells #[.int .i64 15, .slice a tn c] 24) (.cells #[.int .i64 15, .int .i64 n, .int .i64 xa, .string s, .slice aa al ac, .slice ta tl tc, .slice na nl nc] 28)
  have hB := rnew_two W (.cells #[.int .i64 15, .slice a tn c] 24) (.cells #[.int .i64 15, .int .i64 n, .int .i64 xa, .string s, .slice aa al ac, .slice ta tl tc, .slice na nl nc] 28)
  go_enter Try.func36, Try.ntmps36
  go_wp2_with fail
  generalize (W.alloc (.cells #[.int .i64 15, .slice a tn c] 24)).alloc (.cells #[.int .i64 15, .int .i64 n, .int .i64 xa, .string s, .slice aa al ac, .slice ta tl tc, .slice na nl nc] 28) = w5 at *
  have qd0 := bq0 hA
  have qd1 := bq1 hA
  have bd0 := bx0 hB
  have bd1 := bx1 hB
  have bd2 := bx2 hB
  have bd3 := bx3 hB
  have bd4 := bx4 hB
  have bd5 := bx5 hB
  have bd6 := bx6 hB
  clear hA hB
  refine wp_region_held_drew (S := fun w' => w5.grownBy w' none) (by kernel_rfl) ?_ (fun hHeld => ?_)
  · exact grow_drew (grow_refl _ _)
  refine reg_go 0 246 ?_
  simp only [Act.put, pS]
  refine wpAnyH_ready (rs := [1]) (by kernel_rfl) (by simp) ?_
  refine AllReadyH.cons rfl (fun K hK => ?_) AllReadyH.nil
  go_simp
  go_at_call 74
  refine (HB.out _ (Lf.gbt HG0.out hHeld)).mono ?_; rintro e v0 ⟨rfl, hg0⟩
  have hH0 := Lf.gbt hHeld hg0
  refine hK.out _ _ hH0 (fun _ => ?_)
  clear hK K hHeld hg0
  have hHeld := hH0
  clear hH0
  refine reg_go 2 248 ?_
  simp only [Act.put, pS]
  refine reg_go 3 249 ?_
  simp only [Act.put, pS]
  refine reg_go 4 250 ?_
  simp only [Act.put, pS]
  refine wpAnyH_ready (rs := [5]) (by kernel_rfl) (by simp) ?_
  refine AllReadyH.cons rfl (fun K hK => ?_) AllReadyH.nil
  go_simp
  go_at_call 76
  refine (HN.out _ (Lf.gbt HG0.out hHeld)).mono ?_; rintro e v1 ⟨rfl, hg1⟩
  have hH1 := Lf.gbt hHeld hg1
  refine hK.out _ _ hH1 (fun _ => ?_)
  clear hK K hHeld hg1
  have hHeld := hH1
  clear hH1
  refine reg_go 6 252 ?_
  simp only [Act.put, pS]
  refine reg_go 7 253 ?_
  simp only [Act.put, pS]
  refine reg_go 8 254 ?_
  simp only [Act.put, pS]
  refine reg_go 9 255 ?_
  simp only [Act.put, pS]
  refine reg_go 10 256 ?_
  simp only [Act.put, pS]
  refine reg_go 11 257 ?_
  simp only [Act.put, pS]
  refine reg_go 12 258 ?_
  simp only [Act.put, pS]
  refine reg_go 13 259 ?_
  simp only [Act.put, pS]
  refine reg_go 14 260 ?_
  simp only [Act.put, pS]
  refine wpAnyH_ready (rs := [15]) (by kernel_rfl) (by simp) ?_
  refine AllReadyH.cons rfl (fun K hK => ?_) AllReadyH.nil
  go_simp
  go_at_call 77
  refine (HD.out _ (Lf.gbt HG0.out hHeld)).mono ?_; rintro e v2 ⟨rfl, hg2⟩
  have hH2 := Lf.gbt hHeld hg2
  refine hK.out _ _ hH2 (fun _ => ?_)
  clear hK K hHeld hg2
  have hHeld := hH2
  clear hH2
  refine reg_go 16 262 ?_
  simp only [Act.put, pS]
  refine reg_go 17 263 ?_
  simp only [Act.put, pS]
  refine reg_no 18 264 ?_
  simp only [Act.put, pS]
  refine reg_no 19 265 ?_
  simp only [Act.put, pS]
  refine reg_no 20 266 ?_
  simp only [Act.put, pS]
  refine reg_no 21 267 ?_
  simp only [Act.put, pS]
  refine reg_no 22 268 ?_
  simp only [Act.put, pS]
  refine reg_no 23 269 ?_
  simp only [Act.put, pS]
  refine reg_no 24 270 ?_
  simp only [Act.put, pS]
  refine reg_no 25 271 ?_
  simp only [Act.put, pS]
  refine reg_no 26 272 ?_
  simp only [Act.put, pS]
  refine reg_go 27 273 ?_
  simp only [Act.put, pS]
  refine reg_go 28 4 ?_
  simp only [Act.put, pS]
  refine wpAnyH_done (by kernel_rfl) ?_ _
  have HS9 := Lf.hide (Lf.gbt HG0.out hHeld)
  go_wp2_with fail
  go_ret
  exact ⟨rfl, HS9.out⟩

set_option maxRecDepth 100000 in
set_option maxHeartbeats 4000000 in
theorem rhas_15_q {W : World} {xa : Int} {s : ByteArray} {na : Option Addr} {nl nc : Nat} {ta : Option Addr} {c ac tl tc : Nat} {n : Int} {bt ot bv ov : Nat} {t_t : Int} {t_a : Option Addr} {t_l t_c : Nat} {y_k y_n y_x : Int} {y_s : ByteArray} {y_a y_ta y_na : Option Addr} {y_l y_c y_tl y_tc y_nl y_nc : Nat} {q : Bool} (tc0 : ∀ W3 : World, W.grownBy W3 none → W3.cell? ⟨bt, ot, none⟩ = some (.int .i64 t_t)) (tc1 : ∀ W3 : World, W.grownBy W3 none → W3.cell? ⟨bt, ot + 1, none⟩ = some (.slice t_a t_l t_c)) (yc0 : ∀ W3 : World, W.grownBy W3 none → W3.cell? ⟨bv, ov, none⟩ = some (.int .i64 y_k)) (yc1 : ∀ W3 : World, W.grownBy W3 none → W3.cell? ⟨bv, ov + 1, none⟩ = some (.int .i64 y_n)) (yc2 : ∀ W3 : World, W.grownBy W3 none → W3.cell? ⟨bv, ov + 2, none⟩ = some (.int .i64 y_x)) (yc3 : ∀ W3 : World, W.grownBy W3 none → W3.cell? ⟨bv, ov + 3, none⟩ = some (.string y_s)) (yc4 : ∀ W3 : World, W.grownBy W3 none → W3.cell? ⟨bv, ov + 4, none⟩ = some (.slice y_a y_l y_c)) (yc5 : ∀ W3 : World, W.grownBy W3 none → W3.cell? ⟨bv, ov + 5, none⟩ = some (.slice y_ta y_tl y_tc)) (yc6 : ∀ W3 : World, W.grownBy W3 none → W3.cell? ⟨bv, ov + 6, none⟩ = some (.slice y_na y_nl y_nc)) (h0 : decide (0 < n) = true) (HB : Hid (Ans 74 #[.agg #[.int .i64 15, .int .i64 n, .int .i64 xa, .string s, .slice (some ⟨bv, ov, none⟩) 1 ac, .slice ta tl tc, .slice na nl nc], .bool true, .bool true, .bool false, .int .i64 1, .int .i64 0, .bool false] W true)) (HN : Hid (Ans 76 #[.int .i64 n] W true)) (HD : Hid (Ans 77 #[.int .i64 xa] W true)) (HH : Hid (Ans 36 #[.agg #[.int .i64 t_t, .slice t_a t_l t_c], .agg #[.int .i64 y_k, .int .i64 y_n, .int .i64 y_x, .string y_s, .slice y_a y_l y_c, .slice y_ta y_tl y_tc, .slice y_na y_nl y_nc]] W q)) :
    Calls Try.prog 36 #[.agg #[.int .i64 15, .slice (some ⟨bt, ot, none⟩) 1 c], .agg #[.int .i64 15, .int .i64 n, .int .i64 xa, .string s, .slice (some ⟨bv, ov, none⟩) 1 ac, .slice ta tl tc, .slice na nl nc]] W fun e w' => e = .returned (.bool q) ∧ W.grownBy w' none := by
  have HG0 := Lf.hide (Lf.gbt (Lf.gb (w := W) (.cells #[.int .i64 15, .slice (some ⟨bt, ot, none⟩) 1 c] 24)) (Lf.gb (.cells #[.int .i64 15, .int .i64 n, .int .i64 xa, .string s, .slice (some ⟨bv, ov, none⟩) 1 ac, .slice ta tl tc, .slice na nl nc] 28)))
  have hA := res_new W (.cells #[.int .i64 15, .slice (some ⟨bt, ot, none⟩) 1 c] 24) (.cells #[.int .i64 15, .int .i64 n, .int .i64 xa, .string s, .slice (some ⟨bv, ov, none⟩) 1 ac, .slice ta tl tc, .slice na nl nc] 28)
  have hB := rnew_two W (.cells #[.int .i64 15, .slice (some ⟨bt, ot, none⟩) 1 c] 24) (.cells #[.int .i64 15, .int .i64 n, .int .i64 xa, .string s, .slice (some ⟨bv, ov, none⟩) 1 ac, .slice ta tl tc, .slice na nl nc] 28)
  go_enter Try.func36, Try.ntmps36
  go_wp2_with fail
  generalize (W.alloc (.cells #[.int .i64 15, .slice (some ⟨bt, ot, none⟩) 1 c] 24)).alloc (.cells #[.int .i64 15, .int .i64 n, .int .i64 xa, .string s, .slice (some ⟨bv, ov, none⟩) 1 ac, .slice ta tl tc, .slice na nl nc] 28) = w5 at *
  have qd0 := bq0 hA
  have qd1 := bq1 hA
  have bd0 := bx0 hB
  have bd1 := bx1 hB
  have bd2 := bx2 hB
  have bd3 := bx3 hB
  have bd4 := bx4 hB
  have bd5 := bx5 hB
  have bd6 := bx6 hB
  clear hA hB
  have td0 : ∀ W3 : World, w5.grownBy W3 none → W3.cell? ⟨bt, ot, none⟩ = some (.int .i64 t_t) := fun W3 h => tc0 W3 (Lf.gbt HG0.out h)
  have td1 : ∀ W3 : World, w5.grownBy W3 none → W3.cell? ⟨bt, ot + 1, none⟩ = some (.slice t_a t_l t_c) := fun W3 h => tc1 W3 (Lf.gbt HG0.out h)
  clear tc0 tc1
  have yd0 : ∀ W3 : World, w5.grownBy W3 none → W3.cell? ⟨bv, ov, none⟩ = some (.int .i64 y_k) := fun W3 h => yc0 W3 (Lf.gbt HG0.out h)
  have yd1 : ∀ W3 : World, w5.grownBy W3 none → W3.cell? ⟨bv, ov + 1, none⟩ = some (.int .i64 y_n) := fun W3 h => yc1 W3 (Lf.gbt HG0.out h)
  have yd2 : ∀ W3 : World, w5.grownBy W3 none → W3.cell? ⟨bv, ov + 2, none⟩ = some (.int .i64 y_x) := fun W3 h => yc2 W3 (Lf.gbt HG0.out h)
  have yd3 : ∀ W3 : World, w5.grownBy W3 none → W3.cell? ⟨bv, ov + 3, none⟩ = some (.string y_s) := fun W3 h => yc3 W3 (Lf.gbt HG0.out h)
  have yd4 : ∀ W3 : World, w5.grownBy W3 none → W3.cell? ⟨bv, ov + 4, none⟩ = some (.slice y_a y_l y_c) := fun W3 h => yc4 W3 (Lf.gbt HG0.out h)
  have yd5 : ∀ W3 : World, w5.grownBy W3 none → W3.cell? ⟨bv, ov + 5, none⟩ = some (.slice y_ta y_tl y_tc) := fun W3 h => yc5 W3 (Lf.gbt HG0.out h)
  have yd6 : ∀ W3 : World, w5.grownBy W3 none → W3.cell? ⟨bv, ov + 6, none⟩ = some (.slice y_na y_nl y_nc) := fun W3 h => yc6 W3 (Lf.gbt HG0.out h)
  clear yc0 yc1 yc2 yc3 yc4 yc5 yc6
  refine wp_region_held_drew (S := fun w' => w5.grownBy w' none) (by kernel_rfl) ?_ (fun hHeld => ?_)
  · exact grow_drew (grow_refl _ _)
  refine reg_go 0 246 ?_
  simp only [Act.put, pS]
  refine wpAnyH_ready (rs := [1]) (by kernel_rfl) (by simp) ?_
  refine AllReadyH.cons rfl (fun K hK => ?_) AllReadyH.nil
  go_simp
  go_at_call 74
  refine (HB.out _ (Lf.gbt HG0.out hHeld)).mono ?_; rintro e v0 ⟨rfl, hg0⟩
  have hH0 := Lf.gbt hHeld hg0
  refine hK.out _ _ hH0 (fun _ => ?_)
  clear hK K hHeld hg0
  have hHeld := hH0
  clear hH0
  refine reg_go 2 248 ?_
  simp only [Act.put, pS]
  refine reg_go 3 249 ?_
  simp only [Act.put, pS]
  refine reg_go 4 250 ?_
  simp only [Act.put, pS]
  refine wpAnyH_ready (rs := [5]) (by kernel_rfl) (by simp) ?_
  refine AllReadyH.cons rfl (fun K hK => ?_) AllReadyH.nil
  go_simp
  go_at_call 76
  refine (HN.out _ (Lf.gbt HG0.out hHeld)).mono ?_; rintro e v1 ⟨rfl, hg1⟩
  have hH1 := Lf.gbt hHeld hg1
  refine hK.out _ _ hH1 (fun _ => ?_)
  clear hK K hHeld hg1
  have hHeld := hH1
  clear hH1
  refine reg_go 6 252 ?_
  simp only [Act.put, pS]
  refine reg_go 7 253 ?_
  simp only [Act.put, pS]
  refine reg_go 8 254 ?_
  simp only [Act.put, pS]
  refine reg_go 9 255 ?_
  simp only [Act.put, pS]
  refine reg_go 10 256 ?_
  simp only [Act.put, pS]
  refine reg_go 11 257 ?_
  simp only [Act.put, pS]
  refine reg_go 12 258 ?_
  simp only [Act.put, pS]
  refine reg_go 13 259 ?_
  simp only [Act.put, pS]
  refine reg_go 14 260 ?_
  simp only [Act.put, pS]
  refine wpAnyH_ready (rs := [15]) (by kernel_rfl) (by simp) ?_
  refine AllReadyH.cons rfl (fun K hK => ?_) AllReadyH.nil
  go_simp
  go_at_call 77
  refine (HD.out _ (Lf.gbt HG0.out hHeld)).mono ?_; rintro e v2 ⟨rfl, hg2⟩
  have hH2 := Lf.gbt hHeld hg2
  refine hK.out _ _ hH2 (fun _ => ?_)
  clear hK K hHeld hg2
  have hHeld := hH2
  clear hH2
  refine reg_go 16 262 ?_
  simp only [Act.put, pS]
  refine reg_go 17 263 ?_
  simp only [Act.put, pS]
  refine reg_go 18 264 ?_
  simp only [Act.put, pS]
  refine reg_go 19 265 ?_
  simp only [Act.put, pS]
  refine reg_go 20 266 ?_
  simp only [Act.put, pS]
  refine reg_go 21 267 ?_
  simp only [Act.put, pS]
  refine reg_go 22 268 ?_
  simp only [Act.put, pS]
  refine reg_go 23 269 ?_
  simp only [Act.put, pS]
  refine reg_go 24 270 ?_
  simp only [Act.put, pS]
  refine reg_go 25 271 ?_
  simp only [Act.put, pS]
  refine wpAnyH_ready (rs := [26]) (by kernel_rfl) (by simp) ?_
  refine AllReadyH.cons rfl (fun K hK => ?_) AllReadyH.nil
  go_simp
  go_at_call 36
  refine (HH.out _ (Lf.gbt HG0.out hHeld)).mono ?_; rintro e v3 ⟨rfl, hg3⟩
  have hH3 := Lf.gbt hHeld hg3
  refine hK.out _ _ hH3 (fun _ => ?_)
  clear hK K hHeld hg3
  have hHeld := hH3
  clear hH3
  refine reg_go 27 273 ?_
  simp only [Act.put, pS]
  refine reg_go 28 4 ?_
  simp only [Act.put, pS]
  refine wpAnyH_done (by kernel_rfl) ?_ _
  have HS9 := Lf.hide (Lf.gbt HG0.out hHeld)
  go_wp2_with fail
  go_ret
  exact ⟨by simp, HS9.out⟩

end Go.Proofs.Ytmmgihaoahhkjaa
