/- fits by its contract. -/
import Derived.Test.YtmmgihaoahhkjaaHasCC
namespace Go.Proofs.Ytmmgihaoahhkjaa
open Go.ChangeShapes Go.WideShapes Go.ChangeAt Go.RowKit
set_option linter.unusedVariables false

theorem new_two' (w : World) (o o' : Obj) : ((w.alloc o).alloc o').heap[w.heap.size + 1]? = some o' := by
  have := heap_alloc_new (w.alloc o) o'
  rwa [show (w.alloc o).heap.size = w.heap.size + 1 from by simp] at this

set_option maxRecDepth 100000 in
set_option maxHeartbeats 4000000 in
theorem fits_any {w : World} {T : Ty} {x : Va} {u v : Value} (hT : LiesT (fun _ => True) w T u) (hV : LiesV (fun _ => True) w x v) (hz : x.size ≤ 20000000) (W : World) (hW : w.grownBy W none) :
    Calls Try.prog 30 #[u, v] W fun e w' => e = .returned (.bool (fitsF T x)) ∧ W.grownBy w' none := by
  have HT := Lf.hide hT
  obtain ⟨a, c, V, rfl, it, hRT⟩ := hT.inv
  obtain ⟨aa, ac, ta, tc, na, nc, VV, VT, VN, rfl, ⟨ik, iN, ia, hs, hlc⟩, hRV, hRY, hRN⟩ := hV.inv
  have hsz := vsize_eq x
  have H1 := Lf.hide (fun W => fitsN_any T.t x.n W)
  have H2 := Lf.hide (fun W => isSent_any T.t W)
  have H3 := Lf.hide (fun W => isAddr_any x.a W)
  have H4 := Lf.hide (fun W2 (h2 : W.grownBy W2 none) => fitsT_any (tc := tc) HT.out hRY (by omega) W2 (Lf.gbt hW h2))
  have hl := hRN.1
  unfold maxLen at hl hs
  have HF : Hid (fitsF T x = (decide (x.k = T.t) && fitsNF T.t x.n && (decide (x.a = 0) || decide (T.t = 8 ∨ T.t = 15) && addrB x.a) && (decide (x.s.size = 0) || decide (T.t = 6) && decide (x.s.size ≤ 200)) && fitsTF T x.types && (decide (x.code.length = 0) || decide (T.t = 14)))) := rfl
  have HSL := Lf.hide (Lf.nil_iff x.s)
  have HSZ : Hid (x.s.size = 0 → x.s = ⟨#[]⟩) := fun h => by
    have h2 : x.s.data = #[] := Array.eq_empty_of_size_eq_zero h
    cases hx : x.s with
    | mk d => rw [hx] at h2; simp at h2; rw [h2]
  have HSZ : Hid (x.s.size = 0 → x.s = ⟨#[]⟩) := fun h => by
    have h2 : x.s.data = #[] := Array.eq_empty_of_size_eq_zero h
    cases hx : x.s with
    | mk d => rw [hx] at h2; simp at h2; rw [h2]
  have HSZ : Hid (x.s.size = 0 → x.s = ⟨#[]⟩) := fun h => by
    have h2 : x.s.data = #[] := Array.eq_empty_of_size_eq_zero h
    cases hx : x.s with
    | mk d => rw [hx] at h2; simp at h2; rw [h2]
  have HSZ : Hid (x.s.size = 0 → x.s = ⟨#[]⟩) := fun h => by
    have h2 : x.s.data = #[] := Array.eq_empty_of_size_eq_zero h
    cases hx : x.s with
    | mk d => rw [hx] at h2; simp at h2; rw [h2]
  generalize hr : fitsF T x = r at *
  clear hr HT hT hV hRT hRV hRY hRN hW it ik iN ia hlc hz hsz
  generalize fitsNF T.t x.n = b1 at *
  generalize decide (T.t = 8 ∨ T.t = 15) = b2 at *
  generalize addrB x.a = b3 at *
  generalize fitsTF T x.types = b4 at *
  generalize x.k = xk at *
  generalize x.n = xn at *
  generalize x.a = xa at *
  generalize x.s = xs at *
  generalize x.args.length = xl at *
  generalize x.types.length = yl at *
  generalize x.code.length = cl at *
  generalize T.args.length = tl at *
  generalize T.t = tt at *
  unfold tyV vaV at *
  by_cases hk : xk = tt
  · subst hk
    cases b1 with
    | false =>
      have HGB := Lf.hide (Lf.gbt (Lf.gb (w := W) (.cells #[.int .i64 xk, .slice a tl c] 24)) (Lf.gb (.cells #[.int .i64 xk, .int .i64 xn, .int .i64 xa, .string xs, .slice aa xl ac, .slice ta yl tc, .slice na cl nc] 28)))
      have HB0 := Lf.hide (res_new W (.cells #[.int .i64 xk, .slice a tl c] 24) (.cells #[.int .i64 xk, .int .i64 xn, .int .i64 xa, .string xs, .slice aa xl ac, .slice ta yl tc, .slice na cl nc] 28))
      have HB1 := Lf.hide (new_two' W (.cells #[.int .i64 xk, .slice a tl c] 24) (.cells #[.int .i64 xk, .int .i64 xn, .int .i64 xa, .string xs, .slice aa xl ac, .slice ta yl tc, .slice na cl nc] 28))
      have hrr : r = false := by rw [HF.out]; (try rw [show decide ((xk : Int) = xk) = true from decide_eq_true rfl]); rfl
      subst hrr
      clear HF
      go_enter Try.func30, Try.ntmps30
      go_wp2_with fail
      refine (H1.out _).mono ?_; rintro e w' ⟨rfl, rfl⟩
      go_wp2_with fail
      go_ret
      exact ⟨rfl, HGB.out⟩
    | true =>
      by_cases ha : xa = 0
      · subst ha
        by_cases hs0 : xs.size = 0
        · have dS : decide (xs.size = 0) = true := decide_eq_true hs0
          obtain rfl := HSZ.out hs0
          cases b4 with
          | false =>
            have HGB := Lf.hide (Lf.gbt (Lf.gb (w := W) (.cells #[.int .i64 xk, .slice a tl c] 24)) (Lf.gb (.cells #[.int .i64 xk, .int .i64 xn, .int .i64 0, .string ⟨#[]⟩, .slice aa xl ac, .slice ta yl tc, .slice na cl nc] 28)))
            have HB0 := Lf.hide (res_new W (.cells #[.int .i64 xk, .slice a tl c] 24) (.cells #[.int .i64 xk, .int .i64 xn, .int .i64 0, .string ⟨#[]⟩, .slice aa xl ac, .slice ta yl tc, .slice na cl nc] 28))
            have HB1 := Lf.hide (new_two' W (.cells #[.int .i64 xk, .slice a tl c] 24) (.cells #[.int .i64 xk, .int .i64 xn, .int .i64 0, .string ⟨#[]⟩, .slice aa xl ac, .slice ta yl tc, .slice na cl nc] 28))
            have hrr : r = false := by rw [HF.out]; (try rw [show decide ((xk : Int) = xk) = true from decide_eq_true rfl]); (try rw [dS]); rfl
            subst hrr
            clear HF
            go_enter Try.func30, Try.ntmps30
            go_wp2_with fail
            refine (H1.out _).mono ?_; rintro e w' ⟨rfl, rfl⟩
            go_wp2_with fail
            refine (H4.out _ HGB.out).mono ?_; rintro e w1 ⟨rfl, hg⟩
            have m0 := cell0_of ((hg.block _ (Array.getElem?_eq_some_iff.1 HB0.out).1 (by simp)).trans HB0.out)
            obtain ⟨_, _, _, _, _, _, m6⟩ := box7 ((hg.block _ (Array.getElem?_eq_some_iff.1 HB1.out).1 (by simp)).trans HB1.out)
            have HG := Lf.hide (Lf.gbt HGB.out hg)
            clear hg
            go_wp2_with fail
            go_ret
            exact ⟨rfl, HG.out⟩
          | true =>
            by_cases hcl : cl = 0
            · subst hcl
              have HGB := Lf.hide (Lf.gbt (Lf.gb (w := W) (.cells #[.int .i64 xk, .slice a tl c] 24)) (Lf.gb (.cells #[.int .i64 xk, .int .i64 xn, .int .i64 0, .string ⟨#[]⟩, .slice aa xl ac, .slice ta yl tc, .slice na 0 nc] 28)))
              have HB0 := Lf.hide (res_new W (.cells #[.int .i64 xk, .slice a tl c] 24) (.cells #[.int .i64 xk, .int .i64 xn, .int .i64 0, .string ⟨#[]⟩, .slice aa xl ac, .slice ta yl tc, .slice na 0 nc] 28))
              have HB1 := Lf.hide (new_two' W (.cells #[.int .i64 xk, .slice a tl c] 24) (.cells #[.int .i64 xk, .int .i64 xn, .int .i64 0, .string ⟨#[]⟩, .slice aa xl ac, .slice ta yl tc, .slice na 0 nc] 28))
              have hrr : r = true := by rw [HF.out]; (try rw [show decide ((xk : Int) = xk) = true from decide_eq_true rfl]); (try rw [dS]); rfl
              subst hrr
              clear HF
              go_enter Try.func30, Try.ntmps30
              go_wp2_with fail
              refine (H1.out _).mono ?_; rintro e w' ⟨rfl, rfl⟩
              go_wp2_with fail
              refine (H4.out _ HGB.out).mono ?_; rintro e w1 ⟨rfl, hg⟩
              have m0 := cell0_of ((hg.block _ (Array.getElem?_eq_some_iff.1 HB0.out).1 (by simp)).trans HB0.out)
              obtain ⟨_, _, _, _, _, _, m6⟩ := box7 ((hg.block _ (Array.getElem?_eq_some_iff.1 HB1.out).1 (by simp)).trans HB1.out)
              have HG := Lf.hide (Lf.gbt HGB.out hg)
              clear hg
              go_wp2_with fail
              go_ret
              exact ⟨rfl, HG.out⟩
            · have dC : decide (cl = 0) = false := decide_eq_false hcl
              have q1 : ¬ (cl : Int) = 0 := by omega
              have q2 : ((cl : Int) == 0) = false := by rw [beq_eq_false_iff_ne]; exact q1
              by_cases h14 : xk = 14
              · subst h14
                have HGB := Lf.hide (Lf.gbt (Lf.gb (w := W) (.cells #[.int .i64 14, .slice a tl c] 24)) (Lf.gb (.cells #[.int .i64 14, .int .i64 xn, .int .i64 0, .string ⟨#[]⟩, .slice aa xl ac, .slice ta yl tc, .slice na cl nc] 28)))
                have HB0 := Lf.hide (res_new W (.cells #[.int .i64 14, .slice a tl c] 24) (.cells #[.int .i64 14, .int .i64 xn, .int .i64 0, .string ⟨#[]⟩, .slice aa xl ac, .slice ta yl tc, .slice na cl nc] 28))
                have HB1 := Lf.hide (new_two' W (.cells #[.int .i64 14, .slice a tl c] 24) (.cells #[.int .i64 14, .int .i64 xn, .int .i64 0, .string ⟨#[]⟩, .slice aa xl ac, .slice ta yl tc, .slice na cl nc] 28))
                have hrr : r = true := by rw [HF.out]; (try rw [show decide ((14 : Int) = 14) = true from decide_eq_true rfl]); (try rw [dS]); (try rw [dC]); rfl
                subst hrr
                clear HF
                go_enter Try.func30, Try.ntmps30
                go_wp2_with fail
                refine (H1.out _).mono ?_; rintro e w' ⟨rfl, rfl⟩
                go_wp2_with fail
                refine (H4.out _ HGB.out).mono ?_; rintro e w1 ⟨rfl, hg⟩
                have m0 := cell0_of ((hg.block _ (Array.getElem?_eq_some_iff.1 HB0.out).1 (by simp)).trans HB0.out)
                obtain ⟨_, _, _, _, _, _, m6⟩ := box7 ((hg.block _ (Array.getElem?_eq_some_iff.1 HB1.out).1 (by simp)).trans HB1.out)
                have HG := Lf.hide (Lf.gbt HGB.out hg)
                clear hg
                go_wp2_with fail
                go_ret
                exact ⟨rfl, HG.out⟩
              · have d14 : decide (xk = 14) = false := decide_eq_false h14
                have q3 : (xk == 14) = false := by simpa using h14
                have HGB := Lf.hide (Lf.gbt (Lf.gb (w := W) (.cells #[.int .i64 xk, .slice a tl c] 24)) (Lf.gb (.cells #[.int .i64 xk, .int .i64 xn, .int .i64 0, .string ⟨#[]⟩, .slice aa xl ac, .slice ta yl tc, .slice na cl nc] 28)))
                have HB0 := Lf.hide (res_new W (.cells #[.int .i64 xk, .slice a tl c] 24) (.cells #[.int .i64 xk, .int .i64 xn, .int .i64 0, .string ⟨#[]⟩, .slice aa xl ac, .slice ta yl tc, .slice na cl nc] 28))
                have HB1 := Lf.hide (new_two' W (.cells #[.int .i64 xk, .slice a tl c] 24) (.cells #[.int .i64 xk, .int .i64 xn, .int .i64 0, .string ⟨#[]⟩, .slice aa xl ac, .slice ta yl tc, .slice na cl nc] 28))
                have hrr : r = false := by rw [HF.out]; (try rw [show decide ((xk : Int) = xk) = true from decide_eq_true rfl]); (try rw [dS]); (try rw [dC]); (try rw [d14]); rfl
                subst hrr
                clear HF
                go_enter Try.func30, Try.ntmps30
                go_wp2_with fail
                refine (H1.out _).mono ?_; rintro e w' ⟨rfl, rfl⟩
                go_wp2_with fail
                refine (H4.out _ HGB.out).mono ?_; rintro e w1 ⟨rfl, hg⟩
                have m0 := cell0_of ((hg.block _ (Array.getElem?_eq_some_iff.1 HB0.out).1 (by simp)).trans HB0.out)
                obtain ⟨_, _, _, _, _, _, m6⟩ := box7 ((hg.block _ (Array.getElem?_eq_some_iff.1 HB1.out).1 (by simp)).trans HB1.out)
                have HG := Lf.hide (Lf.gbt HGB.out hg)
                clear hg
                go_wp2_with fail
                go_ret
                exact ⟨rfl, HG.out⟩
        · have dS : decide (xs.size = 0) = false := decide_eq_false hs0
          have s1 : xs.toList.isEmpty = false := by
            cases hq : xs.toList with
            | nil => exact absurd (HSL.out.1 hq) hs0
            | cons _ _ => rfl
          have s2 : ¬ xs.toList = [] := fun h => hs0 (HSL.out.1 h)
          by_cases h6 : xk = 6
          · subst h6
            have d614 : decide ((6 : Int) = 14) = false := rfl
            by_cases h200 : xs.size ≤ 200
            · have d2 : decide (xs.size ≤ 200) = true := decide_eq_true h200
              have h201 : (xs.size : Int) ≤ 200 := by omega
              cases b4 with
              | false =>
                have HGB := Lf.hide (Lf.gbt (Lf.gb (w := W) (.cells #[.int .i64 6, .slice a tl c] 24)) (Lf.gb (.cells #[.int .i64 6, .int .i64 xn, .int .i64 0, .string xs, .slice aa xl ac, .slice ta yl tc, .slice na cl nc] 28)))
                have HB0 := Lf.hide (res_new W (.cells #[.int .i64 6, .slice a tl c] 24) (.cells #[.int .i64 6, .int .i64 xn, .int .i64 0, .string xs, .slice aa xl ac, .slice ta yl tc, .slice na cl nc] 28))
                have HB1 := Lf.hide (new_two' W (.cells #[.int .i64 6, .slice a tl c] 24) (.cells #[.int .i64 6, .int .i64 xn, .int .i64 0, .string xs, .slice aa xl ac, .slice ta yl tc, .slice na cl nc] 28))
                have hrr : r = false := by rw [HF.out]; (try rw [show decide ((6 : Int) = 6) = true from decide_eq_true rfl]); (try rw [dS]); (try rw [d614]); (try rw [d2]); rfl
                subst hrr
                clear HF
                go_enter Try.func30, Try.ntmps30
                go_wp2_with fail
                refine (H1.out _).mono ?_; rintro e w' ⟨rfl, rfl⟩
                go_wp2_with fail
                refine (H4.out _ HGB.out).mono ?_; rintro e w1 ⟨rfl, hg⟩
                have m0 := cell0_of ((hg.block _ (Array.getElem?_eq_some_iff.1 HB0.out).1 (by simp)).trans HB0.out)
                obtain ⟨_, _, _, _, _, _, m6⟩ := box7 ((hg.block _ (Array.getElem?_eq_some_iff.1 HB1.out).1 (by simp)).trans HB1.out)
                have HG := Lf.hide (Lf.gbt HGB.out hg)
                clear hg
                go_wp2_with fail
                go_ret
                exact ⟨rfl, HG.out⟩
              | true =>
                by_cases hcl : cl = 0
                · subst hcl
                  have HGB := Lf.hide (Lf.gbt (Lf.gb (w := W) (.cells #[.int .i64 6, .slice a tl c] 24)) (Lf.gb (.cells #[.int .i64 6, .int .i64 xn, .int .i64 0, .string xs, .slice aa xl ac, .slice ta yl tc, .slice na 0 nc] 28)))
                  have HB0 := Lf.hide (res_new W (.cells #[.int .i64 6, .slice a tl c] 24) (.cells #[.int .i64 6, .int .i64 xn, .int .i64 0, .string xs, .slice aa xl ac, .slice ta yl tc, .slice na 0 nc] 28))
                  have HB1 := Lf.hide (new_two' W (.cells #[.int .i64 6, .slice a tl c] 24) (.cells #[.int .i64 6, .int .i64 xn, .int .i64 0, .string xs, .slice aa xl ac, .slice ta yl tc, .slice na 0 nc] 28))
                  have hrr : r = true := by rw [HF.out]; (try rw [show decide ((6 : Int) = 6) = true from decide_eq_true rfl]); (try rw [dS]); (try rw [d614]); (try rw [d2]); rfl
                  subst hrr
                  clear HF
                  go_enter Try.func30, Try.ntmps30
                  go_wp2_with fail
                  refine (H1.out _).mono ?_; rintro e w' ⟨rfl, rfl⟩
                  go_wp2_with fail
                  refine (H4.out _ HGB.out).mono ?_; rintro e w1 ⟨rfl, hg⟩
                  have m0 := cell0_of ((hg.block _ (Array.getElem?_eq_some_iff.1 HB0.out).1 (by simp)).trans HB0.out)
                  obtain ⟨_, _, _, _, _, _, m6⟩ := box7 ((hg.block _ (Array.getElem?_eq_some_iff.1 HB1.out).1 (by simp)).trans HB1.out)
                  have HG := Lf.hide (Lf.gbt HGB.out hg)
                  clear hg
                  go_wp2_with fail
                  go_ret
                  exact ⟨rfl, HG.out⟩
                · have dC : decide (cl = 0) = false := decide_eq_false hcl
                  have q1 : ¬ (cl : Int) = 0 := by omega
                  have q2 : ((cl : Int) == 0) = false := by rw [beq_eq_false_iff_ne]; exact q1
                  have HGB := Lf.hide (Lf.gbt (Lf.gb (w := W) (.cells #[.int .i64 6, .slice a tl c] 24)) (Lf.gb (.cells #[.int .i64 6, .int .i64 xn, .int .i64 0, .string xs, .slice aa xl ac, .slice ta yl tc, .slice na cl nc] 28)))
                  have HB0 := Lf.hide (res_new W (.cells #[.int .i64 6, .slice a tl c] 24) (.cells #[.int .i64 6, .int .i64 xn, .int .i64 0, .string xs, .slice aa xl ac, .slice ta yl tc, .slice na cl nc] 28))
                  have HB1 := Lf.hide (new_two' W (.cells #[.int .i64 6, .slice a tl c] 24) (.cells #[.int .i64 6, .int .i64 xn, .int .i64 0, .string xs, .slice aa xl ac, .slice ta yl tc, .slice na cl nc] 28))
                  have hrr : r = false := by rw [HF.out]; (try rw [show decide ((6 : Int) = 6) = true from decide_eq_true rfl]); (try rw [dS]); (try rw [d614]); (try rw [d2]); (try rw [dC]); rfl
                  subst hrr
                  clear HF
                  go_enter Try.func30, Try.ntmps30
                  go_wp2_with fail
                  refine (H1.out _).mono ?_; rintro e w' ⟨rfl, rfl⟩
                  go_wp2_with fail
                  refine (H4.out _ HGB.out).mono ?_; rintro e w1 ⟨rfl, hg⟩
                  have m0 := cell0_of ((hg.block _ (Array.getElem?_eq_some_iff.1 HB0.out).1 (by simp)).trans HB0.out)
                  obtain ⟨_, _, _, _, _, _, m6⟩ := box7 ((hg.block _ (Array.getElem?_eq_some_iff.1 HB1.out).1 (by simp)).trans HB1.out)
                  have HG := Lf.hide (Lf.gbt HGB.out hg)
                  clear hg
                  go_wp2_with fail
                  go_ret
                  exact ⟨rfl, HG.out⟩
            · have d2 : decide (xs.size ≤ 200) = false := decide_eq_false h200
              have h201 : ¬ (xs.size : Int) ≤ 200 := by omega
              have HGB := Lf.hide (Lf.gbt (Lf.gb (w := W) (.cells #[.int .i64 6, .slice a tl c] 24)) (Lf.gb (.cells #[.int .i64 6, .int .i64 xn, .int .i64 0, .string xs, .slice aa xl ac, .slice ta yl tc, .slice na cl nc] 28)))
              have HB0 := Lf.hide (res_new W (.cells #[.int .i64 6, .slice a tl c] 24) (.cells #[.int .i64 6, .int .i64 xn, .int .i64 0, .string xs, .slice aa xl ac, .slice ta yl tc, .slice na cl nc] 28))
              have HB1 := Lf.hide (new_two' W (.cells #[.int .i64 6, .slice a tl c] 24) (.cells #[.int .i64 6, .int .i64 xn, .int .i64 0, .string xs, .slice aa xl ac, .slice ta yl tc, .slice na cl nc] 28))
              have hrr : r = false := by rw [HF.out]; (try rw [show decide ((6 : Int) = 6) = true from decide_eq_true rfl]); (try rw [dS]); (try rw [d614]); (try rw [d2]); rfl
              subst hrr
              clear HF
              go_enter Try.func30, Try.ntmps30
              go_wp2_with fail
              refine (H1.out _).mono ?_; rintro e w' ⟨rfl, rfl⟩
              go_wp2_with fail
              go_ret
              exact ⟨rfl, HGB.out⟩
          · have d6 : decide (xk = 6) = false := decide_eq_false h6
            have q6 : (xk == 6) = false := by simpa using h6
            have HGB := Lf.hide (Lf.gbt (Lf.gb (w := W) (.cells #[.int .i64 xk, .slice a tl c] 24)) (Lf.gb (.cells #[.int .i64 xk, .int .i64 xn, .int .i64 0, .string xs, .slice aa xl ac, .slice ta yl tc, .slice na cl nc] 28)))
            have HB0 := Lf.hide (res_new W (.cells #[.int .i64 xk, .slice a tl c] 24) (.cells #[.int .i64 xk, .int .i64 xn, .int .i64 0, .string xs, .slice aa xl ac, .slice ta yl tc, .slice na cl nc] 28))
            have HB1 := Lf.hide (new_two' W (.cells #[.int .i64 xk, .slice a tl c] 24) (.cells #[.int .i64 xk, .int .i64 xn, .int .i64 0, .string xs, .slice aa xl ac, .slice ta yl tc, .slice na cl nc] 28))
            have hrr : r = false := by rw [HF.out]; (try rw [show decide ((xk : Int) = xk) = true from decide_eq_true rfl]); (try rw [dS]); (try rw [d6]); rfl
            subst hrr
            clear HF
            go_enter Try.func30, Try.ntmps30
            go_wp2_with fail
            refine (H1.out _).mono ?_; rintro e w' ⟨rfl, rfl⟩
            go_wp2_with fail
            go_ret
            exact ⟨rfl, HGB.out⟩
      · have dA : decide (xa = 0) = false := decide_eq_false ha
        have za : (xa == 0) = false := by simpa using ha
        cases b2 with
        | false =>
          have HGB := Lf.hide (Lf.gbt (Lf.gb (w := W) (.cells #[.int .i64 xk, .slice a tl c] 24)) (Lf.gb (.cells #[.int .i64 xk, .int .i64 xn, .int .i64 xa, .string xs, .slice aa xl ac, .slice ta yl tc, .slice na cl nc] 28)))
          have HB0 := Lf.hide (res_new W (.cells #[.int .i64 xk, .slice a tl c] 24) (.cells #[.int .i64 xk, .int .i64 xn, .int .i64 xa, .string xs, .slice aa xl ac, .slice ta yl tc, .slice na cl nc] 28))
          have HB1 := Lf.hide (new_two' W (.cells #[.int .i64 xk, .slice a tl c] 24) (.cells #[.int .i64 xk, .int .i64 xn, .int .i64 xa, .string xs, .slice aa xl ac, .slice ta yl tc, .slice na cl nc] 28))
          have hrr : r = false := by rw [HF.out]; (try rw [show decide ((xk : Int) = xk) = true from decide_eq_true rfl]); (try rw [dA]); rfl
          subst hrr
          clear HF
          go_enter Try.func30, Try.ntmps30
          go_wp2_with fail
          refine (H1.out _).mono ?_; rintro e w' ⟨rfl, rfl⟩
          go_wp2_with fail
          refine (H2.out _).mono ?_; rintro e w' ⟨rfl, rfl⟩
          go_wp2_with fail
          go_ret
          exact ⟨rfl, HGB.out⟩
        | true =>
          cases b3 with
          | false =>
            have HGB := Lf.hide (Lf.gbt (Lf.gb (w := W) (.cells #[.int .i64 xk, .slice a tl c] 24)) (Lf.gb (.cells #[.int .i64 xk, .int .i64 xn, .int .i64 xa, .string xs, .slice aa xl ac, .slice ta yl tc, .slice na cl nc] 28)))
            have HB0 := Lf.hide (res_new W (.cells #[.int .i64 xk, .slice a tl c] 24) (.cells #[.int .i64 xk, .int .i64 xn, .int .i64 xa, .string xs, .slice aa xl ac, .slice ta yl tc, .slice na cl nc] 28))
            have HB1 := Lf.hide (new_two' W (.cells #[.int .i64 xk, .slice a tl c] 24) (.cells #[.int .i64 xk, .int .i64 xn, .int .i64 xa, .string xs, .slice aa xl ac, .slice ta yl tc, .slice na cl nc] 28))
            have hrr : r = false := by rw [HF.out]; (try rw [show decide ((xk : Int) = xk) = true from decide_eq_true rfl]); (try rw [dA]); rfl
            subst hrr
            clear HF
            go_enter Try.func30, Try.ntmps30
            go_wp2_with fail
            refine (H1.out _).mono ?_; rintro e w' ⟨rfl, rfl⟩
            go_wp2_with fail
            refine (H2.out _).mono ?_; rintro e w' ⟨rfl, rfl⟩
            go_wp2_with fail
            refine (H3.out _).mono ?_; rintro e w' ⟨rfl, rfl⟩
            go_wp2_with fail
            go_ret
            exact ⟨rfl, HGB.out⟩
          | true =>
            by_cases hs0 : xs.size = 0
            · have dS : decide (xs.size = 0) = true := decide_eq_true hs0
              obtain rfl := HSZ.out hs0
              cases b4 with
              | false =>
                have HGB := Lf.hide (Lf.gbt (Lf.gb (w := W) (.cells #[.int .i64 xk, .slice a tl c] 24)) (Lf.gb (.cells #[.int .i64 xk, .int .i64 xn, .int .i64 xa, .string ⟨#[]⟩, .slice aa xl ac, .slice ta yl tc, .slice na cl nc] 28)))
                have HB0 := Lf.hide (res_new W (.cells #[.int .i64 xk, .slice a tl c] 24) (.cells #[.int .i64 xk, .int .i64 xn, .int .i64 xa, .string ⟨#[]⟩, .slice aa xl ac, .slice ta yl tc, .slice na cl nc] 28))
                have HB1 := Lf.hide (new_two' W (.cells #[.int .i64 xk, .slice a tl c] 24) (.cells #[.int .i64 xk, .int .i64 xn, .int .i64 xa, .string ⟨#[]⟩, .slice aa xl ac, .slice ta yl tc, .slice na cl nc] 28))
                have hrr : r = false := by rw [HF.out]; (try rw [show decide ((xk : Int) = xk) = true from decide_eq_true rfl]); (try rw [dA]); (try rw [dS]); rfl
                subst hrr
                clear HF
                go_enter Try.func30, Try.ntmps30
                go_wp2_with fail
                refine (H1.out _).mono ?_; rintro e w' ⟨rfl, rfl⟩
                go_wp2_with fail
                refine (H2.out _).mono ?_; rintro e w' ⟨rfl, rfl⟩
                go_wp2_with fail
                refine (H3.out _).mono ?_; rintro e w' ⟨rfl, rfl⟩
                go_wp2_with fail
                refine (H4.out _ HGB.out).mono ?_; rintro e w1 ⟨rfl, hg⟩
                have m0 := cell0_of ((hg.block _ (Array.getElem?_eq_some_iff.1 HB0.out).1 (by simp)).trans HB0.out)
                obtain ⟨_, _, _, _, _, _, m6⟩ := box7 ((hg.block _ (Array.getElem?_eq_some_iff.1 HB1.out).1 (by simp)).trans HB1.out)
                have HG := Lf.hide (Lf.gbt HGB.out hg)
                clear hg
                go_wp2_with fail
                go_ret
                exact ⟨rfl, HG.out⟩
              | true =>
                by_cases hcl : cl = 0
                · subst hcl
                  have HGB := Lf.hide (Lf.gbt (Lf.gb (w := W) (.cells #[.int .i64 xk, .slice a tl c] 24)) (Lf.gb (.cells #[.int .i64 xk, .int .i64 xn, .int .i64 xa, .string ⟨#[]⟩, .slice aa xl ac, .slice ta yl tc, .slice na 0 nc] 28)))
                  have HB0 := Lf.hide (res_new W (.cells #[.int .i64 xk, .slice a tl c] 24) (.cells #[.int .i64 xk, .int .i64 xn, .int .i64 xa, .string ⟨#[]⟩, .slice aa xl ac, .slice ta yl tc, .slice na 0 nc] 28))
                  have HB1 := Lf.hide (new_two' W (.cells #[.int .i64 xk, .slice a tl c] 24) (.cells #[.int .i64 xk, .int .i64 xn, .int .i64 xa, .string ⟨#[]⟩, .slice aa xl ac, .slice ta yl tc, .slice na 0 nc] 28))
                  have hrr : r = true := by rw [HF.out]; (try rw [show decide ((xk : Int) = xk) = true from decide_eq_true rfl]); (try rw [dA]); (try rw [dS]); rfl
                  subst hrr
                  clear HF
                  go_enter Try.func30, Try.ntmps30
                  go_wp2_with fail
                  refine (H1.out _).mono ?_; rintro e w' ⟨rfl, rfl⟩
                  go_wp2_with fail
                  refine (H2.out _).mono ?_; rintro e w' ⟨rfl, rfl⟩
                  go_wp2_with fail
                  refine (H3.out _).mono ?_; rintro e w' ⟨rfl, rfl⟩
                  go_wp2_with fail
                  refine (H4.out _ HGB.out).mono ?_; rintro e w1 ⟨rfl, hg⟩
                  have m0 := cell0_of ((hg.block _ (Array.getElem?_eq_some_iff.1 HB0.out).1 (by simp)).trans HB0.out)
                  obtain ⟨_, _, _, _, _, _, m6⟩ := box7 ((hg.block _ (Array.getElem?_eq_some_iff.1 HB1.out).1 (by simp)).trans HB1.out)
                  have HG := Lf.hide (Lf.gbt HGB.out hg)
                  clear hg
                  go_wp2_with fail
                  go_ret
                  exact ⟨rfl, HG.out⟩
                · have dC : decide (cl = 0) = false := decide_eq_false hcl
                  have q1 : ¬ (cl : Int) = 0 := by omega
                  have q2 : ((cl : Int) == 0) = false := by rw [beq_eq_false_iff_ne]; exact q1
                  by_cases h14 : xk = 14
                  · subst h14
                    have HGB := Lf.hide (Lf.gbt (Lf.gb (w := W) (.cells #[.int .i64 14, .slice a tl c] 24)) (Lf.gb (.cells #[.int .i64 14, .int .i64 xn, .int .i64 xa, .string ⟨#[]⟩, .slice aa xl ac, .slice ta yl tc, .slice na cl nc] 28)))
                    have HB0 := Lf.hide (res_new W (.cells #[.int .i64 14, .slice a tl c] 24) (.cells #[.int .i64 14, .int .i64 xn, .int .i64 xa, .string ⟨#[]⟩, .slice aa xl ac, .slice ta yl tc, .slice na cl nc] 28))
                    have HB1 := Lf.hide (new_two' W (.cells #[.int .i64 14, .slice a tl c] 24) (.cells #[.int .i64 14, .int .i64 xn, .int .i64 xa, .string ⟨#[]⟩, .slice aa xl ac, .slice ta yl tc, .slice na cl nc] 28))
                    have hrr : r = true := by rw [HF.out]; (try rw [show decide ((14 : Int) = 14) = true from decide_eq_true rfl]); (try rw [dA]); (try rw [dS]); (try rw [dC]); rfl
                    subst hrr
                    clear HF
                    go_enter Try.func30, Try.ntmps30
                    go_wp2_with fail
                    refine (H1.out _).mono ?_; rintro e w' ⟨rfl, rfl⟩
                    go_wp2_with fail
                    refine (H2.out _).mono ?_; rintro e w' ⟨rfl, rfl⟩
                    go_wp2_with fail
                    refine (H3.out _).mono ?_; rintro e w' ⟨rfl, rfl⟩
                    go_wp2_with fail
                    refine (H4.out _ HGB.out).mono ?_; rintro e w1 ⟨rfl, hg⟩
                    have m0 := cell0_of ((hg.block _ (Array.getElem?_eq_some_iff.1 HB0.out).1 (by simp)).trans HB0.out)
                    obtain ⟨_, _, _, _, _, _, m6⟩ := box7 ((hg.block _ (Array.getElem?_eq_some_iff.1 HB1.out).1 (by simp)).trans HB1.out)
                    have HG := Lf.hide (Lf.gbt HGB.out hg)
                    clear hg
                    go_wp2_with fail
                    go_ret
                    exact ⟨rfl, HG.out⟩
                  · have d14 : decide (xk = 14) = false := decide_eq_false h14
                    have q3 : (xk == 14) = false := by simpa using h14
                    have HGB := Lf.hide (Lf.gbt (Lf.gb (w := W) (.cells #[.int .i64 xk, .slice a tl c] 24)) (Lf.gb (.cells #[.int .i64 xk, .int .i64 xn, .int .i64 xa, .string ⟨#[]⟩, .slice aa xl ac, .slice ta yl tc, .slice na cl nc] 28)))
                    have HB0 := Lf.hide (res_new W (.cells #[.int .i64 xk, .slice a tl c] 24) (.cells #[.int .i64 xk, .int .i64 xn, .int .i64 xa, .string ⟨#[]⟩, .slice aa xl ac, .slice ta yl tc, .slice na cl nc] 28))
                    have HB1 := Lf.hide (new_two' W (.cells #[.int .i64 xk, .slice a tl c] 24) (.cells #[.int .i64 xk, .int .i64 xn, .int .i64 xa, .string ⟨#[]⟩, .slice aa xl ac, .slice ta yl tc, .slice na cl nc] 28))
                    have hrr : r = false := by rw [HF.out]; (try rw [show decide ((xk : Int) = xk) = true from decide_eq_true rfl]); (try rw [dA]); (try rw [dS]); (try rw [dC]); (try rw [d14]); rfl
                    subst hrr
                    clear HF
                    go_enter Try.func30, Try.ntmps30
                    go_wp2_with fail
                    refine (H1.out _).mono ?_; rintro e w' ⟨rfl, rfl⟩
                    go_wp2_with fail
                    refine (H2.out _).mono ?_; rintro e w' ⟨rfl, rfl⟩
                    go_wp2_with fail
                    refine (H3.out _).mono ?_; rintro e w' ⟨rfl, rfl⟩
                    go_wp2_with fail
                    refine (H4.out _ HGB.out).mono ?_; rintro e w1 ⟨rfl, hg⟩
                    have m0 := cell0_of ((hg.block _ (Array.getElem?_eq_some_iff.1 HB0.out).1 (by simp)).trans HB0.out)
                    obtain ⟨_, _, _, _, _, _, m6⟩ := box7 ((hg.block _ (Array.getElem?_eq_some_iff.1 HB1.out).1 (by simp)).trans HB1.out)
                    have HG := Lf.hide (Lf.gbt HGB.out hg)
                    clear hg
                    go_wp2_with fail
                    go_ret
                    exact ⟨rfl, HG.out⟩
            · have dS : decide (xs.size = 0) = false := decide_eq_false hs0
              have s1 : xs.toList.isEmpty = false := by
                cases hq : xs.toList with
                | nil => exact absurd (HSL.out.1 hq) hs0
                | cons _ _ => rfl
              have s2 : ¬ xs.toList = [] := fun h => hs0 (HSL.out.1 h)
              by_cases h6 : xk = 6
              · subst h6
                have d614 : decide ((6 : Int) = 14) = false := rfl
                by_cases h200 : xs.size ≤ 200
                · have d2 : decide (xs.size ≤ 200) = true := decide_eq_true h200
                  have h201 : (xs.size : Int) ≤ 200 := by omega
                  cases b4 with
                  | false =>
                    have HGB := Lf.hide (Lf.gbt (Lf.gb (w := W) (.cells #[.int .i64 6, .slice a tl c] 24)) (Lf.gb (.cells #[.int .i64 6, .int .i64 xn, .int .i64 xa, .string xs, .slice aa xl ac, .slice ta yl tc, .slice na cl nc] 28)))
                    have HB0 := Lf.hide (res_new W (.cells #[.int .i64 6, .slice a tl c] 24) (.cells #[.int .i64 6, .int .i64 xn, .int .i64 xa, .string xs, .slice aa xl ac, .slice ta yl tc, .slice na cl nc] 28))
                    have HB1 := Lf.hide (new_two' W (.cells #[.int .i64 6, .slice a tl c] 24) (.cells #[.int .i64 6, .int .i64 xn, .int .i64 xa, .string xs, .slice aa xl ac, .slice ta yl tc, .slice na cl nc] 28))
                    have hrr : r = false := by rw [HF.out]; (try rw [show decide ((6 : Int) = 6) = true from decide_eq_true rfl]); (try rw [dA]); (try rw [dS]); (try rw [d614]); (try rw [d2]); rfl
                    subst hrr
                    clear HF
                    go_enter Try.func30, Try.ntmps30
                    go_wp2_with fail
                    refine (H1.out _).mono ?_; rintro e w' ⟨rfl, rfl⟩
                    go_wp2_with fail
                    refine (H2.out _).mono ?_; rintro e w' ⟨rfl, rfl⟩
                    go_wp2_with fail
                    refine (H3.out _).mono ?_; rintro e w' ⟨rfl, rfl⟩
                    go_wp2_with fail
                    refine (H4.out _ HGB.out).mono ?_; rintro e w1 ⟨rfl, hg⟩
                    have m0 := cell0_of ((hg.block _ (Array.getElem?_eq_some_iff.1 HB0.out).1 (by simp)).trans HB0.out)
                    obtain ⟨_, _, _, _, _, _, m6⟩ := box7 ((hg.block _ (Array.getElem?_eq_some_iff.1 HB1.out).1 (by simp)).trans HB1.out)
                    have HG := Lf.hide (Lf.gbt HGB.out hg)
                    clear hg
                    go_wp2_with fail
                    go_ret
                    exact ⟨rfl, HG.out⟩
                  | true =>
                    by_cases hcl : cl = 0
                    · subst hcl
                      have HGB := Lf.hide (Lf.gbt (Lf.gb (w := W) (.cells #[.int .i64 6, .slice a tl c] 24)) (Lf.gb (.cells #[.int .i64 6, .int .i64 xn, .int .i64 xa, .string xs, .slice aa xl ac, .slice ta yl tc, .slice na 0 nc] 28)))
                      have HB0 := Lf.hide (res_new W (.cells #[.int .i64 6, .slice a tl c] 24) (.cells #[.int .i64 6, .int .i64 xn, .int .i64 xa, .string xs, .slice aa xl ac, .slice ta yl tc, .slice na 0 nc] 28))
                      have HB1 := Lf.hide (new_two' W (.cells #[.int .i64 6, .slice a tl c] 24) (.cells #[.int .i64 6, .int .i64 xn, .int .i64 xa, .string xs, .slice aa xl ac, .slice ta yl tc, .slice na 0 nc] 28))
                      have hrr : r = true := by rw [HF.out]; (try rw [show decide ((6 : Int) = 6) = true from decide_eq_true rfl]); (try rw [dA]); (try rw [dS]); (try rw [d614]); (try rw [d2]); rfl
                      subst hrr
                      clear HF
                      go_enter Try.func30, Try.ntmps30
                      go_wp2_with fail
                      refine (H1.out _).mono ?_; rintro e w' ⟨rfl, rfl⟩
                      go_wp2_with fail
                      refine (H2.out _).mono ?_; rintro e w' ⟨rfl, rfl⟩
                      go_wp2_with fail
                      refine (H3.out _).mono ?_; rintro e w' ⟨rfl, rfl⟩
                      go_wp2_with fail
                      refine (H4.out _ HGB.out).mono ?_; rintro e w1 ⟨rfl, hg⟩
                      have m0 := cell0_of ((hg.block _ (Array.getElem?_eq_some_iff.1 HB0.out).1 (by simp)).trans HB0.out)
                      obtain ⟨_, _, _, _, _, _, m6⟩ := box7 ((hg.block _ (Array.getElem?_eq_some_iff.1 HB1.out).1 (by simp)).trans HB1.out)
                      have HG := Lf.hide (Lf.gbt HGB.out hg)
                      clear hg
                      go_wp2_with fail
                      go_ret
                      exact ⟨rfl, HG.out⟩
                    · have dC : decide (cl = 0) = false := decide_eq_false hcl
                      have q1 : ¬ (cl : Int) = 0 := by omega
                      have q2 : ((cl : Int) == 0) = false := by rw [beq_eq_false_iff_ne]; exact q1
                      have HGB := Lf.hide (Lf.gbt (Lf.gb (w := W) (.cells #[.int .i64 6, .slice a tl c] 24)) (Lf.gb (.cells #[.int .i64 6, .int .i64 xn, .int .i64 xa, .string xs, .slice aa xl ac, .slice ta yl tc, .slice na cl nc] 28)))
                      have HB0 := Lf.hide (res_new W (.cells #[.int .i64 6, .slice a tl c] 24) (.cells #[.int .i64 6, .int .i64 xn, .int .i64 xa, .string xs, .slice aa xl ac, .slice ta yl tc, .slice na cl nc] 28))
                      have HB1 := Lf.hide (new_two' W (.cells #[.int .i64 6, .slice a tl c] 24) (.cells #[.int .i64 6, .int .i64 xn, .int .i64 xa, .string xs, .slice aa xl ac, .slice ta yl tc, .slice na cl nc] 28))
                      have hrr : r = false := by rw [HF.out]; (try rw [show decide ((6 : Int) = 6) = true from decide_eq_true rfl]); (try rw [dA]); (try rw [dS]); (try rw [d614]); (try rw [d2]); (try rw [dC]); rfl
                      subst hrr
                      clear HF
                      go_enter Try.func30, Try.ntmps30
                      go_wp2_with fail
                      refine (H1.out _).mono ?_; rintro e w' ⟨rfl, rfl⟩
                      go_wp2_with fail
                      refine (H2.out _).mono ?_; rintro e w' ⟨rfl, rfl⟩
                      go_wp2_with fail
                      refine (H3.out _).mono ?_; rintro e w' ⟨rfl, rfl⟩
                      go_wp2_with fail
                      refine (H4.out _ HGB.out).mono ?_; rintro e w1 ⟨rfl, hg⟩
                      have m0 := cell0_of ((hg.block _ (Array.getElem?_eq_some_iff.1 HB0.out).1 (by simp)).trans HB0.out)
                      obtain ⟨_, _, _, _, _, _, m6⟩ := box7 ((hg.block _ (Array.getElem?_eq_some_iff.1 HB1.out).1 (by simp)).trans HB1.out)
                      have HG := Lf.hide (Lf.gbt HGB.out hg)
                      clear hg
                      go_wp2_with fail
                      go_ret
                      exact ⟨rfl, HG.out⟩
                · have d2 : decide (xs.size ≤ 200) = false := decide_eq_false h200
                  have h201 : ¬ (xs.size : Int) ≤ 200 := by omega
                  have HGB := Lf.hide (Lf.gbt (Lf.gb (w := W) (.cells #[.int .i64 6, .slice a tl c] 24)) (Lf.gb (.cells #[.int .i64 6, .int .i64 xn, .int .i64 xa, .string xs, .slice aa xl ac, .slice ta yl tc, .slice na cl nc] 28)))
                  have HB0 := Lf.hide (res_new W (.cells #[.int .i64 6, .slice a tl c] 24) (.cells #[.int .i64 6, .int .i64 xn, .int .i64 xa, .string xs, .slice aa xl ac, .slice ta yl tc, .slice na cl nc] 28))
                  have HB1 := Lf.hide (new_two' W (.cells #[.int .i64 6, .slice a tl c] 24) (.cells #[.int .i64 6, .int .i64 xn, .int .i64 xa, .string xs, .slice aa xl ac, .slice ta yl tc, .slice na cl nc] 28))
                  have hrr : r = false := by rw [HF.out]; (try rw [show decide ((6 : Int) = 6) = true from decide_eq_true rfl]); (try rw [dA]); (try rw [dS]); (try rw [d614]); (try rw [d2]); rfl
                  subst hrr
                  clear HF
                  go_enter Try.func30, Try.ntmps30
                  go_wp2_with fail
                  refine (H1.out _).mono ?_; rintro e w' ⟨rfl, rfl⟩
                  go_wp2_with fail
                  refine (H2.out _).mono ?_; rintro e w' ⟨rfl, rfl⟩
                  go_wp2_with fail
                  refine (H3.out _).mono ?_; rintro e w' ⟨rfl, rfl⟩
                  go_wp2_with fail
                  go_ret
                  exact ⟨rfl, HGB.out⟩
              · have d6 : decide (xk = 6) = false := decide_eq_false h6
                have q6 : (xk == 6) = false := by simpa using h6
                have HGB := Lf.hide (Lf.gbt (Lf.gb (w := W) (.cells #[.int .i64 xk, .slice a tl c] 24)) (Lf.gb (.cells #[.int .i64 xk, .int .i64 xn, .int .i64 xa, .string xs, .slice aa xl ac, .slice ta yl tc, .slice na cl nc] 28)))
                have HB0 := Lf.hide (res_new W (.cells #[.int .i64 xk, .slice a tl c] 24) (.cells #[.int .i64 xk, .int .i64 xn, .int .i64 xa, .string xs, .slice aa xl ac, .slice ta yl tc, .slice na cl nc] 28))
                have HB1 := Lf.hide (new_two' W (.cells #[.int .i64 xk, .slice a tl c] 24) (.cells #[.int .i64 xk, .int .i64 xn, .int .i64 xa, .string xs, .slice aa xl ac, .slice ta yl tc, .slice na cl nc] 28))
                have hrr : r = false := by rw [HF.out]; (try rw [show decide ((xk : Int) = xk) = true from decide_eq_true rfl]); (try rw [dA]); (try rw [dS]); (try rw [d6]); rfl
                subst hrr
                clear HF
                go_enter Try.func30, Try.ntmps30
                go_wp2_with fail
                refine (H1.out _).mono ?_; rintro e w' ⟨rfl, rfl⟩
                go_wp2_with fail
                refine (H2.out _).mono ?_; rintro e w' ⟨rfl, rfl⟩
                go_wp2_with fail
                refine (H3.out _).mono ?_; rintro e w' ⟨rfl, rfl⟩
                go_wp2_with fail
                go_ret
                exact ⟨rfl, HGB.out⟩
  · have k1 : (xk == tt) = false := by simpa using hk
    have hrr : r = false := by rw [HF.out]; simp [hk]
    subst hrr
    clear HF H1 H2 H3 H4
    go_enter Try.func30, Try.ntmps30
    go_wp2_with fail
    go_ret
    exact ⟨rfl, Lf.gbt (Lf.gb _) (Lf.gb _)⟩

end Go.Proofs.Ytmmgihaoahhkjaa
