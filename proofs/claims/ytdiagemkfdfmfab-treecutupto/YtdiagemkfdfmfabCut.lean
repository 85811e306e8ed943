/- For every node whose reading holds at most 1048576 values and letters and every number, TreeCut returns true and leaves its arguments as they were: a beginning of a good tree's bytes, that is not all of them, is ErrForm. Condition: that bound on the reading. -/
import Derived.Test.YtdiagemkfdfmfabRows
import Derived.Test.YtdiagemkfdfmfabOpen
import Derived.JoinedCond
namespace Go.Proofs.Ytdiagemkfdfmfab.treeCut
open Go.ChangeShapes Go.WideShapes Go.ChangeAt Go.RowKit
set_option linter.unusedVariables false

theorem lies_on {w W : World} {t : Tr} {v : Value} (h : Lies (fun _ => True) w t v) (hg : w.grownBy W none) : Lies (fun _ => True) W t v := h.same (same_none hg)
theorem lies_lt {W : World} {t : Tr} {v : Value} (h : Lies (fun _ => True) W t v) : Lies (· < W.heap.size) W t v := h.okMono (fun b hb _ => hb)

theorem pick_any (k n : Int) (hk : I64 k) (hn : 0 < n) (hn2 : n ≤ 1000000) (w : World) :
    Calls Try.prog 11 #[.int .i64 k, .int .i64 n] w fun e w' => (∃ r : Nat, e = .returned (.int .i64 r) ∧ (r : Int) < n) ∧ w' = w := by
  obtain ⟨k1, k2⟩ := hk
  have hb1 : -n < k.tmod n := by have := Int.tmod_nonneg (a := -k) n; have h3 := Int.lt_tmod_of_pos k hn; omega
  have hb2 : k.tmod n < n := Int.tmod_lt_of_pos k hn
  have hne : ¬ n = 0 := by omega
  by_cases hs : k.tmod n < 0
  · go_enter Try.func11, Try.ntmps11
    go_wp2_with fail
    go_ret
    exact ⟨⟨(k.tmod n + n).toNat, by rw [Int.toNat_of_nonneg (by omega)]; rfl, by rw [Int.toNat_of_nonneg (by omega)]; omega⟩, rfl⟩
  · go_enter Try.func11, Try.ntmps11
    go_wp2_with fail
    go_ret
    exact ⟨⟨(k.tmod n).toNat, by rw [Int.toNat_of_nonneg (by omega)]; rfl, by rw [Int.toNat_of_nonneg (by omega)]; omega⟩, rfl⟩

set_option maxHeartbeats 1000000 in
theorem walk_no {w : World} {t : Tr} {v : Value} (at_ : Int) (hL0 : Lies (· < w.heap.size) w t v) (hz : t.size ≤ 1048576) (hgood : goodF t ≠ 0) :
    Calls Try.prog 5 #[v, .int .i64 at_] w fun e w' => e = .returned (.bool true) ∧ w.grownBy w' none := by
  have hL : Lies (fun _ => True) w t v := hL0.okMono (fun _ _ _ => trivial)
  obtain ⟨k, n, p, st, a, q, c, rfl⟩ := hL.nodeV
  have HE : Hid (∀ W : World, w.grownBy W none → Calls Try.prog 6 #[nodeV k n p st a q c] W fun e w' => e = .returned (.tuple #[.string ⟨#[]⟩, .int .i64 (goodF t)]) ∧ W.grownBy w' none) := fun W hW => encode_no (lies_lt (lies_on hL hW)) (by omega) hgood
  clear hL0 hL
  generalize goodF t = x at *
  unfold nodeV at HE ⊢
  go_enter Try.func5, Try.ntmps5
  go_wp2_with fail
  refine (HE.out _ (Lf.gb _)).mono ?_; rintro e w1 ⟨rfl, hg1⟩
  have HG1 := Lf.hide (Lf.gbt (Lf.gb _) hg1)
  clear hg1
  go_wp2_with fail
  refine (grows_any _).mono ?_; rintro e w3 ⟨rfl, hg3⟩
  have HG3 := Lf.hide (Lf.gbt HG1.out hg3)
  clear hg3
  go_wp2_with fail
  go_ret
  exact Lf.retb (by simpa using hgood) HG3.out

set_option maxHeartbeats 1000000 in
theorem walk_yes {w : World} {t : Tr} {v : Value} (at_ : Int) (hat : I64 at_) (hL0 : Lies (· < w.heap.size) w t v) (hgood : goodF t = 0) :
    Calls Try.prog 5 #[v, .int .i64 at_] w fun e w' => e = .returned (.bool true) ∧ w.grownBy w' none := by
  have hL : Lies (fun _ => True) w t v := hL0.okMono (fun _ _ _ => trivial)
  obtain ⟨k, n, p, st, a, q, c, rfl⟩ := hL.nodeV
  have hlen : (encTr t).length ≤ 64500 := by
    obtain ⟨h1, h2⟩ := goodF_zero hgood
    have := encTr_bound 1 t h1 (by omega); omega
  have hpos := encTr_pos t
  have HE : Hid (∀ W : World, w.grownBy W none → Calls Try.prog 6 #[nodeV k n p st a q c] W fun e w' => e = .returned (.tuple #[.string (bs (encTr t)), .int .i64 0]) ∧ W.grownBy w' none) := fun W hW => encode_yes (lies_lt (lies_on hL hW)) hgood
  have HX : Hid (∀ (r : Nat) (W : World), r < (encTr t).length → Calls Try.prog 9 #[.string ((bs (encTr t)).extract 0 r)] W fun e w' => e = .returned (.tuple #[nodeV 0 0 0 ⟨#[]⟩ none 0 0, .int .i64 1]) ∧ W.grownBy w' none) := by
    intro r W hr
    rw [bs_take _ _ (by omega)]
    refine (decode_no (decode_cut hgood (a := (encTr t).take r) (b := (encTr t).drop r) (List.take_append_drop r _).symm (by simp; omega)) (by unfold maxLen; rw [List.length_take]; omega) W).mono ?_
    rintro e w' ⟨h1, _, h3⟩
    exact ⟨h1, h3⟩
  have HP := Lf.hide (pick_any at_ (encTr t).length hat (by omega) (by omega))
  have hsz := bs_size (encTr t)
  have hne : (bs (encTr t)).toList.isEmpty = false := by
    have : (bs (encTr t)).toList = encTr t := by simp [bs]
    rw [this]
    cases h : encTr t with
    | nil => rw [h] at hpos; simp at hpos
    | cons x y => rfl
  clear hL0 hL hgood hat
  generalize (encTr t).length = m at *
  generalize bs (encTr t) = s at *
  unfold nodeV at HE ⊢
  go_enter Try.func5, Try.ntmps5
  go_wp2_with fail
  refine (HE.out _ (Lf.gb _)).mono ?_; rintro e w1 ⟨rfl, hg1⟩
  have HG1 := Lf.hide (Lf.gbt (Lf.gb _) hg1)
  clear hg1
  go_wp2_with fail
  refine (grows_any _).mono ?_; rintro e w2 ⟨rfl, hg2⟩
  have HG2 := Lf.hide (Lf.gbt HG1.out hg2)
  clear hg2
  go_wp2_with fail
  refine (HP.out _).mono ?_; rintro e w3 ⟨⟨r, rfl, hr⟩, rfl⟩
  have hr2 : r < m := by omega
  go_wp2_with fail
  refine (HX.out r _ hr2).mono ?_; rintro e w4 ⟨rfl, hg4⟩
  have HG4 := Lf.hide (Lf.gbt HG2.out hg4)
  clear hg4
  unfold nodeV
  go_wp2_with fail
  go_ret
  exact ⟨rfl, Lf.gbt HG4.out (Lf.gb _)⟩

theorem walk {w : World} {t : Tr} {v : Value} (at_ : Int) (hat : I64 at_) (hL : Lies (· < w.heap.size) w t v) (hz : t.size ≤ 1048576) :
    Calls Try.prog 5 #[v, .int .i64 at_] w fun e w' => e = .returned (.bool true) ∧ w.grownBy w' none := by
  by_cases hg : goodF t = 0
  · exact walk_yes at_ hat hL hg
  · exact walk_no at_ hL hz hg

theorem own : ownKnob Try.prog.godebug = none := by kernel_rfl
theorem laidOut : laidOutB Try.prog = true := by kernel_rfl

theorem below_of {w w' : World} (h : w.grownBy w' none) : Below w.heap.size w w' := ⟨h.os, h.tape, h.output, h.size, fun k hk => h.block k hk (by simp)⟩

theorem contract (H : Type) (enc : TypeId × Value → H) (W : World) (base : Nat) (args : Array Value) (ds gs : List (DataW H)) (before : List MemPlace)
    (hval : ∀ (j : Nat) t v, Try.f5.params[j]? = some t → args[j]? = some v → Value.okWide Try.prog W .any base t v)
    (hW : DataW.Whole enc Try.prog Try.f5.params.toList Rows.treeCutSpec.vars false W args.toList ds gs before) (hk : Rows.uptoSmall H (ds ++ gs) = true) :
    Calls Try.prog 5 args W fun e W' => ∃ v, e = .returned v ∧ Rows.treeCutSpec.post enc Try.prog Try.f5 false true false false W args v W' := by
  have hW' := hW
  obtain ⟨p, q, hA0, hV, rfl, hfz, hnd⟩ := hW
  have hA : DataW.TrodAll enc Try.prog W 0 (fun _ => true) true Try.f5.params.toList args.toList ds p := hA0
  rw [Try.params5] at hA hval
  obtain ⟨v0, vs0, d0, ds0, p0, q0, hargs, rfl, rfl, h0, r0⟩ := trodAll_cons hA
  obtain ⟨v1, vs1, d1, ds1, p1, q1, hargs1, rfl, rfl, h1, r1⟩ := trodAll_cons r0
  obtain ⟨rfl, rfl, rfl⟩ := trodAll_nil r1
  obtain rfl : args = #[v0, v1] := by cases args; simp_all
  obtain ⟨rfl, rfl⟩ := trodVars_none hV
  have hb := of_decide_eq_true hk
  simp only [List.append_nil, Rows.uptoBulkAll] at hb
  obtain ⟨t, hL, hs⟩ := open_arg (hval 0 24 v0 rfl rfl) h0
  obtain ⟨x, rfl, rfl, rfl, wx⟩ := open_int Try.underlying3 (hval 1 3 v1 rfl rfl) h1
  clear hA0
  simp only [List.append_nil] at hW'
  have hlt : ∀ y ∈ p0, y.block < W.heap.size := fun y hy => by simpa using hW'.lt y (by simpa using hy)
  refine (walk x (i64_of wx) hL (by omega)).mono fun e W' ⟨he, hg⟩ => ?_
  subst he
  have hB := below_of hg
  exact ⟨_, rfl, _, _, _, [], p0 ++ [], [], hW', trodAll_cons_mk (shut_bool Try.underlying4 _) trodAll_mk0, trodAll_cons_mk (Below.trod laidOut (by kernel_rfl) (of_decide_eq_true (by kernel_rfl)) h0 hB hlt) (trodAll_cons_mk (shut_int Try.underlying3 wx) trodAll_mk0), rfl, hB.frame _, fun h => by cases h⟩

set_option maxRecDepth 100000 in
theorem lifted (os : Os) (started : os.Started) (H : Type) (enc : TypeId × Value → H) (F : Stop.Interp) :
    ReturnsInHanded {} Try.checked os 5 .any ((Rows.OpenSpec.upto Rows.treeCutSpec).pre6 enc Try.prog Try.f5 Rows.treeCutUptoRow.domain false) (((Rows.OpenSpec.upto Rows.treeCutSpec).at F).post enc Try.prog Try.f5 false true false false) := by
  refine returnsInHanded_of_cond (C := Try.checked) (s := Rows.OpenSpec.upto Rows.treeCutSpec) (k := Rows.uptoSmall) rfl own started (by kernel_rfl) Try.func5
    (OpenSpec.witness (enc := enc) (C := Try.checked) (s := Rows.OpenSpec.upto Rows.treeCutSpec) (k := Rows.uptoSmall) rfl false ⟨#[], #[.agg #[.int .i64 0, .int .i64 0, .int .i64 0, .string .empty, .slice none 0 0], .int .i64 0], []⟩ 8 (by kernel_rfl) (by kernel_rfl) (by kernel_rfl)
      (x := ([.agg [.lit (.int .i64 0), .lit (.int .i64 0), .lit (.int .i64 0), .lit (.string []), .nil], .lit (.int .i64 0)], [], [])) (by kernel_rfl) rfl (by kernel_rfl)) ?_
  intro W base args ds gs before hval hW _ hk _
  exact contract H enc W base args ds gs before hval hW hk

theorem over : Rows.treeCutUptoRow.holds Try.pinned (Rows.OpenSpec.upto Rows.treeCutSpec) :=
  OpenClaim.holds_of_cond 5 Try.f5 rfl rfl rfl rfl rfl rfl rfl ⟨rfl, rfl, rfl, rfl, rfl⟩ rfl rfl rfl rfl rfl (by kernel_rfl) Try.func5 (by kernel_rfl)
    (of_decide_eq_true (by kernel_rfl)) (by unfold Func.isWrapper; first | (rw [if_pos (by decide +kernel)]; kernel_rfl) | (rw [if_neg (by decide +kernel)]; exact ⟨rfl, rfl⟩))
    (fun os started H enc _ F => lifted os started H enc F)

end Go.Proofs.Ytdiagemkfdfmfab.treeCut

namespace Go.Proofs.Ytdiagemkfdfmfab
theorem treeCut_holds : Rows.TreeCutUptoSaid := treeCut.over
#print axioms treeCut_holds
end Go.Proofs.Ytdiagemkfdfmfab
