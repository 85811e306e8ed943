/- For every node whose reading holds at most 1048576 values and letters, TreeBack returns true and leaves its argument as it was: a good tree's bytes are read as it was, with a byte behind them they are not read, and what is not good has no bytes and Good's own error. Condition: that bound on the reading. -/
import Derived.Test.YtdiagemkfdfmfabRows
import Derived.Test.YtdiagemkfdfmfabOpen
import Derived.JoinedCond
namespace Go.Proofs.Ytdiagemkfdfmfab.treeBack
open Go.ChangeShapes Go.WideShapes Go.ChangeAt Go.RowKit
set_option linter.unusedVariables false

theorem box_none {w w' : World} {g : Nat} {o : Obj} (h : w.heap[g]? = some o) (hg : w.grownBy w' none) : w'.heap[g]? = some o := by
  rw [hg.block g (Array.getElem?_eq_some_iff.1 h).1 (by simp)]; exact h

/-- a tree lies in whatever world has grown out of the first -/
theorem lies_on {w W : World} {t : Tr} {v : Value} (h : Lies (fun _ => True) w t v) (hg : w.grownBy W none) : Lies (fun _ => True) W t v := h.same (same_none hg)
theorem lies_lt {W : World} {t : Tr} {v : Value} (h : Lies (fun _ => True) W t v) : Lies (· < W.heap.size) W t v := h.okMono (fun b hb _ => hb)

set_option maxHeartbeats 1000000 in
theorem walk_no {w : World} {t : Tr} {v : Value} (hL0 : Lies (· < w.heap.size) w t v) (hz : t.size ≤ 1048576) (hgood : goodF t ≠ 0) :
    Calls Try.prog 3 #[v] w fun e w' => e = .returned (.bool true) ∧ w.grownBy w' none := by
  have hL : Lies (fun _ => True) w t v := hL0.okMono (fun _ _ _ => trivial)
  obtain ⟨k, n, p, st, a, q, c, rfl⟩ := hL.nodeV
  have HL := Lf.hide hL
  have HE : Hid (∀ W : World, w.grownBy W none → Calls Try.prog 6 #[nodeV k n p st a q c] W fun e w' => e = .returned (.tuple #[.string ⟨#[]⟩, .int .i64 (goodF t)]) ∧ W.grownBy w' none) := fun W hW => encode_no (lies_lt (lies_on hL hW)) (by omega) hgood
  have HGD : Hid (∀ W : World, w.grownBy W none → Calls Try.prog 8 #[nodeV k n p st a q c] W fun e w' => e = .returned (.int .i64 (goodF t)) ∧ W.grownBy w' none) := fun W hW => good_any (lies_lt (lies_on hL hW)) (by omega)
  clear hL0 hL
  generalize goodF t = x at *
  unfold nodeV at HE HGD ⊢
  go_enter Try.func3, Try.ntmps3
  go_wp2_with fail
  refine (HE.out _ (Lf.gb _)).mono ?_; rintro e w1 ⟨rfl, hg1⟩
  have HB1 := Lf.hide (box_none (heap_alloc_new _ _) hg1)
  obtain ⟨x0, x1, x2, x3, x4⟩ := box5 HB1.out
  have HG1 := Lf.hide (Lf.gbt (Lf.gb _) hg1)
  clear hg1
  go_wp2_with fail
  refine (HGD.out _ HG1.out).mono ?_; rintro e w2 ⟨rfl, hg2⟩
  have HG2 := Lf.hide (Lf.gbt HG1.out hg2)
  clear hg2
  go_wp2_with fail
  refine (grows_any _).mono ?_; rintro e w3 ⟨rfl, hg3⟩
  have HG3 := Lf.hide (Lf.gbt HG2.out hg3)
  clear hg3
  go_wp2_with fail
  go_ret
  exact ⟨rfl, HG3.out⟩

theorem bs_snoc (l : List UInt8) : bs l ++ ⟨#[120]⟩ = bs (l ++ [120]) := by
  apply ByteArray.ext
  rw [ByteArray.data_append]
  apply Array.ext'
  simp [bs]

set_option maxHeartbeats 1000000 in
theorem walk_yes {w : World} {t : Tr} {v : Value} (hL0 : Lies (· < w.heap.size) w t v) (hgood : goodF t = 0) :
    Calls Try.prog 3 #[v] w fun e w' => e = .returned (.bool true) ∧ w.grownBy w' none := by
  have hL : Lies (fun _ => True) w t v := hL0.okMono (fun _ _ _ => trivial)
  obtain ⟨k, n, p, st, a, q, c, rfl⟩ := hL.nodeV
  have hlen : (encTr t).length ≤ 64500 := by
    obtain ⟨h1, h2⟩ := goodF_zero hgood
    have := encTr_bound 1 t h1 (by omega); omega
  have HL := Lf.hide hL
  have HE : Hid (∀ W : World, w.grownBy W none → Calls Try.prog 6 #[nodeV k n p st a q c] W fun e w' => e = .returned (.tuple #[.string (bs (encTr t)), .int .i64 0]) ∧ W.grownBy w' none) := fun W hW => encode_yes (lies_lt (lies_on hL hW)) hgood
  have HD := Lf.hide (fun W => decode_ok (decode_complete hgood) (by unfold maxLen; omega) W)
  have HX := Lf.hide (fun W => decode_no (decode_more hgood 120) (by unfold maxLen; simp; omega) W)
  have hsz := bs_size (encTr t)
  have hcat := bs_snoc (encTr t)
  clear hL0 hL hgood
  generalize bs (encTr t ++ [120]) = sx at *
  generalize bs (encTr t) = s at *
  unfold nodeV at HE ⊢
  go_enter Try.func3, Try.ntmps3
  go_wp2_with fail
  refine (HE.out _ (Lf.gb _)).mono ?_; rintro e w1 ⟨rfl, hg1⟩
  have HB1 := Lf.hide (box_none (heap_alloc_new _ _) hg1)
  have HG1 := Lf.hide (Lf.gbt (Lf.gb _) hg1)
  clear hg1
  go_wp2_with fail
  refine (grows_any _).mono ?_; rintro e w2 ⟨rfl, hg2⟩
  have HB2 := Lf.hide (box_none HB1.out hg2)
  have HG2 := Lf.hide (Lf.gbt HG1.out hg2)
  clear hg2
  go_wp2_with fail
  refine (HD.out _).mono ?_; rintro e w3 ⟨vm, rfl, hLm, hg3⟩
  obtain ⟨k1, n1, p1, st1, a1, q1, c1, rfl⟩ := hLm.nodeV
  have HLM := Lf.hide (hLm.okMono (ok' := fun _ => True) (fun _ _ _ => trivial))
  have HB3 := Lf.hide (box_none HB2.out hg3)
  have HG3 := Lf.hide (Lf.gbt HG2.out hg3)
  clear hg3 hLm
  unfold nodeV at HLM ⊢
  go_wp2_with fail
  refine (HX.out _).mono ?_; rintro e w4 ⟨rfl, _, hg4⟩
  have hlt3 := (Array.getElem?_eq_some_iff.1 HB3.out).1
  have HB4 := Lf.hide (box_none ((heap_alloc_old _ _ hlt3).trans HB3.out) hg4)
  have HM4 := Lf.hide (box_none (heap_alloc_new _ _) hg4)
  obtain ⟨x0, x1, x2, x3, x4⟩ := box5 HB4.out
  obtain ⟨y0, y1, y2, y3, y4⟩ := box5 HM4.out
  have hlt4 := (Array.getElem?_eq_some_iff.1 HB4.out).1
  have hlt5 := (Array.getElem?_eq_some_iff.1 HM4.out).1
  have HG34 := Lf.hide (Lf.gbt (Lf.gb _) hg4)
  clear hg4
  unfold nodeV
  go_wp2_with fail
  have hla := lies_on HL.out (Lf.gbt (Lf.gbt HG3.out HG34.out) (Lf.gb (w := w4) (.cells #[.int .i64 0, .int .i64 0, .int .i64 0, .string ⟨#[]⟩, .slice none 0 0] 24)))
  have hlb := lies_on HLM.out (Lf.gbt HG34.out (Lf.gb (w := w4) (.cells #[.int .i64 0, .int .i64 0, .int .i64 0, .string ⟨#[]⟩, .slice none 0 0] 24)))
  refine (alike_any hla _ _ (grow_refl _ _) hlb).mono ?_; rintro e w5 ⟨rfl, hg5⟩
  have HG5 := Lf.hide (Lf.gbt (Lf.gbt (Lf.gbt HG3.out HG34.out) (Lf.gb _)) hg5)
  clear hg5 hla hlb
  go_wp2_with fail
  go_ret
  exact ⟨rfl, HG5.out⟩

theorem walk {w : World} {t : Tr} {v : Value} (hL : Lies (· < w.heap.size) w t v) (hz : t.size ≤ 1048576) :
    Calls Try.prog 3 #[v] w fun e w' => e = .returned (.bool true) ∧ w.grownBy w' none := by
  by_cases hg : goodF t = 0
  · exact walk_yes hL hg
  · exact walk_no hL hz hg

theorem own : ownKnob Try.prog.godebug = none := by kernel_rfl
theorem laidOut : laidOutB Try.prog = true := by kernel_rfl

theorem below_of {w w' : World} (h : w.grownBy w' none) : Below w.heap.size w w' := ⟨h.os, h.tape, h.output, h.size, fun k hk => h.block k hk (by simp)⟩

theorem contract (H : Type) (enc : TypeId × Value → H) (W : World) (base : Nat) (args : Array Value) (ds gs : List (DataW H)) (before : List MemPlace)
    (hval : ∀ (j : Nat) t v, Try.f3.params[j]? = some t → args[j]? = some v → Value.okWide Try.prog W .any base t v)
    (hW : DataW.Whole enc Try.prog Try.f3.params.toList Rows.treeBackSpec.vars false W args.toList ds gs before) (hk : Rows.uptoSmall H (ds ++ gs) = true) :
    Calls Try.prog 3 args W fun e W' => ∃ v, e = .returned v ∧ Rows.treeBackSpec.post enc Try.prog Try.f3 false true false false W args v W' := by
  have hW' := hW
  obtain ⟨p, q, hA0, hV, rfl, hfz, hnd⟩ := hW
  have hA : DataW.TrodAll enc Try.prog W 0 (fun _ => true) true Try.f3.params.toList args.toList ds p := hA0
  rw [Try.params3] at hA hval
  obtain ⟨v0, vs0, d0, ds0, p0, q0, hargs, rfl, rfl, h0, r0⟩ := trodAll_cons hA
  obtain ⟨rfl, rfl, rfl⟩ := trodAll_nil r0
  obtain rfl : args = #[v0] := by cases args; simp_all
  obtain ⟨rfl, rfl⟩ := trodVars_none hV
  have hb := of_decide_eq_true hk
  simp only [List.append_nil, Rows.uptoBulkAll] at hb
  obtain ⟨t, hL, hs⟩ := open_arg (hval 0 24 v0 rfl rfl) h0
  clear hA0
  simp only [List.append_nil] at hW'
  have hlt : ∀ x ∈ p0, x.block < W.heap.size := fun x hx => by simpa using hW'.lt x hx
  refine (walk hL (by omega)).mono fun e W' ⟨he, hg⟩ => ?_
  subst he
  have hB := below_of hg
  exact ⟨_, rfl, _, _, _, [], p0 ++ [], [], hW', trodAll_cons_mk (shut_bool Try.underlying4 _) trodAll_mk0, trodAll_cons_mk (Below.trod laidOut (by kernel_rfl) (of_decide_eq_true (by kernel_rfl)) h0 hB hlt) trodAll_mk0, rfl, hB.frame _, fun h => by cases h⟩

set_option maxRecDepth 100000 in
theorem lifted (os : Os) (started : os.Started) (H : Type) (enc : TypeId × Value → H) (F : Stop.Interp) :
    ReturnsInHanded {} Try.checked os 3 .any ((Rows.OpenSpec.upto Rows.treeBackSpec).pre6 enc Try.prog Try.f3 Rows.treeBackUptoRow.domain false) (((Rows.OpenSpec.upto Rows.treeBackSpec).at F).post enc Try.prog Try.f3 false true false false) := by
  refine returnsInHanded_of_cond (C := Try.checked) (s := Rows.OpenSpec.upto Rows.treeBackSpec) (k := Rows.uptoSmall) rfl own started (by kernel_rfl) Try.func3
    (OpenSpec.witness (enc := enc) (C := Try.checked) (s := Rows.OpenSpec.upto Rows.treeBackSpec) (k := Rows.uptoSmall) rfl false ⟨#[], #[.agg #[.int .i64 0, .int .i64 0, .int .i64 0, .string .empty, .slice none 0 0]], []⟩ 8 (by kernel_rfl) (by kernel_rfl) (by kernel_rfl)
      (x := ([.agg [.lit (.int .i64 0), .lit (.int .i64 0), .lit (.int .i64 0), .lit (.string []), .nil]], [], [])) (by kernel_rfl) rfl (by kernel_rfl)) ?_
  intro W base args ds gs before hval hW _ hk _
  exact contract H enc W base args ds gs before hval hW hk

theorem over : Rows.treeBackUptoRow.holds Try.pinned (Rows.OpenSpec.upto Rows.treeBackSpec) :=
  OpenClaim.holds_of_cond 3 Try.f3 rfl rfl rfl rfl rfl rfl rfl ⟨rfl, rfl, rfl, rfl, rfl⟩ rfl rfl rfl rfl rfl (by kernel_rfl) Try.func3 (by kernel_rfl)
    (of_decide_eq_true (by kernel_rfl)) (by unfold Func.isWrapper; first | (rw [if_pos (by decide +kernel)]; kernel_rfl) | (rw [if_neg (by decide +kernel)]; exact ⟨rfl, rfl⟩))
    (fun os started H enc _ F => lifted os started H enc F)

end Go.Proofs.Ytdiagemkfdfmfab.treeBack

namespace Go.Proofs.Ytdiagemkfdfmfab
theorem treeBack_holds : Rows.TreeBackUptoSaid := treeBack.over
#print axioms treeBack_holds
end Go.Proofs.Ytdiagemkfdfmfab
