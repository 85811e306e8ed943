/- For every node whose reading holds at most 1048576 values and letters, TreeEncodes returns true and leaves its argument as it was: Encode and Good answer as the document's own EncodeNode and GoodNode do, errors too. Condition: that bound on the reading. -/
import Derived.Test.YtdninmanfncfiaaRows
import Derived.Test.YtdninmanfncfiaaOpen
import Derived.Test.YtdninmanfncfiaaRefEnc
import Derived.JoinedCond
import Derived.Deep.RegionHeld3
import Derived.Deep.DeepCutAuto
namespace Go.Proofs.Ytdninmanfncfiaa.treeEncodes
open Go.ChangeShapes Go.WideShapes Go.ChangeAt Go.RowKit
set_option linter.unusedVariables false

theorem lies_on {w W : World} {t : Tr} {v : Value} (h : Lies (fun _ => True) w t v) (hg : w.grownBy W none) : Lies (fun _ => True) W t v := h.same (same_none hg)
theorem lies_lt {W : World} {t : Tr} {v : Value} (h : Lies (fun _ => True) W t v) : Lies (· < W.heap.size) W t v := h.okMono (fun b hb _ => hb)

/-- what tree.Encode answers, either way -/
theorem enc_any {w : World} {t : Tr} {v : Value} (hL : Lies (fun _ => True) w t v) (hz : t.size ≤ 1048576) (W : World) (hW : w.grownBy W none) :
    Calls Try.prog 23 #[v] W fun e w' => e = .returned (.tuple #[.string (if goodF t = 0 then bs (encTr t) else ⟨#[]⟩), .int .i64 (goodF t)]) ∧ W.grownBy w' none := by
  by_cases h : goodF t = 0
  · rw [if_pos h]; have := encode_yes (lies_lt (lies_on hL hW)) h; rw [h]; exact this
  · rw [if_neg h]; exact encode_no (lies_lt (lies_on hL hW)) (by omega) h

set_option maxHeartbeats 1000000 in
theorem walk {w : World} {t : Tr} {v : Value} (hL0 : Lies (· < w.heap.size) w t v) (hz : t.size ≤ 1048576) :
    Calls Try.prog 7 #[v] w fun e w' => e = .returned (.bool true) ∧ w.grownBy w' none := by
  have hL : Lies (fun _ => True) w t v := hL0.okMono (fun _ _ _ => trivial)
  obtain ⟨k, n, p, st, a, q, c, rfl⟩ := hL.nodeV
  have HE := Lf.hide (enc_any hL hz)
  have HR := Lf.hide (renc_any hL hz)
  have HGD : Hid (∀ W : World, w.grownBy W none → Calls Try.prog 25 #[nodeV k n p st a q c] W fun e w' => e = .returned (.int .i64 (goodF t)) ∧ W.grownBy w' none) := fun W hW => good_any (lies_lt (lies_on hL hW)) (by omega)
  have HRG := Lf.hide (rgood_any hL hz)
  clear hL0 hL hz
  generalize (if goodF t = 0 then bs (encTr t) else ⟨#[]⟩) = s at *
  generalize goodF t = x at *
  unfold nodeV at HE HR HGD HRG ⊢
  go_enter Try.func7, Try.ntmps7
  go_wp2_with fail
  refine (HE.out _ (Lf.gb _)).mono ?_; rintro e w1 ⟨rfl, hg1⟩
  have HB1 := Lf.hide (box_noneE (heap_alloc_new _ _) hg1)
  obtain ⟨x0, x1, x2, x3, x4⟩ := box5 HB1.out
  have HG1 := Lf.hide (Lf.gbt (Lf.gb _) hg1)
  clear hg1
  go_wp2_with fail
  refine (HR.out _ HG1.out).mono ?_; rintro e w2 ⟨rfl, hg2⟩
  have hB := box_noneE HB1.out hg2
  have HG := Lf.hide (Lf.gbt HG1.out hg2)
  have H1 : Hid (∀ W, w2.grownBy W none → Calls Try.prog 25 #[.agg #[.int .i64 k, .int .i64 n, .int .i64 p, .string st, .slice a q c]] W fun e w' => e = .returned (.int .i64 x) ∧ w2.grownBy w' none) := fun W hW => (HGD.out W (Lf.gbt HG.out hW)).mono fun e w' h => ⟨h.1, Lf.gbt hW h.2⟩
  have H2 : Hid (∀ W, w2.grownBy W none → Calls Try.prog 26 #[.agg #[.int .i64 k, .int .i64 n, .int .i64 p, .string st, .slice a q c]] W fun e w' => e = .returned (.int .i64 x) ∧ w2.grownBy w' none) := fun W hW => (HRG.out W (Lf.gbt HG.out hW)).mono fun e w' h => ⟨h.1, Lf.gbt hW h.2⟩
  have H3 : Hid (∀ W, w2.grownBy W none → Calls Try.prog 27 #[] W fun e w' => e = .returned (.bool true) ∧ w2.grownBy w' none) := fun W hW => (grows_any W).mono fun e w' h => ⟨h.1, Lf.gbt hW h.2⟩
  have cn0 : ∀ W, w2.grownBy W none → W.cell? ⟨w.heap.size, 0, none⟩ = some (.int .i64 k) := fun W hW => (box5 (box_noneE hB hW)).1
  have cn1 : ∀ W, w2.grownBy W none → W.cell? ⟨w.heap.size, 1, none⟩ = some (.int .i64 n) := fun W hW => (box5 (box_noneE hB hW)).2.1
  have cn2 : ∀ W, w2.grownBy W none → W.cell? ⟨w.heap.size, 2, none⟩ = some (.int .i64 p) := fun W hW => (box5 (box_noneE hB hW)).2.2.1
  have cn3 : ∀ W, w2.grownBy W none → W.cell? ⟨w.heap.size, 3, none⟩ = some (.string st) := fun W hW => (box5 (box_noneE hB hW)).2.2.2.1
  have cn4 : ∀ W, w2.grownBy W none → W.cell? ⟨w.heap.size, 4, none⟩ = some (.slice a q c) := fun W hW => (box5 (box_noneE hB hW)).2.2.2.2
  clear hg2 x0 x1 x2 x3 x4 hB HB1 HG1 HE HR HGD HRG
  go_wp2_with fail
  go_region_held3 (fun w' => w2.grownBy w' none) (first | assumption | exact grow_drew (grow_refl _ _)) (first
    | (go_at_call 25; refine (H1.out _ (by assumption)).mono ?_; rintro e w' ⟨rfl, hg⟩)
    | (go_at_call 26; refine (H2.out _ (by assumption)).mono ?_; rintro e w' ⟨rfl, hg⟩)
    | (go_at_call 27; refine (H3.out _ (by assumption)).mono ?_; rintro e w' ⟨rfl, hg⟩))
  all_goals
    go_wp2_with fail
    go_ret
    exact ⟨rfl, Lf.gbt HG.out (by assumption)⟩

theorem own : ownKnob Try.prog.godebug = none := by kernel_rfl
theorem laidOut : laidOutB Try.prog = true := by kernel_rfl

theorem below_of {w w' : World} (h : w.grownBy w' none) : Below w.heap.size w w' := ⟨h.os, h.tape, h.output, h.size, fun k hk => h.block k hk (by simp)⟩

theorem contract (H : Type) (enc : TypeId × Value → H) (W : World) (base : Nat) (args : Array Value) (ds gs : List (DataW H)) (before : List MemPlace)
    (hval : ∀ (j : Nat) t v, Try.f7.params[j]? = some t → args[j]? = some v → Value.okWide Try.prog W .any base t v)
    (hW : DataW.Whole enc Try.prog Try.f7.params.toList Rows.treeEncodesSpec.vars false W args.toList ds gs before) (hk : Rows.uptoSmall H (ds ++ gs) = true) :
    Calls Try.prog 7 args W fun e W' => ∃ v, e = .returned v ∧ Rows.treeEncodesSpec.post enc Try.prog Try.f7 false true false false W args v W' := by
  have hW' := hW
  obtain ⟨p, q, hA0, hV, rfl, hfz, hnd⟩ := hW
  have hA : DataW.TrodAll enc Try.prog W 0 (fun _ => true) true Try.f7.params.toList args.toList ds p := hA0
  rw [Try.params7] at hA hval
  obtain ⟨v0, vs0, d0, ds0, p0, q0, hargs, rfl, rfl, h0, r0⟩ := trodAll_cons hA
  obtain ⟨rfl, rfl, rfl⟩ := trodAll_nil r0
  obtain rfl : args = #[v0] := by cases args; simp_all
  obtain ⟨rfl, rfl⟩ := trodVars_none hV
  have hb := of_decide_eq_true hk
  simp only [List.append_nil, Rows.uptoBulkAll] at hb
  obtain ⟨t, hL, hs⟩ := open_arg (hval 0 34 v0 rfl rfl) h0
  clear hA0
  simp only [List.append_nil] at hW'
  have hlt : ∀ x ∈ p0, x.block < W.heap.size := fun x hx => by simpa using hW'.lt x hx
  refine (walk hL (by omega)).mono fun e W' ⟨he, hg⟩ => ?_
  subst he
  have hB := below_of hg
  exact ⟨_, rfl, _, _, _, [], p0 ++ [], [], hW', trodAll_cons_mk (shut_bool Try.underlying4 _) trodAll_mk0, trodAll_cons_mk (Below.trod laidOut (by kernel_rfl) (of_decide_eq_true (by kernel_rfl)) h0 hB hlt) trodAll_mk0, rfl, hB.frame _, fun h => by cases h⟩

set_option maxRecDepth 100000 in
theorem lifted (os : Os) (started : os.Started) (H : Type) (enc : TypeId × Value → H) (F : Stop.Interp) :
    ReturnsInHanded {} Try.checked os 7 .any ((Rows.OpenSpec.upto Rows.treeEncodesSpec).pre6 enc Try.prog Try.f7 Rows.treeEncodesUptoRow.domain false) (((Rows.OpenSpec.upto Rows.treeEncodesSpec).at F).post enc Try.prog Try.f7 false true false false) := by
  refine returnsInHanded_of_cond (C := Try.checked) (s := Rows.OpenSpec.upto Rows.treeEncodesSpec) (k := Rows.uptoSmall) rfl own started (by kernel_rfl) Try.func7
    (OpenSpec.witness (enc := enc) (C := Try.checked) (s := Rows.OpenSpec.upto Rows.treeEncodesSpec) (k := Rows.uptoSmall) rfl false ⟨#[], #[.agg #[.int .i64 0, .int .i64 0, .int .i64 0, .string .empty, .slice none 0 0]], []⟩ 8 (by kernel_rfl) (by kernel_rfl) (by kernel_rfl)
      (x := ([.agg [.lit (.int .i64 0), .lit (.int .i64 0), .lit (.int .i64 0), .lit (.string []), .nil]], [], [])) (by kernel_rfl) rfl (by kernel_rfl)) ?_
  intro W base args ds gs before hval hW _ hk _
  exact contract H enc W base args ds gs before hval hW hk

theorem over : Rows.treeEncodesUptoRow.holds Try.pinned (Rows.OpenSpec.upto Rows.treeEncodesSpec) :=
  OpenClaim.holds_of_cond 7 Try.f7 rfl rfl rfl rfl rfl rfl rfl ⟨rfl, rfl, rfl, rfl, rfl⟩ rfl rfl rfl rfl rfl (by kernel_rfl) Try.func7 (by kernel_rfl)
    (of_decide_eq_true (by kernel_rfl)) (by unfold Func.isWrapper; first | (rw [if_pos (by decide +kernel)]; kernel_rfl) | (rw [if_neg (by decide +kernel)]; exact ⟨rfl, rfl⟩))
    (fun os started H enc _ F => lifted os started H enc F)

end Go.Proofs.Ytdninmanfncfiaa.treeEncodes

namespace Go.Proofs.Ytdninmanfncfiaa
theorem treeEncodes_holds : Rows.TreeEncodesUptoSaid := treeEncodes.over
#print axioms treeEncodes_holds
end Go.Proofs.Ytdninmanfncfiaa
