/- For all types t and u of bulk at most 1048576, KindTells returns true and leaves its arguments as they were: Node, Good, Same, Comparable, Copied, Packed and Stored answer as the document's own functions do. Condition: what is read holds at most 1048576 values and letters. -/
import Derived.Test.YtjhhcdiipbjiaabRows
import Derived.Test.YtjhhcdiipbjiaabNamesL
import Derived.Test.YtjhhcdiipbjiaabOpenT
import Derived.Test.YtjhhcdiipbjiaabNodeT
import Derived.Test.YtjhhcdiipbjiaabSameT2
import Derived.Test.YtjhhcdiipbjiaabAlikeR
import Derived.Test.YtjhhcdiipbjiaabRefNode
import Derived.Test.YtjhhcdiipbjiaabRefSame
import Derived.Deep.DeepCutAuto
import Derived.Deep.RegionHeld3
namespace Go.Proofs.Ytjhhcdiipbjiaab.kindTells
open Go.ChangeShapes Go.WideShapes Go.ChangeAt Go.RowKit
set_option linter.unusedVariables false

theorem hkeepL {W w' : World} {b : Nat} {o : Obj} (h : W.heap[b]? = some o) (hg : W.grownBy w' none) : w'.heap[b]? = some o := (hg.block b (lt_of_block h) (by simp)).trans h

theorem node_res {T : Ty} {W w1 : World} {e : Ending} (hp : (goodTy T = true ∧ ∃ u, e = .returned (.tuple #[u, .int .i64 0]) ∧ Lies (W.heap.size ≤ ·) w1 (writeT T) u) ∨ (goodTy T = false ∧ e = .returned (.tuple #[nodeV 0 0 0 ⟨#[]⟩ none 0 0, .int .i64 1]))) :
    ∃ kn nn pn sn an ln cn, ∃ (tn : Tr) (en : Int), e = .returned (.tuple #[nodeV kn nn pn sn an ln cn, .int .i64 en]) ∧ Lies (fun _ => True) w1 tn (nodeV kn nn pn sn an ln cn) ∧ tn = (if goodTy T = true then writeT T else .nd 0 0 0 emptyB []) ∧ en = (if goodTy T = true then 0 else 1) := by
  rcases hp with ⟨h, u, rfl, hL⟩ | ⟨h, rfl⟩
  · obtain ⟨k, n, p, s, a, l, c, rfl⟩ := hL.nodeV
    exact ⟨k, n, p, s, a, l, c, _, 0, rfl, hL.okMono (fun _ _ _ => trivial), by rw [if_pos h], by rw [if_pos h]⟩
  · refine ⟨0, 0, 0, ⟨#[]⟩, none, 0, 0, .nd 0 0 0 emptyB [], 1, rfl, ?_, by rw [if_neg (by rw [h]; simp)], by rw [if_neg (by rw [h]; simp)]⟩
    exact Lies.mk (fun _ => .int .i64 0) (by simp [maxLen]) (Nat.zero_le _) ⟨by omega, by omega⟩ ⟨by omega, by omega⟩ ⟨by omega, by omega⟩ (fun i hi => by simp at hi) (fun i hi => by simp at hi)

set_option maxRecDepth 100000 in
set_option maxHeartbeats 8000000 in
theorem walk {w : World} {T U : Ty} {v v2 : Value} (hL : LiesT (· < w.heap.size) w T v) (hL2 : LiesT (· < w.heap.size) w U v2) (hz : T.size ≤ 1048576) :
    Calls Try.prog 6 #[v, v2] w fun e w' => e = .returned (.bool true) ∧ w.grownBy w' none := by
  obtain ⟨a, c, V, rfl, it, hR⟩ := hL.inv
  obtain ⟨a2, c2, V2, rfl, it2, hR2⟩ := hL2.inv
  have eT := heap_alloc_new w (.cells #[.int .i64 T.t, .slice a T.args.length c] 39)
  have eU := heap_alloc_new (w.alloc (.cells #[.int .i64 T.t, .slice a T.args.length c] 39)) (.cells #[.int .i64 U.t, .slice a2 U.args.length c2] 39)
  rw [World.size_alloc] at eU
  have HBT0 := Lf.hide (heap_keep (o := .cells #[.int .i64 U.t, .slice a2 U.args.length c2] 39) eT)
  have HBU0 := Lf.hide eU
  have HG0 := Lf.hide (Lf.gbt (Lf.gb (w := w) (.cells #[.int .i64 T.t, .slice a T.args.length c] 39)) (Lf.gb (.cells #[.int .i64 U.t, .slice a2 U.args.length c2] 39)))
  have HT := Lf.hide hL
  have HU := Lf.hide hL2
  clear hL hL2 it it2 hR hR2 eT eU
  unfold tyV
  go_enter Try.func6, Try.ntmps6
  go_wp2_with fail
  refine (tnode_any (HT.out.grow HG0.out)).mono ?_; rintro e w1 ⟨hg, hp⟩
  have hpn : ∃ kn nn pn sn an ln cn, ∃ (tn : Tr) (en : Int), e = .returned (.tuple #[nodeV kn nn pn sn an ln cn, .int .i64 en]) ∧ Lies (fun _ => True) w1 tn (nodeV kn nn pn sn an ln cn) ∧ tn = (if goodTy T = true then writeT T else .nd 0 0 0 emptyB []) ∧ en = (if goodTy T = true then 0 else 1) := node_res hp
  obtain ⟨kn, nn, pn, sn, an, ln, cn, tn, en, rfl, hLn, htn, hen⟩ := hpn
  have HBT1 := Lf.hide (heap_keep (o := .cells #[.int .i64 kn, .int .i64 nn, .int .i64 pn, .string sn, .slice an ln cn] 24) (hkeepL HBT0.out hg))
  have HBU1 := Lf.hide (heap_keep (o := .cells #[.int .i64 kn, .int .i64 nn, .int .i64 pn, .string sn, .slice an ln cn] 24) (hkeepL HBU0.out hg))
  have HBN1 := Lf.hide (heap_alloc_new w1 (.cells #[.int .i64 kn, .int .i64 nn, .int .i64 pn, .string sn, .slice an ln cn] 24))
  have HG1 := Lf.hide (Lf.gbt HG0.out (Lf.gbt hg (Lf.gb (.cells #[.int .i64 kn, .int .i64 nn, .int .i64 pn, .string sn, .slice an ln cn] 24))))
  have HLN := Lf.hide (hLn.same (sameTrue (Lf.gb (.cells #[.int .i64 kn, .int .i64 nn, .int .i64 pn, .string sn, .slice an ln cn] 24))))
  have HTN := Lf.hide htn
  have HEN := Lf.hide hen
  have tx0 := cell0_of HBT1.out
  have tx1 := cell1_of HBT1.out
  have tl := lt_of_block HBT1.out
  have tk0 := cell0_of (hkeepL HBT0.out hg)
  have tk1 := cell1_of (hkeepL HBT0.out hg)
  have tkl := lt_of_block (hkeepL HBT0.out hg)
  clear hg hp hLn htn hen
  unfold nodeV
  go_wp2_with fail
  refine (rtnode_any (HT.out.grow HG1.out)).mono ?_; rintro e w2 ⟨hg, hp⟩
  have hpm : ∃ km nm pm sm am lm cm, ∃ (tm : Tr) (em : Int), e = .returned (.tuple #[nodeV km nm pm sm am lm cm, .int .i64 em]) ∧ Lies (fun _ => True) w2 tm (nodeV km nm pm sm am lm cm) ∧ tm = (if goodTy T = true then writeT T else .nd 0 0 0 emptyB []) ∧ em = (if goodTy T = true then 0 else 1) := node_res hp
  obtain ⟨km, nm, pm, sm, am, lm, cm, tm, em, rfl, hLm, htm, hem⟩ := hpm
  have hee : em = en := by rw [hem, HEN.out]
  have htt : tm = tn := by rw [htm, HTN.out]
  subst hee
  subst htt
  have hBT := heap_keep (o := .cells #[.int .i64 km, .int .i64 nm, .int .i64 pm, .string sm, .slice am lm cm] 24) (hkeepL HBT1.out hg)
  have hBU := heap_keep (o := .cells #[.int .i64 km, .int .i64 nm, .int .i64 pm, .string sm, .slice am lm cm] 24) (hkeepL HBU1.out hg)
  have hBN := heap_keep (o := .cells #[.int .i64 km, .int .i64 nm, .int .i64 pm, .string sm, .slice am lm cm] 24) (hkeepL HBN1.out hg)
  have hBM := heap_alloc_new w2 (.cells #[.int .i64 km, .int .i64 nm, .int .i64 pm, .string sm, .slice am lm cm] 24)
  have HG2 := Lf.hide (Lf.gbt HG1.out (Lf.gbt hg (Lf.gb (.cells #[.int .i64 km, .int .i64 nm, .int .i64 pm, .string sm, .slice am lm cm] 24))))
  have hN := HLN.out.same (sameTrue (Lf.gbt hg (Lf.gb (.cells #[.int .i64 km, .int .i64 nm, .int .i64 pm, .string sm, .slice am lm cm] 24))))
  have hM := hLm.same (sameTrue (Lf.gb (.cells #[.int .i64 km, .int .i64 nm, .int .i64 pm, .string sm, .slice am lm cm] 24)))
  clear hg hp hLm htm hem tx0 tx1 tl tk0 tk1 tkl
  unfold nodeV
  go_wp2_with fail
  generalize hwb : w2.alloc (.cells #[.int .i64 km, .int .i64 nm, .int .i64 pm, .string sm, .slice am lm cm] 24) = wb at *
  clear hwb
  have hT := HT.out.grow HG2.out
  have hU := HU.out.grow HG2.out
  have hTt : LiesT (fun _ => True) wb T (tyV T.t a T.args.length c) := hT.okMono (fun _ _ _ => trivial)
  have hUt : LiesT (fun _ => True) wb U (tyV U.t a2 U.args.length c2) := hU.okMono (fun _ _ _ => trivial)
  unfold tyV at hT hU hTt hUt
  unfold nodeV at hN hM
  have H17 : Hid (∀ W, wb.grownBy W none → Calls Try.prog 17 #[.agg #[.int .i64 kn, .int .i64 nn, .int .i64 pn, .string sn, .slice an ln cn], .agg #[.int .i64 km, .int .i64 nm, .int .i64 pm, .string sm, .slice am lm cm]] W fun e w' => e = .returned (.bool (true)) ∧ wb.grownBy w' none) := fun W hW => (alikeR_any hN _ W hW hM).mono fun e w' h => ⟨h.1, Lf.gbt hW h.2⟩
  have H18 : Hid (∀ W, wb.grownBy W none → Calls Try.prog 18 #[.agg #[.int .i64 T.t, .slice a T.args.length c]] W fun e w' => e = .returned (.bool (goodTy T)) ∧ wb.grownBy w' none) := fun W hW => (kgood_any (hT.grow hW)).mono fun e w' h => ⟨h.1, Lf.gbt hW h.2⟩
  have H19 : Hid (∀ W, wb.grownBy W none → Calls Try.prog 19 #[.agg #[.int .i64 T.t, .slice a T.args.length c]] W fun e w' => e = .returned (.bool (goodTy T)) ∧ wb.grownBy w' none) := fun W hW => (rgood_any hTt W hW).mono fun e w' h => ⟨h.1, Lf.gbt hW h.2⟩
  have H20 : Hid (∀ W, wb.grownBy W none → Calls Try.prog 20 #[.agg #[.int .i64 T.t, .slice a T.args.length c], .agg #[.int .i64 U.t, .slice a2 U.args.length c2]] W fun e w' => e = .returned (.bool (sameT T U)) ∧ wb.grownBy w' none) := fun W hW => (same_any (hT.grow hW) (hU.grow hW) (by omega)).mono fun e w' h => ⟨h.1, Lf.gbt hW h.2⟩
  have H21 : Hid (∀ W, wb.grownBy W none → Calls Try.prog 21 #[.agg #[.int .i64 T.t, .slice a T.args.length c], .agg #[.int .i64 U.t, .slice a2 U.args.length c2]] W fun e w' => e = .returned (.bool (sameT T U)) ∧ wb.grownBy w' none) := fun W hW => (rsame_any hTt U _ W hW hUt).mono fun e w' h => ⟨h.1, Lf.gbt hW h.2⟩
  have H22 : Hid (∀ W, wb.grownBy W none → Calls Try.prog 22 #[.agg #[.int .i64 T.t, .slice a T.args.length c]] W fun e w' => e = .returned (.bool (compT T)) ∧ wb.grownBy w' none) := fun W hW => (comparable_any (hT.grow hW) (by omega)).mono fun e w' h => ⟨h.1, Lf.gbt hW h.2⟩
  have H23 : Hid (∀ W, wb.grownBy W none → Calls Try.prog 23 #[.agg #[.int .i64 T.t, .slice a T.args.length c]] W fun e w' => e = .returned (.bool (compT T)) ∧ wb.grownBy w' none) := fun W hW => (rcomp_any hTt W hW).mono fun e w' h => ⟨h.1, Lf.gbt hW h.2⟩
  have H24 : Hid (∀ W, wb.grownBy W none → Calls Try.prog 24 #[.agg #[.int .i64 T.t, .slice a T.args.length c]] W fun e w' => e = .returned (.bool (copyT T)) ∧ wb.grownBy w' none) := fun W hW => (copied_any (hT.grow hW) (by omega)).mono fun e w' h => ⟨h.1, Lf.gbt hW h.2⟩
  have H25 : Hid (∀ W, wb.grownBy W none → Calls Try.prog 25 #[.agg #[.int .i64 T.t, .slice a T.args.length c]] W fun e w' => e = .returned (.bool (copyT T)) ∧ wb.grownBy w' none) := fun W hW => (rcopy_any hTt W hW).mono fun e w' h => ⟨h.1, Lf.gbt hW h.2⟩
  have H26 : Hid (∀ W, wb.grownBy W none → Calls Try.prog 26 #[.agg #[.int .i64 T.t, .slice a T.args.length c]] W fun e w' => e = .returned (.bool (packT T)) ∧ wb.grownBy w' none) := fun W hW => (packed_any (hT.grow hW) (by omega)).mono fun e w' h => ⟨h.1, Lf.gbt hW h.2⟩
  have H27 : Hid (∀ W, wb.grownBy W none → Calls Try.prog 27 #[.agg #[.int .i64 T.t, .slice a T.args.length c]] W fun e w' => e = .returned (.bool (packT T)) ∧ wb.grownBy w' none) := fun W hW => (rpack_any hTt W hW).mono fun e w' h => ⟨h.1, Lf.gbt hW h.2⟩
  have H28 : Hid (∀ W, wb.grownBy W none → Calls Try.prog 28 #[.agg #[.int .i64 T.t, .slice a T.args.length c]] W fun e w' => e = .returned (.bool (storeT T)) ∧ wb.grownBy w' none) := fun W hW => (stored_any (hT.grow hW) (by omega)).mono fun e w' h => ⟨h.1, Lf.gbt hW h.2⟩
  have H29 : Hid (∀ W, wb.grownBy W none → Calls Try.prog 29 #[.agg #[.int .i64 T.t, .slice a T.args.length c]] W fun e w' => e = .returned (.bool (storeT T)) ∧ wb.grownBy w' none) := fun W hW => (rstore_any hTt W hW).mono fun e w' h => ⟨h.1, Lf.gbt hW h.2⟩
  have H30 : Hid (∀ W, wb.grownBy W none → Calls Try.prog 30 #[] W fun e w' => e = .returned (.bool (true)) ∧ wb.grownBy w' none) := fun W hW => (namesL_any W).mono fun e w' h => ⟨h.1, Lf.gbt hW h.2⟩
  have ct0 : ∀ W, wb.grownBy W none → W.cell? ⟨w.heap.size, 0, none⟩ = some (.int .i64 T.t) := fun W hW => cell0_of (hkeepL hBT hW)
  have ct1 : ∀ W, wb.grownBy W none → W.cell? ⟨w.heap.size, 1, none⟩ = some (.slice a T.args.length c) := fun W hW => cell1_of (hkeepL hBT hW)
  have cu0 : ∀ W, wb.grownBy W none → W.cell? ⟨w.heap.size + 1, 0, none⟩ = some (.int .i64 U.t) := fun W hW => cell0_of (hkeepL hBU hW)
  have cu1 : ∀ W, wb.grownBy W none → W.cell? ⟨w.heap.size + 1, 1, none⟩ = some (.slice a2 U.args.length c2) := fun W hW => cell1_of (hkeepL hBU hW)
  have cn0 : ∀ W, wb.grownBy W none → W.cell? ⟨w1.heap.size, 0, none⟩ = some (.int .i64 kn) := fun W hW => (box5 (hkeepL hBN hW)).1
  have cn1 : ∀ W, wb.grownBy W none → W.cell? ⟨w1.heap.size, 1, none⟩ = some (.int .i64 nn) := fun W hW => (box5 (hkeepL hBN hW)).2.1
  have cn2 : ∀ W, wb.grownBy W none → W.cell? ⟨w1.heap.size, 2, none⟩ = some (.int .i64 pn) := fun W hW => (box5 (hkeepL hBN hW)).2.2.1
  have cn3 : ∀ W, wb.grownBy W none → W.cell? ⟨w1.heap.size, 3, none⟩ = some (.string sn) := fun W hW => (box5 (hkeepL hBN hW)).2.2.2.1
  have cn4 : ∀ W, wb.grownBy W none → W.cell? ⟨w1.heap.size, 4, none⟩ = some (.slice an ln cn) := fun W hW => (box5 (hkeepL hBN hW)).2.2.2.2
  have cm0 : ∀ W, wb.grownBy W none → W.cell? ⟨w2.heap.size, 0, none⟩ = some (.int .i64 km) := fun W hW => (box5 (hkeepL hBM hW)).1
  have cm1 : ∀ W, wb.grownBy W none → W.cell? ⟨w2.heap.size, 1, none⟩ = some (.int .i64 nm) := fun W hW => (box5 (hkeepL hBM hW)).2.1
  have cm2 : ∀ W, wb.grownBy W none → W.cell? ⟨w2.heap.size, 2, none⟩ = some (.int .i64 pm) := fun W hW => (box5 (hkeepL hBM hW)).2.2.1
  have cm3 : ∀ W, wb.grownBy W none → W.cell? ⟨w2.heap.size, 3, none⟩ = some (.string sm) := fun W hW => (box5 (hkeepL hBM hW)).2.2.2.1
  have cm4 : ∀ W, wb.grownBy W none → W.cell? ⟨w2.heap.size, 4, none⟩ = some (.slice am lm cm) := fun W hW => (box5 (hkeepL hBM hW)).2.2.2.2
  have HG := Lf.hide HG2.out
  clear hT hU hTt hUt hN hM hBT hBU hBN hBM HBT0 HBU0 HBT1 HBU1 HBN1 HG0 HG1 HG2 HT HU HLN HTN HEN hz
  generalize goodTy T = xg at *
  generalize sameT T U = xs at *
  generalize compT T = xc at *
  generalize copyT T = xd at *
  generalize packT T = xp at *
  generalize storeT T = xt at *
  go_cut [43] (fun s wx => s = .bool false ∧ wb.grownBy wx none)
  case first =>
    go_region_held3 (fun w' => wb.grownBy w' none) (first | assumption | exact grow_drew (grow_refl _ _)) (first
    | (go_at_call 17; refine (H17.out _ (by assumption)).mono ?_; rintro e w' ⟨rfl, hg⟩)
    | (go_at_call 18; refine (H18.out _ (by assumption)).mono ?_; rintro e w' ⟨rfl, hg⟩)
    | (go_at_call 19; refine (H19.out _ (by assumption)).mono ?_; rintro e w' ⟨rfl, hg⟩)
    | (go_at_call 20; refine (H20.out _ (by assumption)).mono ?_; rintro e w' ⟨rfl, hg⟩)
    | (go_at_call 21; refine (H21.out _ (by assumption)).mono ?_; rintro e w' ⟨rfl, hg⟩))
    all_goals
      go_wp2_with fail
      go_meet
      exact ⟨rfl, by assumption⟩
  case rest =>
    obtain ⟨rfl, hgc⟩ := hcut
    go_wp2_with fail
    go_region_held3 (fun w' => wb.grownBy w' none) (first | assumption | exact grow_drew hgc) (first
    | (go_at_call 22; refine (H22.out _ (by assumption)).mono ?_; rintro e w' ⟨rfl, hg⟩)
    | (go_at_call 23; refine (H23.out _ (by assumption)).mono ?_; rintro e w' ⟨rfl, hg⟩)
    | (go_at_call 24; refine (H24.out _ (by assumption)).mono ?_; rintro e w' ⟨rfl, hg⟩)
    | (go_at_call 25; refine (H25.out _ (by assumption)).mono ?_; rintro e w' ⟨rfl, hg⟩)
    | (go_at_call 26; refine (H26.out _ (by assumption)).mono ?_; rintro e w' ⟨rfl, hg⟩)
    | (go_at_call 27; refine (H27.out _ (by assumption)).mono ?_; rintro e w' ⟨rfl, hg⟩)
    | (go_at_call 28; refine (H28.out _ (by assumption)).mono ?_; rintro e w' ⟨rfl, hg⟩)
    | (go_at_call 29; refine (H29.out _ (by assumption)).mono ?_; rintro e w' ⟨rfl, hg⟩)
    | (go_at_call 30; refine (H30.out _ (by assumption)).mono ?_; rintro e w' ⟨rfl, hg⟩))
    all_goals
      go_wp2_with fail
      go_ret
      exact ⟨rfl, Lf.gbt HG.out (by assumption)⟩

theorem own : ownKnob Try.prog.godebug = none := by kernel_rfl
theorem laidOut : laidOutB Try.prog = true := by kernel_rfl

theorem below_of {w w' : World} (h : w.grownBy w' none) : Below w.heap.size w w' := ⟨h.os, h.tape, h.output, h.size, fun k hk => h.block k hk (by simp)⟩

theorem contract (H : Type) (enc : TypeId × Value → H) (W : World) (base : Nat) (args : Array Value) (ds gs : List (DataW H)) (before : List MemPlace)
    (hval : ∀ (j : Nat) t v, Try.f6.params[j]? = some t → args[j]? = some v → Value.okWide Try.prog W .any base t v)
    (hW : DataW.Whole enc Try.prog Try.f6.params.toList Rows.kindTellsSpec.vars false W args.toList ds gs before) (hk : Rows.uptoSmall H (ds ++ gs) = true) :
    Calls Try.prog 6 args W fun e W' => ∃ v, e = .returned v ∧ Rows.kindTellsSpec.post enc Try.prog Try.f6 false true false false W args v W' := by
  have hW' := hW
  obtain ⟨p, q, hA0, hV, rfl, hfz, hnd⟩ := hW
  have hA : DataW.TrodAll enc Try.prog W 0 (fun _ => true) true Try.f6.params.toList args.toList ds p := hA0
  rw [Try.params6] at hA hval
  obtain ⟨v0, vs0, d0, ds0, p0, q0, hargs, rfl, rfl, h0, r0⟩ := trodAll_cons hA
  obtain ⟨v1, vs1, d1, ds1, p1, q1, hargs1, rfl, rfl, h1, r1⟩ := trodAll_cons r0
  obtain ⟨rfl, rfl, rfl⟩ := trodAll_nil r1
  obtain rfl : args = #[v0, v1] := by cases args; simp_all
  obtain ⟨rfl, rfl⟩ := trodVars_none hV
  have hb := of_decide_eq_true hk
  simp only [List.append_nil, Rows.uptoBulkAll] at hb
  obtain ⟨t, hL, hs⟩ := open_argT (hval 0 39 v0 rfl rfl) h0
  obtain ⟨u, hLU, hs2⟩ := open_argT (hval 1 39 v1 rfl rfl) h1
  clear hA0
  simp only [List.append_nil] at hW'
  have hlt0 : ∀ x ∈ p0, x.block < W.heap.size := fun x hx => hW'.lt x (by simp [hx])
  have hlt1 : ∀ x ∈ p1, x.block < W.heap.size := fun x hx => hW'.lt x (by simp [hx])
  refine (walk hL hLU (by omega)).mono fun e W' ⟨he, hg⟩ => ?_
  subst he
  have hB := below_of hg
  exact ⟨_, rfl, _, _, _, [], p0 ++ (p1 ++ []), [], hW', trodAll_cons_mk (shut_bool Try.underlying4 _) trodAll_mk0, trodAll_cons_mk (Below.trod laidOut (by kernel_rfl) (of_decide_eq_true (by kernel_rfl)) h0 hB hlt0) (trodAll_cons_mk (Below.trod laidOut (by kernel_rfl) (of_decide_eq_true (by kernel_rfl)) h1 hB hlt1) trodAll_mk0), rfl, hB.frame _, fun h => by cases h⟩

set_option maxRecDepth 100000 in
theorem lifted (os : Os) (started : os.Started) (H : Type) (enc : TypeId × Value → H) (F : Stop.Interp) :
    ReturnsInHanded {} Try.checked os 6 .any ((Rows.OpenSpec.upto Rows.kindTellsSpec).pre6 enc Try.prog Try.f6 Rows.kindTellsUptoRow.domain false) (((Rows.OpenSpec.upto Rows.kindTellsSpec).at F).post enc Try.prog Try.f6 false true false false) := by
  refine returnsInHanded_of_cond (C := Try.checked) (s := Rows.OpenSpec.upto Rows.kindTellsSpec) (k := Rows.uptoSmall) rfl own started (by kernel_rfl) Try.func6
    (OpenSpec.witness (enc := enc) (C := Try.checked) (s := Rows.OpenSpec.upto Rows.kindTellsSpec) (k := Rows.uptoSmall) rfl false ⟨#[], #[.agg #[.int .i64 0, .slice none 0 0], .agg #[.int .i64 0, .slice none 0 0]], []⟩ 8 (by kernel_rfl) (by kernel_rfl) (by kernel_rfl)
      (x := ([.agg [.lit (.int .i64 0), .nil], .agg [.lit (.int .i64 0), .nil]], [], [])) (by kernel_rfl) rfl (by kernel_rfl)) ?_
  intro W base args ds gs before hval hW _ hk _
  exact contract H enc W base args ds gs before hval hW hk

theorem over : Rows.kindTellsUptoRow.holds Try.pinned (Rows.OpenSpec.upto Rows.kindTellsSpec) :=
  OpenClaim.holds_of_cond 6 Try.f6 rfl rfl rfl rfl rfl rfl rfl ⟨rfl, rfl, rfl, rfl, rfl⟩ rfl rfl rfl rfl rfl (by kernel_rfl) Try.func6 (by kernel_rfl)
    (of_decide_eq_true (by kernel_rfl)) (by unfold Func.isWrapper; first | (rw [if_pos (by decide +kernel)]; kernel_rfl) | (rw [if_neg (by decide +kernel)]; exact ⟨rfl, rfl⟩))
    (fun os started H enc _ F => lifted os started H enc F)

end Go.Proofs.Ytjhhcdiipbjiaab.kindTells

namespace Go.Proofs.Ytjhhcdiipbjiaab
theorem kindTells_holds : Rows.KindTellsUptoSaid := kindTells.over
#print axioms kindTells_holds
end Go.Proofs.Ytjhhcdiipbjiaab
