/- For all bytes, TreeOnly returns true and leaves its argument as it was: what Decode reads as a tree is good and has just these bytes, and else it reads the empty node. No condition. -/
import Derived.Test.YtdiagemkfdfmfabRows
import Derived.Test.YtdiagemkfdfmfabSame
import Derived.ShutString
namespace Go.Proofs.Ytdiagemkfdfmfab.treeOnly
open Go.ChangeShapes Go.WideShapes Go.ChangeAt Go.RowKit
open Go.ChangeMaps (open_string shut_string)
set_option linter.unusedVariables false

theorem box_none {w w' : World} {g : Nat} {o : Obj} (h : w.heap[g]? = some o) (hg : w.grownBy w' none) : w'.heap[g]? = some o := by
  rw [hg.block g (Array.getElem?_eq_some_iff.1 h).1 (by simp)]; exact h

set_option maxHeartbeats 1000000 in
theorem walk (l : List UInt8) (hl : l.length ≤ maxLen) (w : World) :
    Calls Try.prog 4 #[.string (bs l)] w fun e w' => e = .returned (.bool true) ∧ w.grownBy w' none := by
  cases hq : pDecode l with
  | error x =>
    have HD := Lf.hide (decode_no hq hl w)
    clear hq hl
    generalize bs l = s at *
    go_enter Try.func4, Try.ntmps4
    go_wp2_with fail
    refine HD.out.mono ?_; rintro e w1 ⟨rfl, hx, hg⟩
    have HG := Lf.hide hg
    clear hg
    unfold nodeV
    go_wp2_with fail
    have hL : ∀ W : World, Lies (fun _ => True) W (.nd 0 0 0 (bs []) []) (nodeV 0 0 0 (bs []) none 0 0) := fun W => lies_leaf (by rw [bs_size]; simp) ⟨by omega, by omega⟩ ⟨by omega, by omega⟩ ⟨by omega, by omega⟩
    refine (alike_any (hL _) _ _ (grow_refl _ _) (hL _)).mono ?_; rintro e w2 ⟨rfl, hg2⟩
    have HG2 := Lf.hide hg2
    clear hg2
    go_wp2_with fail
    refine (grows_any _).mono ?_; rintro e w3 ⟨rfl, hg3⟩
    have HG3 := Lf.hide hg3
    clear hg3
    go_wp2_with fail
    go_ret
    exact ⟨rfl, Lf.gbt HG.out (Lf.gbt (Lf.gb _) (Lf.gbt HG2.out HG3.out))⟩
  | ok t =>
    obtain ⟨hgood, henc⟩ := decode_good hq
    have HD := Lf.hide (decode_ok hq hl w)
    have HE : Hid (∀ (W : World) (v : Value), Lies (· < W.heap.size) W t v → Calls Try.prog 6 #[v] W fun e w' => e = .returned (.tuple #[.string (bs l), .int .i64 0]) ∧ W.grownBy w' none) := by
      intro W v hL
      have := encode_yes hL hgood
      rw [henc] at this
      exact this
    have HGD : Hid (∀ (W : World) (v : Value), Lies (· < W.heap.size) W t v → Calls Try.prog 8 #[v] W fun e w' => e = .returned (.int .i64 0) ∧ W.grownBy w' none) := by
      intro W v hL
      have := good_any hL (by have := (goodF_zero hgood).2; omega)
      rw [hgood] at this
      exact this
    clear hq hl hgood henc
    generalize bs l = s at *
    go_enter Try.func4, Try.ntmps4
    go_wp2_with fail
    refine HD.out.mono ?_; rintro e w1 ⟨v, rfl, hL, hg⟩
    obtain ⟨k, n, p, st, a, q, c, rfl⟩ := hL.nodeV
    have HLV : Hid (∀ W, w1.grownBy W none → Lies (· < W.heap.size) W t (nodeV k n p st a q c)) := fun W hW => (hL.okMono (ok' := fun _ => True) (fun _ _ _ => trivial)).same (same_none hW) |>.okMono (fun b hb _ => hb)
    have HG := Lf.hide hg
    clear hg hL
    unfold nodeV at HLV ⊢
    go_wp2_with fail
    refine (grows_any _).mono ?_; rintro e w2 ⟨rfl, hg2⟩
    have HB2 := Lf.hide (box_none (heap_alloc_new _ _) hg2)
    obtain ⟨x0, x1, x2, x3, x4⟩ := box5 HB2.out
    have HG2 := Lf.hide hg2
    clear hg2
    go_wp2_with fail
    refine (HE.out _ _ (HLV.out _ (Lf.gbt (Lf.gb _) HG2.out))).mono ?_; rintro e w3 ⟨rfl, hg3⟩
    have HB3 := Lf.hide (box_none HB2.out hg3)
    obtain ⟨y0, y1, y2, y3, y4⟩ := box5 HB3.out
    have HG3 := Lf.hide hg3
    clear hg3
    go_wp2_with fail
    refine (HGD.out _ _ (HLV.out _ (Lf.gbt (Lf.gb _) (Lf.gbt HG2.out HG3.out)))).mono ?_; rintro e w4 ⟨rfl, hg4⟩
    have HG4 := Lf.hide hg4
    clear hg4
    go_wp2_with fail
    go_ret
    exact ⟨rfl, Lf.gbt HG.out (Lf.gbt (Lf.gb _) (Lf.gbt HG2.out (Lf.gbt HG3.out HG4.out)))⟩

theorem own : ownKnob Try.prog.godebug = none := by kernel_rfl

theorem below_of {w w' : World} (h : w.grownBy w' none) : Below w.heap.size w w' := ⟨h.os, h.tape, h.output, h.size, fun k hk => h.block k hk (by simp)⟩

set_option maxRecDepth 100000 in
theorem lifted (os : Os) (started : os.Started) (H : Type) (enc : TypeId × Value → H) :
    ReturnsInHanded {} Try.checked os 4 .any (Rows.treeOnlySpec.pre6 enc Try.prog Try.f4 Rows.treeOnlyRow.domain false) (Rows.treeOnlySpec.post enc Try.prog Try.f4 false true false false) := by
  refine returnsInHanded_of_change (C := Try.checked) own started (by kernel_rfl) Try.func4
    (ChangeSpec.witness6 (enc := enc) (C := Try.checked) false ⟨#[], #[.string ByteArray.empty], []⟩ 8 (by kernel_rfl) (by kernel_rfl) (by kernel_rfl) (by kernel_rfl)) ?_
  intro W base args ds gs before hval0 hW hcnd _
  have hval : ∀ (j : Nat) t v, Try.f4.params[j]? = some t → args[j]? = some v → Value.okWide Try.prog W .any base t v := hval0
  have hW' := hW
  obtain ⟨p, q, hA0, hV, rfl, hfz, hnd⟩ := hW
  have hA : DataW.TrodAll enc Try.prog W 0 (fun _ => true) true Try.f4.params.toList args.toList ds p := hA0
  rw [Try.params4] at hA hval
  obtain ⟨v0, vs0, d0, ds0, p0, q0, hargs, rfl, rfl, h0, r0⟩ := trodAll_cons hA
  obtain ⟨rfl, rfl, rfl⟩ := trodAll_nil r0
  obtain rfl : args = #[v0] := by cases args; simp_all
  obtain ⟨rfl, rfl⟩ := trodVars_none hV
  obtain ⟨a0, rfl, rfl, rfl, w0⟩ := open_string Try.underlying9 (hval 0 9 v0 rfl rfl) h0
  clear hA0 hval0
  simp only [List.append_nil] at hW'
  have hwalk := walk a0.data.toList (by simpa using w0) W
  rw [bs_of] at hwalk
  refine hwalk.mono fun e W' ⟨he, hg⟩ => ?_
  subst he
  exact ⟨_, rfl, _, _, _, [], [], [], hW', trodAll_cons_mk (shut_bool Try.underlying4 _) trodAll_mk0, trodAll_cons_mk (shut_string Try.underlying9 w0) trodAll_mk0, rfl, (below_of hg).frame _, fun h => by cases h⟩

theorem over : Rows.treeOnlyRow.holds Try.pinned (OpenSpec.ofChange Rows.treeOnlySpec) :=
  OpenClaim.holds_of_wide 4 Try.f4 rfl rfl rfl rfl rfl rfl rfl ⟨rfl, rfl, rfl, rfl, rfl⟩ rfl rfl rfl rfl rfl (by kernel_rfl) Try.func4 (by kernel_rfl)
    (of_decide_eq_true (by kernel_rfl)) (by unfold Func.isWrapper; first | (rw [if_pos (by decide +kernel)]; kernel_rfl) | (rw [if_neg (by decide +kernel)]; exact ⟨rfl, rfl⟩))
    (fun os started H enc _ => lifted os started H enc)

end Go.Proofs.Ytdiagemkfdfmfab.treeOnly

namespace Go.Proofs.Ytdiagemkfdfmfab
theorem treeOnly_holds : Rows.TreeOnlySaid := treeOnly.over
#print axioms treeOnly_holds
end Go.Proofs.Ytdiagemkfdfmfab
