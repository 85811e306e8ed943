/- For all bytes, TreeDecodes returns true and leaves its argument as it was: Decode answers as the document's own DecodeNode does, errors too. No condition. -/
import Derived.Test.YtjhhcdiipbjiaaaRows
import Derived.Test.YtjhhcdiipbjiaaaRefDec2
import Derived.ShutString
namespace Go.Proofs.Ytjhhcdiipbjiaaa.treeDecodes
open Go.ChangeShapes Go.WideShapes Go.ChangeAt Go.RowKit
open Go.ChangeMaps (open_string shut_string)
set_option linter.unusedVariables false

/-- what Decode and DecodeNode answer: one and the same -/
theorem dec_res {l : List UInt8} (hl : l.length ≤ maxLen) (w : World) : Calls Try.prog 28 #[.string (bs l)] w (DecPost l w) := by
  cases hq : pDecode l with
  | error x =>
    refine (decode_no hq hl w).mono ?_
    rintro e w1 ⟨rfl, _, hg⟩
    exact ⟨hg, by rw [hq]⟩
  | ok t =>
    refine (decode_ok hq hl w).mono ?_
    rintro e w1 ⟨v, rfl, hL, hg⟩
    exact ⟨hg, by rw [hq]; exact ⟨v, rfl, hL⟩⟩

theorem dec_form {l : List UInt8} {w w1 : World} {e : Ending} (hp : DecPost l w e w1) : ∃ ka na pa sa aa la ca, ∃ (ta : Tr) (ea : Int), e = .returned (.tuple #[nodeV ka na pa sa aa la ca, .int .i64 ea]) ∧ Lies (fun _ => True) w1 ta (nodeV ka na pa sa aa la ca) ∧ w.grownBy w1 none ∧
    ta = (match pDecode l with | .ok t => t | .error _ => .nd 0 0 0 (bs []) []) ∧ ea = (match pDecode l with | .ok _ => 0 | .error x => x) := by
  obtain ⟨hg, hp⟩ := hp
  cases hq : pDecode l with
  | error x =>
    rw [hq] at hp
    simp only at hp
    exact ⟨0, 0, 0, ⟨#[]⟩, none, 0, 0, .nd 0 0 0 (bs []) [], x, hp, lies_leaf (by rw [bs_size]; simp) ⟨by omega, by omega⟩ ⟨by omega, by omega⟩ ⟨by omega, by omega⟩, hg, rfl, rfl⟩
  | ok t =>
    rw [hq] at hp
    obtain ⟨v, rfl, hL⟩ := hp
    obtain ⟨k, n, p, s, a, l, c, rfl⟩ := hL.nodeV
    exact ⟨k, n, p, s, a, l, c, t, 0, rfl, hL.okMono (fun _ _ _ => trivial), hg, rfl, rfl⟩

theorem hkeepQ {W w' : World} {b : Nat} {o : Obj} (h : W.heap[b]? = some o) (hg : W.grownBy w' none) : w'.heap[b]? = some o := (hg.block b (lt_of_block h) (by simp)).trans h

set_option maxHeartbeats 1000000 in
theorem walk (l : List UInt8) (hl : l.length ≤ maxLen) (w : World) :
    Calls Try.prog 8 #[.string (bs l)] w fun e w' => e = .returned (.bool true) ∧ w.grownBy w' none := by
  have HD := Lf.hide (dec_res hl w)
  have HE := Lf.hide (rdec_any l hl)
  clear hl
  generalize hs : bs l = s at *
  clear hs
  go_enter Try.func8, Try.ntmps8
  go_wp2_with fail
  refine HD.out.mono ?_; rintro e w1 hp
  obtain ⟨ka, na, pa, sa, aa, la, ca, ta, ea, rfl, hLa, hg1, hta, hea⟩ := dec_form hp
  have HTA := Lf.hide hta
  have HEA := Lf.hide hea
  have HBA := Lf.hide (heap_alloc_new w1 (.cells #[.int .i64 ka, .int .i64 na, .int .i64 pa, .string sa, .slice aa la ca] 34))
  have HLA := Lf.hide (hLa.same (same_none (Lf.gb (.cells #[.int .i64 ka, .int .i64 na, .int .i64 pa, .string sa, .slice aa la ca] 34))))
  have HG1 := Lf.hide (Lf.gbt hg1 (Lf.gb (.cells #[.int .i64 ka, .int .i64 na, .int .i64 pa, .string sa, .slice aa la ca] 34)))
  clear hp hLa hg1 hta hea HD
  unfold nodeV
  go_wp2_with fail
  refine (HE.out _).mono ?_; rintro e w2 hp
  obtain ⟨kb, nb, pb, sb, ab, lb, cb, tb, eb, rfl, hLb, hg2, htb, heb⟩ := dec_form hp
  have hee : eb = ea := by rw [heb, HEA.out]
  have htt : tb = ta := by rw [htb, HTA.out]
  subst hee
  subst htt
  have hba := hkeepQ HBA.out hg2
  obtain ⟨x0, x1, x2, x3, x4⟩ := box5 hba
  have xl := lt_of_block hba
  have HA := Lf.hide (HLA.out.same (same_none (Lf.gbt hg2 (Lf.gb (.cells #[.int .i64 kb, .int .i64 nb, .int .i64 pb, .string sb, .slice ab lb cb] 34)))))
  have HB := Lf.hide (hLb.same (same_none (Lf.gb (.cells #[.int .i64 kb, .int .i64 nb, .int .i64 pb, .string sb, .slice ab lb cb] 34))))
  have HG2 := Lf.hide (Lf.gbt HG1.out (Lf.gbt hg2 (Lf.gb (.cells #[.int .i64 kb, .int .i64 nb, .int .i64 pb, .string sb, .slice ab lb cb] 34))))
  clear hp hLb hg2 htb heb hba HTA HEA HE HLA
  unfold nodeV at HA HB ⊢
  go_wp2_with fail
  refine (alike_any HA.out _ _ (grow_refl _ _) HB.out).mono ?_; rintro e w3 ⟨rfl, hg⟩
  have HG3 := Lf.hide (Lf.gbt HG2.out hg)
  clear hg
  go_wp2_with fail
  refine (grows_any _).mono ?_; rintro e w4 ⟨rfl, hg⟩
  have HG4 := Lf.hide (Lf.gbt HG3.out hg)
  clear hg
  go_wp2_with fail
  go_ret
  exact ⟨rfl, HG4.out⟩

theorem own : ownKnob Try.prog.godebug = none := by kernel_rfl

theorem below_of {w w' : World} (h : w.grownBy w' none) : Below w.heap.size w w' := ⟨h.os, h.tape, h.output, h.size, fun k hk => h.block k hk (by simp)⟩

set_option maxRecDepth 100000 in
theorem lifted (os : Os) (started : os.Started) (H : Type) (enc : TypeId × Value → H) :
    ReturnsInHanded {} Try.checked os 8 .any (Rows.treeDecodesSpec.pre6 enc Try.prog Try.f8 Rows.treeDecodesRow.domain false) (Rows.treeDecodesSpec.post enc Try.prog Try.f8 false true false false) := by
  refine returnsInHanded_of_change (C := Try.checked) own started (by kernel_rfl) Try.func8
    (ChangeSpec.witness6 (enc := enc) (C := Try.checked) false ⟨#[], #[.string ByteArray.empty], []⟩ 8 (by kernel_rfl) (by kernel_rfl) (by kernel_rfl) (by kernel_rfl)) ?_
  intro W base args ds gs before hval0 hW hcnd _
  have hval : ∀ (j : Nat) t v, Try.f8.params[j]? = some t → args[j]? = some v → Value.okWide Try.prog W .any base t v := hval0
  have hW' := hW
  obtain ⟨p, q, hA0, hV, rfl, hfz, hnd⟩ := hW
  have hA : DataW.TrodAll enc Try.prog W 0 (fun _ => true) true Try.f8.params.toList args.toList ds p := hA0
  rw [Try.params8] at hA hval
  obtain ⟨v0, vs0, d0, ds0, p0, q0, hargs, rfl, rfl, h0, r0⟩ := trodAll_cons hA
  obtain ⟨rfl, rfl, rfl⟩ := trodAll_nil r0
  obtain rfl : args = #[v0] := by cases args; simp_all
  obtain ⟨rfl, rfl⟩ := trodVars_none hV
  obtain ⟨a0, rfl, rfl, rfl, w0⟩ := open_string Try.underlying9 (hval 0 9 v0 rfl rfl) h0
  clear hA0 hval0
  simp only [List.append_nil] at hW'
  have hwalk := walk a0.data.toList (by simpa using w0) W
  rw [bs_of] at hwalk
  refine hwalk.mono fun e W' ⟨he, hg⟩ => ?_
  subst he
  exact ⟨_, rfl, _, _, _, [], [], [], hW', trodAll_cons_mk (shut_bool Try.underlying4 _) trodAll_mk0, trodAll_cons_mk (shut_string Try.underlying9 w0) trodAll_mk0, rfl, (below_of hg).frame _, fun h => by cases h⟩

theorem over : Rows.treeDecodesRow.holds Try.pinned (OpenSpec.ofChange Rows.treeDecodesSpec) :=
  OpenClaim.holds_of_wide 8 Try.f8 rfl rfl rfl rfl rfl rfl rfl ⟨rfl, rfl, rfl, rfl, rfl⟩ rfl rfl rfl rfl rfl (by kernel_rfl) Try.func8 (by kernel_rfl)
    (of_decide_eq_true (by kernel_rfl)) (by unfold Func.isWrapper; first | (rw [if_pos (by decide +kernel)]; kernel_rfl) | (rw [if_neg (by decide +kernel)]; exact ⟨rfl, rfl⟩))
    (fun os started H enc _ => lifted os started H enc)

end Go.Proofs.Ytjhhcdiipbjiaaa.treeDecodes

namespace Go.Proofs.Ytjhhcdiipbjiaaa
theorem treeDecodes_holds : Rows.TreeDecodesSaid := treeDecodes.over
#print axioms treeDecodes_holds
end Go.Proofs.Ytjhhcdiipbjiaaa
