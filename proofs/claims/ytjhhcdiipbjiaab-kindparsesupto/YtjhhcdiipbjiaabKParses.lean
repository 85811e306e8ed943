/- For every tree of bulk at most 1048576, KindParses returns true and leaves its argument as it was: Parse answers as the document's own ParseType does, errors too. Condition: what is read holds at most 1048576 values and letters. -/
import Derived.Test.YtjhhcdiipbjiaabRows
import Derived.Test.YtjhhcdiipbjiaabNamesL
import Derived.Test.YtjhhcdiipbjiaabOpen
import Derived.Test.YtjhhcdiipbjiaabRefParse
import Derived.Test.YtjhhcdiipbjiaabRefSame
namespace Go.Proofs.Ytjhhcdiipbjiaab.kindParses
open Go.ChangeShapes Go.WideShapes Go.ChangeAt Go.RowKit
set_option linter.unusedVariables false

theorem hkeepP {W w' : World} {b : Nat} {o : Obj} (h : W.heap[b]? = some o) (hg : W.grownBy w' none) : w'.heap[b]? = some o := (hg.block b (lt_of_block h) (by simp)).trans h

theorem parse_res {t : Tr} {W w1 : World} {e : Ending} (hp : (parseB t = true ∧ ∃ u, e = .returned (.tuple #[u, .int .i64 0]) ∧ LiesT (W.heap.size ≤ ·) w1 (readT t) u) ∨ (parseB t = false ∧ e = .returned (.tuple #[tyV 0 none 0 0, .int .i64 1]))) :
    ∃ kn an ln cn, ∃ (tn : Ty) (en : Int), e = .returned (.tuple #[tyV kn an ln cn, .int .i64 en]) ∧ LiesT (fun _ => True) w1 tn (tyV kn an ln cn) ∧ tn = (if parseB t = true then readT t else .nd 0 []) ∧ en = (if parseB t = true then 0 else 1) := by
  rcases hp with ⟨h, u, rfl, hL⟩ | ⟨h, rfl⟩
  · obtain ⟨k, a, l, c, rfl⟩ := hL.tyV
    exact ⟨k, a, l, c, _, 0, rfl, hL.okMono (fun _ _ _ => trivial), by rw [if_pos h], by rw [if_pos h]⟩
  · exact ⟨0, none, 0, 0, .nd 0 [], 1, rfl, liesT_zero, by rw [if_neg (by rw [h]; simp)], by rw [if_neg (by rw [h]; simp)]⟩

set_option maxRecDepth 100000 in
set_option maxHeartbeats 2000000 in
theorem walk {w : World} {t : Tr} {v : Value} (hL : Lies (· < w.heap.size) w t v) (hz : t.size ≤ 1048576) :
    Calls Try.prog 7 #[v] w fun e w' => e = .returned (.bool true) ∧ w.grownBy w' none := by
  obtain ⟨k, n, p, s, a, l, c, rfl, hl⟩ := hL.form
  have HB0 := Lf.hide (heap_alloc_new w (.cells #[.int .i64 k, .int .i64 n, .int .i64 p, .string s, .slice a l c] 24))
  have HG0 := Lf.hide (Lf.gb (w := w) (.cells #[.int .i64 k, .int .i64 n, .int .i64 p, .string s, .slice a l c] 24))
  have HL := Lf.hide hL
  clear hL
  unfold maxLen at hl
  unfold nodeV at HL ⊢
  go_enter Try.func7, Try.ntmps7
  go_wp2_with fail
  refine (parse_any (HL.out.grow HG0.out)).mono ?_; rintro e w1 ⟨hg, hp⟩
  obtain ⟨ku, au, lu, cu, tu, eu, rfl, hLu, htu, heu⟩ := parse_res hp
  have hb1 := hkeepP HB0.out hg
  obtain ⟨y0, y1, y2, y3, y4⟩ := box5 hb1
  have ylt := lt_of_block hb1
  have HB1 := Lf.hide (heap_keep (o := .cells #[.int .i64 ku, .slice au lu cu] 39) hb1)
  have HBU := Lf.hide (heap_alloc_new w1 (.cells #[.int .i64 ku, .slice au lu cu] 39))
  have HG1 := Lf.hide (Lf.gbt HG0.out (Lf.gbt hg (Lf.gb (.cells #[.int .i64 ku, .slice au lu cu] 39))))
  have HLU := Lf.hide (hLu.same (sameTrue (Lf.gb (.cells #[.int .i64 ku, .slice au lu cu] 39))))
  have HTU := Lf.hide htu
  have HEU := Lf.hide heu
  clear hg hp hLu htu heu hb1
  unfold tyV
  go_wp2_with fail
  refine (rparse_any (HL.out.grow HG1.out) (by omega)).mono ?_; rintro e w2 ⟨hg, hp⟩
  obtain ⟨kv, av, lv, cv, tv, ev, rfl, hLv, htv, hev⟩ := parse_res hp
  have hee : ev = eu := by rw [hev, HEU.out]
  have htt : tv = tu := by rw [htv, HTU.out]
  subst hee
  subst htt
  have hbu := heap_keep (o := .cells #[.int .i64 kv, .slice av lv cv] 39) (hkeepP HBU.out hg)
  have u0 := cell0_of hbu
  have u1 := cell1_of hbu
  have ult := lt_of_block (hkeepP HBU.out hg)
  have uu0 := cell0_of (hkeepP HBU.out hg)
  have uu1 := cell1_of (hkeepP HBU.out hg)
  have HLA := Lf.hide (HLU.out.same (sameTrue (Lf.gbt hg (Lf.gb (.cells #[.int .i64 kv, .slice av lv cv] 39)))))
  have HLB := Lf.hide (hLv.same (sameTrue (Lf.gb (.cells #[.int .i64 kv, .slice av lv cv] 39))))
  have HG2 := Lf.hide (Lf.gbt HG1.out (Lf.gbt hg (Lf.gb (.cells #[.int .i64 kv, .slice av lv cv] 39))))
  clear hg hp hLv htv hev hbu y0 y1 y2 y3 y4 ylt hz
  unfold tyV at HLA HLB HLU ⊢
  go_wp2_with fail
  refine (rsame_any HLA.out _ _ _ (grow_refl _ _) HLB.out).mono ?_; rintro e w3 ⟨rfl, hg⟩
  rw [sameT_refl]
  have HG3 := Lf.hide (Lf.gbt HG2.out hg)
  clear hg
  go_wp2_with fail
  refine (namesL_any _).mono ?_; rintro e w4 ⟨rfl, hg⟩
  have HG4 := Lf.hide (Lf.gbt HG3.out hg)
  clear hg
  go_wp2_with fail
  go_ret
  exact ⟨rfl, HG4.out⟩

theorem own : ownKnob Try.prog.godebug = none := by kernel_rfl
theorem laidOut : laidOutB Try.prog = true := by kernel_rfl

theorem below_of {w w' : World} (h : w.grownBy w' none) : Below w.heap.size w w' := ⟨h.os, h.tape, h.output, h.size, fun k hk => h.block k hk (by simp)⟩

theorem contract (H : Type) (enc : TypeId × Value → H) (W : World) (base : Nat) (args : Array Value) (ds gs : List (DataW H)) (before : List MemPlace)
    (hval : ∀ (j : Nat) t v, Try.f7.params[j]? = some t → args[j]? = some v → Value.okWide Try.prog W .any base t v)
    (hW : DataW.Whole enc Try.prog Try.f7.params.toList Rows.kindParsesSpec.vars false W args.toList ds gs before) (hk : Rows.uptoSmall H (ds ++ gs) = true) :
    Calls Try.prog 7 args W fun e W' => ∃ v, e = .returned v ∧ Rows.kindParsesSpec.post enc Try.prog Try.f7 false true false false W args v W' := by
  have hW' := hW
  obtain ⟨p, q, hA0, hV, rfl, hfz, hnd⟩ := hW
  have hA : DataW.TrodAll enc Try.prog W 0 (fun _ => true) true Try.f7.params.toList args.toList ds p := hA0
  rw [Try.params7] at hA hval
  obtain ⟨v0, vs0, d0, ds0, p0, q0, hargs, rfl, rfl, h0, r0⟩ := trodAll_cons hA
  obtain ⟨rfl, rfl, rfl⟩ := trodAll_nil r0
  obtain rfl : args = #[v0] := by cases args; simp_all
  obtain ⟨rfl, rfl⟩ := trodVars_none hV
  have hb := of_decide_eq_true hk
  simp only [List.append_nil, Rows.uptoBulkAll] at hb
  obtain ⟨t, hL, hs⟩ := open_arg (hval 0 24 v0 rfl rfl) h0
  clear hA0
  simp only [List.append_nil] at hW'
  have hlt : ∀ x ∈ p0, x.block < W.heap.size := fun x hx => by simpa using hW'.lt x hx
  refine (walk hL (by omega)).mono fun e W' ⟨he, hg⟩ => ?_
  subst he
  have hB := below_of hg
  exact ⟨_, rfl, _, _, _, [], p0 ++ [], [], hW', trodAll_cons_mk (shut_bool Try.underlying4 _) trodAll_mk0, trodAll_cons_mk (Below.trod laidOut (by kernel_rfl) (of_decide_eq_true (by kernel_rfl)) h0 hB hlt) trodAll_mk0, rfl, hB.frame _, fun h => by cases h⟩

set_option maxRecDepth 100000 in
theorem lifted (os : Os) (started : os.Started) (H : Type) (enc : TypeId × Value → H) (F : Stop.Interp) :
    ReturnsInHanded {} Try.checked os 7 .any ((Rows.OpenSpec.upto Rows.kindParsesSpec).pre6 enc Try.prog Try.f7 Rows.kindParsesUptoRow.domain false) (((Rows.OpenSpec.upto Rows.kindParsesSpec).at F).post enc Try.prog Try.f7 false true false false) := by
  refine returnsInHanded_of_cond (C := Try.checked) (s := Rows.OpenSpec.upto Rows.kindParsesSpec) (k := Rows.uptoSmall) rfl own started (by kernel_rfl) Try.func7
    (OpenSpec.witness (enc := enc) (C := Try.checked) (s := Rows.OpenSpec.upto Rows.kindParsesSpec) (k := Rows.uptoSmall) rfl false ⟨#[], #[.agg #[.int .i64 0, .int .i64 0, .int .i64 0, .string .empty, .slice none 0 0]], []⟩ 8 (by kernel_rfl) (by kernel_rfl) (by kernel_rfl)
      (x := ([.agg [.lit (.int .i64 0), .lit (.int .i64 0), .lit (.int .i64 0), .lit (.string []), .nil]], [], [])) (by kernel_rfl) rfl (by kernel_rfl)) ?_
  intro W base args ds gs before hval hW _ hk _
  exact contract H enc W base args ds gs before hval hW hk

theorem over : Rows.kindParsesUptoRow.holds Try.pinned (Rows.OpenSpec.upto Rows.kindParsesSpec) :=
  OpenClaim.holds_of_cond 7 Try.f7 rfl rfl rfl rfl rfl rfl rfl ⟨rfl, rfl, rfl, rfl, rfl⟩ rfl rfl rfl rfl rfl (by kernel_rfl) Try.func7 (by kernel_rfl)
    (of_decide_eq_true (by kernel_rfl)) (by unfold Func.isWrapper; first | (rw [if_pos (by decide +kernel)]; kernel_rfl) | (rw [if_neg (by decide +kernel)]; exact ⟨rfl, rfl⟩))
    (fun os started H enc _ F => lifted os started H enc F)

end Go.Proofs.Ytjhhcdiipbjiaab.kindParses

namespace Go.Proofs.Ytjhhcdiipbjiaab
theorem kindParses_holds : Rows.KindParsesUptoSaid := kindParses.over
#print axioms kindParses_holds
end Go.Proofs.Ytjhhcdiipbjiaab
