/- The document's own DecodeNode by its contract. -/
import Derived.Test.YtjhhcdiipbjiaaaRefDec
namespace Go.Proofs.Ytjhhcdiipbjiaaa
open Go.ChangeShapes Go.WideShapes Go.ChangeAt Go.RowKit
set_option linter.unusedVariables false

theorem bs_neD (b : UInt8) (l : List UInt8) : (bs (b :: l)).toList.isEmpty = false := by simp [bs]

def DecPost (l : List UInt8) (w : World) (r : Ending) (w' : World) : Prop := w.grownBy w' none ∧ match pDecode l with
  | .ok t => ∃ v, r = .returned (.tuple #[v, .int .i64 0]) ∧ Lies (w.heap.size ≤ ·) w' t v
  | .error e => r = .returned (.tuple #[nodeV 0 0 0 ⟨#[]⟩ none 0 0, .int .i64 e])

set_option maxRecDepth 100000 in
set_option maxHeartbeats 2000000 in
theorem rdec_any (l : List UInt8) (hl : l.length ≤ maxLen) (w : World) : Calls Try.prog 29 #[.string (bs l)] w (DecPost l w) := by
  have hR := rr_all 24 (by omega) 24 300 0 l (w.alloc (.cells #[.int .i64 0, .int .i64 0, .int .i64 0, .string ⟨#[]⟩, .slice none 0 0] 34)) rfl rfl (by omega) hl
  have HRD := Lf.hide hR
  have HR := Lf.hide (heap_alloc_new w (.cells #[.int .i64 0, .int .i64 0, .int .i64 0, .string ⟨#[]⟩, .slice none 0 0] 34))
  have hdec : ∀ x, pNode 24 0 l = .error x → pDecode l = .error x := fun x h => by unfold pDecode; rw [h]
  have hdec1 : ∀ t n' l', pNode 24 0 l = .ok (t, n', l') → ¬ l' = [] → pDecode l = .error 1 := fun t n' l' h h2 => by unfold pDecode; rw [h]; simp only; rw [if_neg h2]
  have hdec0 : ∀ t n', pNode 24 0 l = .ok (t, n', []) → pDecode l = .ok t := fun t n' h => by unfold pDecode; rw [h]; simp
  have H1 := Lf.hide hdec
  have H2 := Lf.hide hdec1
  have H3 := Lf.hide hdec0
  have HSO := Lf.hide (fun t n' l' h => pNode_sound 24 (by omega) 0 l t n' l' (by omega) h)
  clear hR hdec hdec1 hdec0 hl
  generalize hs : bs l = s at *
  clear hs
  go_enter Try.func29, Try.ntmps29
  go_wp2_with fail
  refine HRD.out.mono ?_; rintro e w1 ⟨hg, hp⟩
  have hr1 := (hg.block _ (lt_of_block HR.out) (by simp)).trans HR.out
  obtain ⟨r0, r1, r2, r3, r4⟩ := box5 hr1
  obtain ⟨f0, f1, f2, f3, f4⟩ := box5f hr1
  have lr := lt_of_block hr1
  have HR1 := Lf.hide hr1
  have HG1 := Lf.hide (Lf.gbt (Lf.gb _) hg)
  cases hq : pNode 24 0 l with
  | error x =>
    rw [hq] at hp
    obtain ⟨hx, rfl⟩ := hp
    have HD := Lf.hide (H1.out x hq)
    have hx1 : (x == 0) = false := by simpa using hx
    clear hg hr1 hq HRD
    unfold nodeV
    go_wp2_with fail
    change bodyPost _ _ _ _ _ ((set5 w1 w.heap.size (.int .i64 0) (.int .i64 0) (.int .i64 0) (.string ⟨#[]⟩) (.slice none 0 0)).alloc (.cells #[.int .i64 0, .int .i64 0, .int .i64 0, .string ⟨#[]⟩, .slice none 0 0] 34))
    have hb' := heap_keep (o := .cells #[.int .i64 0, .int .i64 0, .int .i64 0, .string ⟨#[]⟩, .slice none 0 0] 34) (set5_block HR1.out (.int .i64 0) (.int .i64 0) (.int .i64 0) (.string ⟨#[]⟩) (.slice none 0 0))
    have hg' := Lf.gbt (grow_new HG1.out (set5_grow w1 w.heap.size (.int .i64 0) (.int .i64 0) (.int .i64 0) (.string ⟨#[]⟩) (.slice none 0 0)) (Nat.le_refl _)) (Lf.gb (.cells #[.int .i64 0, .int .i64 0, .int .i64 0, .string ⟨#[]⟩, .slice none 0 0] 34))
    generalize (set5 w1 w.heap.size (.int .i64 0) (.int .i64 0) (.int .i64 0) (.string ⟨#[]⟩) (.slice none 0 0)).alloc (.cells #[.int .i64 0, .int .i64 0, .int .i64 0, .string ⟨#[]⟩, .slice none 0 0] 34) = wf at *
    obtain ⟨z0, z1, z2, z3, z4⟩ := box5 hb'
    refine bodyPost_ret (v := .tuple #[nodeV 0 0 0 ⟨#[]⟩ none 0 0, .int .i64 x]) (by simp [results, Try.results29, go_sem, z0, z1, z2, z3, z4, nodeV]) rfl ⟨hg', ?_⟩
    rw [HD.out]
  | ok y =>
    obtain ⟨t, n', l'⟩ := y
    rw [hq] at hp
    obtain ⟨v, rfl, hLv⟩ := hp
    obtain ⟨kv, nv, pv, sv, av, lv, cv, rfl⟩ := hLv.nodeV
    have hn3 : n' ≤ 300 := (HSO.out t n' l' hq).2.2.1
    have hn4 : (n' : Int) - ((0 : Nat) : Int) ≤ 300 := by omega
    cases l' with
    | cons b0 l0 =>
      have HD := Lf.hide (H2.out t n' _ hq (by simp))
      have hsb := bs_neD b0 l0
      generalize bs (b0 :: l0) = s2 at *
      clear hg hr1 hq HRD hLv
      unfold nodeV
      go_wp2_with fail
      change bodyPost _ _ _ _ _ ((set5 w1 w.heap.size (.int .i64 0) (.int .i64 0) (.int .i64 0) (.string ⟨#[]⟩) (.slice none 0 0)).alloc (.cells #[.int .i64 kv, .int .i64 nv, .int .i64 pv, .string sv, .slice av lv cv] 34))
      have hb' := heap_keep (o := .cells #[.int .i64 kv, .int .i64 nv, .int .i64 pv, .string sv, .slice av lv cv] 34) (set5_block HR1.out (.int .i64 0) (.int .i64 0) (.int .i64 0) (.string ⟨#[]⟩) (.slice none 0 0))
      have hg' := Lf.gbt (grow_new HG1.out (set5_grow w1 w.heap.size (.int .i64 0) (.int .i64 0) (.int .i64 0) (.string ⟨#[]⟩) (.slice none 0 0)) (Nat.le_refl _)) (Lf.gb (.cells #[.int .i64 kv, .int .i64 nv, .int .i64 pv, .string sv, .slice av lv cv] 34))
      generalize (set5 w1 w.heap.size (.int .i64 0) (.int .i64 0) (.int .i64 0) (.string ⟨#[]⟩) (.slice none 0 0)).alloc (.cells #[.int .i64 kv, .int .i64 nv, .int .i64 pv, .string sv, .slice av lv cv] 34) = wf at *
      obtain ⟨z0, z1, z2, z3, z4⟩ := box5 hb'
      refine bodyPost_ret (v := .tuple #[nodeV 0 0 0 ⟨#[]⟩ none 0 0, .int .i64 1]) (by simp [results, Try.results29, go_sem, z0, z1, z2, z3, z4, nodeV]) rfl ⟨hg', ?_⟩
      rw [HD.out]
    | nil =>
      have HD := Lf.hide (H3.out t n' hq)
      have hsb : (bs []).toList.isEmpty = true := by simp [bs]
      generalize bs [] = s2 at *
      have HLV := Lf.hide hLv
      clear hg hr1 hq HRD hLv
      unfold nodeV
      go_wp2_with fail
      change bodyPost _ _ _ _ _ ((set5 w1 w.heap.size (.int .i64 kv) (.int .i64 nv) (.int .i64 pv) (.string sv) (.slice av lv cv)).alloc (.cells #[.int .i64 kv, .int .i64 nv, .int .i64 pv, .string sv, .slice av lv cv] 34))
      have hb' := heap_keep (o := .cells #[.int .i64 kv, .int .i64 nv, .int .i64 pv, .string sv, .slice av lv cv] 34) (set5_block HR1.out (.int .i64 kv) (.int .i64 nv) (.int .i64 pv) (.string sv) (.slice av lv cv))
      have hgs := grow_trans (set5_grow w1 w.heap.size (.int .i64 kv) (.int .i64 nv) (.int .i64 pv) (.string sv) (.slice av lv cv)) (grow_any (Lf.gb (.cells #[.int .i64 kv, .int .i64 nv, .int .i64 pv, .string sv, .slice av lv cv] 34)))
      have hg' := grow_new HG1.out hgs (Nat.le_refl _)
      generalize (set5 w1 w.heap.size (.int .i64 kv) (.int .i64 nv) (.int .i64 pv) (.string sv) (.slice av lv cv)).alloc (.cells #[.int .i64 kv, .int .i64 nv, .int .i64 pv, .string sv, .slice av lv cv] 34) = wf at *
      obtain ⟨z0, z1, z2, z3, z4⟩ := box5 hb'
      refine bodyPost_ret (v := .tuple #[nodeV kv nv pv sv av lv cv, .int .i64 0]) (by simp [results, Try.results29, go_sem, z0, z1, z2, z3, z4, nodeV]) rfl ⟨hg', ?_⟩
      rw [HD.out]
      refine ⟨_, rfl, ?_⟩
      exact (HLV.out.same (w' := wf) (fun b o hb hlt => World.cell?_of_block (hgs.block b hlt (by have : (w.alloc _).heap.size ≤ b := hb; rw [World.size_alloc] at this; simp; omega)))).okMono (fun b _ hb => by have : (w.alloc _).heap.size ≤ b := hb; rw [World.size_alloc] at this; show _ ≤ b; omega)

end Go.Proofs.Ytjhhcdiipbjiaaa
