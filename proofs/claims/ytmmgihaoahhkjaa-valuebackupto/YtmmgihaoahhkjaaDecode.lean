/- tree.Decode by its contract: what is read as a tree, or what is wrong. -/
import Derived.Test.YtmmgihaoahhkjaaNode
namespace Go.Proofs.Ytmmgihaoahhkjaa
set_option maxRecDepth 20000
open Go.ChangeShapes Go.WideShapes Go.ChangeAt Go.RowKit
set_option linter.unusedVariables false

def pDecode (l : List UInt8) : Except Int Tr := match pNode 24 0 l with
  | .ok (t, _, l') => if l' = [] then .ok t else .error 1
  | .error e => .error e

theorem rd_new (w : World) (l : List UInt8) (o : Obj) : Rd ((w.alloc o).alloc (.cells #[.string (bs l), .int .i64 0, .int .i64 0] 115)) (w.heap.size + 1) (bs l) 0 0 := by
  unfold Rd
  have h2 := heap_alloc_new (w.alloc o) (.cells #[.string (bs l), .int .i64 0, .int .i64 0] 115)
  rw [show (w.alloc o).heap.size = w.heap.size + 1 from by simp] at h2
  exact h2

theorem grow_two {w w' : World} {o o' : Obj} (h : ((w.alloc o).alloc o').grownBy w' (some (w.heap.size + 1))) : w.grownBy w' none :=
  grow_new (r := none) (Lf.gbt (Lf.gb _) (Lf.gb _)) h (by omega)

set_option maxHeartbeats 400000 in
theorem decode_ok {l : List UInt8} {t : Tr} (hp : pDecode l = .ok t) (hl : l.length ≤ maxLen) (w : World) :
    Calls Try.prog 50 #[.string (bs l)] w fun r w' => ∃ v, r = .returned (.tuple #[v, .int .i64 0]) ∧ Lies (w.heap.size ≤ ·) w' t v ∧ w.grownBy w' none := by
  have hN := nodeR_ok 24 (by omega) _ _ 0 l (rd_new w l (.cells #[.int .i64 0, .int .i64 0, .int .i64 0, .string ⟨#[]⟩, .slice none 0 0] 39)) hl (by omega)
  rw [show ((25 - 24 : Nat) : Int) = 1 from rfl] at hN
  unfold pDecode at hp
  cases hq : pNode 24 0 l with
  | error e => rw [hq] at hp; simp at hp
  | ok r =>
    obtain ⟨t', n', l'⟩ := r
    rw [hq] at hp
    simp only at hp
    by_cases hl' : l' = []
    · rw [if_pos hl'] at hp
      injection hp with hp
      subst hp; subst hl'
      have HN := Lf.hide hN
      have HQ := Lf.hide hq
      clear hN hq
      have hbs : (bs []).toList = [] := by simp [bs]
      generalize bs l = s at *
      go_enter Try.func50, Try.ntmps50
      go_wp2_with fail
      refine HN.out.mono ?_; rintro e y ⟨hgy, hpy⟩
      rw [HQ.out] at hpy
      obtain ⟨v, rfl, hLv, hRy⟩ := hpy
      obtain ⟨k, m, p, st, a, q, c, rfl⟩ := hLv.nodeV
      unfold nodeV
      have hRb := box_keep (res_new w _ _) hgy (by omega)
      obtain ⟨q0, q1, q2, q3, q4⟩ := box5 hRb
      obtain ⟨g0, g1, g2, g3, g4⟩ := box5f hRb
      obtain ⟨c0, c1, c2, f0, f1, f2⟩ := hRy.cells
      have hRlt := (Array.getElem?_eq_some_iff.1 hRb).1
      have hrlt := hRy.lt
      have HRB := Lf.hide hRb
      have HLV := Lf.hide hLv
      have HG := Lf.hide hgy
      clear hLv hgy hRb hRy
      go_wp2_with fail
      change bodyPost _ _ _ _ _ ((set5 y w.heap.size (.int .i64 k) (.int .i64 m) (.int .i64 p) (.string st) (.slice a q c)).alloc (.cells #[.int .i64 k, .int .i64 m, .int .i64 p, .string st, .slice a q c] 39))
      have hb' := set5_block HRB.out (.int .i64 k) (.int .i64 m) (.int .i64 p) (.string st) (.slice a q c)
      have hg' := set5_grow y w.heap.size (.int .i64 k) (.int .i64 m) (.int .i64 p) (.string st) (.slice a q c)
      have hb2 := (heap_alloc_old (set5 y w.heap.size (.int .i64 k) (.int .i64 m) (.int .i64 p) (.string st) (.slice a q c)) (.cells #[.int .i64 k, .int .i64 m, .int .i64 p, .string st, .slice a q c] 39) (Array.getElem?_eq_some_iff.1 hb').1).trans hb'
      have hg2 := grow_trans hg' (grow_any (Lf.gb (w := set5 y w.heap.size (.int .i64 k) (.int .i64 m) (.int .i64 p) (.string st) (.slice a q c)) (.cells #[.int .i64 k, .int .i64 m, .int .i64 p, .string st, .slice a q c] 39)))
      generalize (set5 y w.heap.size (.int .i64 k) (.int .i64 m) (.int .i64 p) (.string st) (.slice a q c)).alloc (.cells #[.int .i64 k, .int .i64 m, .int .i64 p, .string st, .slice a q c] 39) = wf at *
      obtain ⟨z0, z1, z2, z3, z4⟩ := box5 hb2
      refine bodyPost_ret (v := .tuple #[nodeV k m p st a q c, .int .i64 0]) (by simp [results, Try.results50, go_sem, z0, z1, z2, z3, z4, nodeV]) rfl ?_
      refine ⟨_, rfl, ?_, grow_new (grow_two HG.out) hg2 (Nat.le_refl _)⟩
      refine (HLV.out.same (w' := wf) ?_).okMono (fun b _ hb => by have : ((w.alloc _).alloc _).heap.size ≤ b := hb; simp at this; show _ ≤ b; omega)
      intro b o hb hlt
      have hb3 : ((w.alloc _).alloc _).heap.size ≤ b := hb
      simp at hb3
      exact World.cell?_of_block (hg2.block b hlt (by simp; omega))
    · rw [if_neg hl'] at hp; simp at hp


set_option maxHeartbeats 1000000 in
theorem decode_left {l l' : List UInt8} {t' : Tr} {n' : Nat} (hq : pNode 24 0 l = .ok (t', n', l')) (hl' : ¬ l' = []) (hl : l.length ≤ maxLen) (w : World) :
    Calls Try.prog 50 #[.string (bs l)] w fun r w' => r = .returned (.tuple #[nodeV 0 0 0 ⟨#[]⟩ none 0 0, .int .i64 1]) ∧ (1 : Int) ≠ 0 ∧ w.grownBy w' none := by
  have hN := nodeR_ok 24 (by omega) _ _ 0 l (rd_new w l (.cells #[.int .i64 0, .int .i64 0, .int .i64 0, .string ⟨#[]⟩, .slice none 0 0] 39)) hl (by omega)
  rw [show ((25 - 24 : Nat) : Int) = 1 from rfl] at hN
  have HN := Lf.hide hN
  have HQ := Lf.hide hq
  clear hN hq
  have hbs : (bs l').toList.isEmpty = false := by simpa [bs] using hl'
  generalize bs l = s at *
  go_enter Try.func50, Try.ntmps50
  go_wp2_with fail
  refine HN.out.mono ?_; rintro e' y ⟨hgy, hpy⟩
  rw [HQ.out] at hpy
  obtain ⟨v, rfl, hLv, hRy⟩ := hpy
  obtain ⟨k, m, p, st, a, q, c, rfl⟩ := hLv.nodeV
  unfold nodeV
  have hRb := box_keep (res_new w (.cells #[.int .i64 0, .int .i64 0, .int .i64 0, .string ⟨#[]⟩, .slice none 0 0] 39) (.cells #[.string s, .int .i64 0, .int .i64 0] 115)) hgy (by omega)
  obtain ⟨c0, c1, c2, f0, f1, f2⟩ := hRy.cells
  have hRlt := (Array.getElem?_eq_some_iff.1 hRb).1
  have hrlt := hRy.lt
  have HRB0 := Lf.hide hRb
  have HG := Lf.hide hgy
  have HRD := Lf.hide hRy
  obtain ⟨q0, q1, q2, q3, q4⟩ := box5 hRb
  obtain ⟨g0, g1, g2, g3, g4⟩ := box5f hRb
  clear hgy hRb hRy hLv
  generalize bs l' = s' at *
  go_wp2_with fail
  refine (fail_ok (HRD.out.alloc (.cells #[.int .i64 k, .int .i64 m, .int .i64 p, .string st, .slice a q c] 39)) 1).mono ?_; rintro e' y2 ⟨rfl, hR2, hgy2⟩
  have hRb2 := box_keep ((heap_alloc_old y (.cells #[.int .i64 k, .int .i64 m, .int .i64 p, .string st, .slice a q c] 39) hRlt).trans HRB0.out) hgy2 (by omega)
  obtain ⟨q0, q1, q2, q3, q4⟩ := box5 hRb2
  obtain ⟨g0, g1, g2, g3, g4⟩ := box5f hRb2
  obtain ⟨x0, x1, x2, x3, x4, x5⟩ := hR2.cells
  have HRB := Lf.hide hRb2
  have HG2 := Lf.hide hgy2
  clear hgy2 hRb2 hR2
  go_wp2_with fail
  go_region
  go_wp2_with fail
  change bodyPost _ _ _ _ _ (set5 y2 w.heap.size (.int .i64 0) (.int .i64 0) (.int .i64 0) (.string ⟨#[]⟩) (.slice none 0 0)).drew
  have hb' := set5_block HRB.out (.int .i64 0) (.int .i64 0) (.int .i64 0) (.string ⟨#[]⟩) (.slice none 0 0)
  have hb2 : (set5 y2 w.heap.size (.int .i64 0) (.int .i64 0) (.int .i64 0) (.string ⟨#[]⟩) (.slice none 0 0)).drew.heap[w.heap.size]? = _ := hb'
  have hg2 : y2.grownBy (set5 y2 w.heap.size (.int .i64 0) (.int .i64 0) (.int .i64 0) (.string ⟨#[]⟩) (.slice none 0 0)).drew (some w.heap.size) := grow_drew (set5_grow y2 w.heap.size (.int .i64 0) (.int .i64 0) (.int .i64 0) (.string ⟨#[]⟩) (.slice none 0 0))
  generalize (set5 y2 w.heap.size (.int .i64 0) (.int .i64 0) (.int .i64 0) (.string ⟨#[]⟩) (.slice none 0 0)).drew = wf at *
  obtain ⟨z0, z1, z2, z3, z4⟩ := box5 hb2
  refine bodyPost_ret (v := .tuple #[nodeV 0 0 0 ⟨#[]⟩ none 0 0, .int .i64 1]) (by simp [results, Try.results50, go_sem, z0, z1, z2, z3, z4, nodeV]) rfl ?_
  exact ⟨rfl, by decide, grow_new (grow_new (Lf.gbt (grow_two HG.out) (Lf.gb (.cells #[.int .i64 k, .int .i64 m, .int .i64 p, .string st, .slice a q c] 39))) HG2.out (by omega)) hg2 (Nat.le_refl _)⟩


set_option maxHeartbeats 1000000 in
theorem decode_no {l : List UInt8} {x : Int} (hp : pDecode l = .error x) (hl : l.length ≤ maxLen) (w : World) :
    Calls Try.prog 50 #[.string (bs l)] w fun r w' => r = .returned (.tuple #[nodeV 0 0 0 ⟨#[]⟩ none 0 0, .int .i64 x]) ∧ x ≠ 0 ∧ w.grownBy w' none := by
  have hN := nodeR_ok 24 (by omega) _ _ 0 l (rd_new w l (.cells #[.int .i64 0, .int .i64 0, .int .i64 0, .string ⟨#[]⟩, .slice none 0 0] 39)) hl (by omega)
  rw [show ((25 - 24 : Nat) : Int) = 1 from rfl] at hN
  unfold pDecode at hp
  cases hq : pNode 24 0 l with
  | error e =>
    rw [hq] at hp
    injection hp with hp
    subst hp
    have HN := Lf.hide hN
    have HQ := Lf.hide hq
    clear hN hq
    generalize bs l = s at *
    go_enter Try.func50, Try.ntmps50
    go_wp2_with fail
    refine HN.out.mono ?_; rintro e' y ⟨hgy, hpy⟩
    rw [HQ.out] at hpy
    obtain ⟨he, ⟨k, m, p, st, a, q, c, rfl⟩, s', m', hs', hRy⟩ := hpy
    unfold nodeV
    have hRb := box_keep (res_new w _ _) hgy (by omega)
    obtain ⟨q0, q1, q2, q3, q4⟩ := box5 hRb
    obtain ⟨g0, g1, g2, g3, g4⟩ := box5f hRb
    obtain ⟨c0, c1, c2, f0, f1, f2⟩ := hRy.cells
    have hRlt := (Array.getElem?_eq_some_iff.1 hRb).1
    have hrlt := hRy.lt
    have HRB := Lf.hide hRb
    have HG := Lf.hide hgy
    have HRD := Lf.hide hRy
    clear hgy hRb hRy
    rcases (show s'.toList.isEmpty = true ∨ s'.toList.isEmpty = false from by cases s'.toList.isEmpty <;> simp) with hs0 | hs0
    · go_wp2_with fail
      go_region
      go_wp2_with fail
      change bodyPost _ _ _ _ _ ((set5 y w.heap.size (.int .i64 0) (.int .i64 0) (.int .i64 0) (.string ⟨#[]⟩) (.slice none 0 0)).alloc (.cells #[.int .i64 k, .int .i64 m, .int .i64 p, .string st, .slice a q c] 39)).drew
      have hb' := set5_block HRB.out (.int .i64 0) (.int .i64 0) (.int .i64 0) (.string ⟨#[]⟩) (.slice none 0 0)
      have hb2 : ((set5 y w.heap.size (.int .i64 0) (.int .i64 0) (.int .i64 0) (.string ⟨#[]⟩) (.slice none 0 0)).alloc (.cells #[.int .i64 k, .int .i64 m, .int .i64 p, .string st, .slice a q c] 39)).drew.heap[w.heap.size]? = _ := (heap_alloc_old (set5 y w.heap.size (.int .i64 0) (.int .i64 0) (.int .i64 0) (.string ⟨#[]⟩) (.slice none 0 0)) (.cells #[.int .i64 k, .int .i64 m, .int .i64 p, .string st, .slice a q c] 39) (Array.getElem?_eq_some_iff.1 hb').1).trans hb'
      have hg2 : y.grownBy ((set5 y w.heap.size (.int .i64 0) (.int .i64 0) (.int .i64 0) (.string ⟨#[]⟩) (.slice none 0 0)).alloc (.cells #[.int .i64 k, .int .i64 m, .int .i64 p, .string st, .slice a q c] 39)).drew (some w.heap.size) := grow_drew (grow_trans (set5_grow y w.heap.size (.int .i64 0) (.int .i64 0) (.int .i64 0) (.string ⟨#[]⟩) (.slice none 0 0)) (grow_any (Lf.gb _)))
      generalize ((set5 y w.heap.size (.int .i64 0) (.int .i64 0) (.int .i64 0) (.string ⟨#[]⟩) (.slice none 0 0)).alloc (.cells #[.int .i64 k, .int .i64 m, .int .i64 p, .string st, .slice a q c] 39)).drew = wf at *
      obtain ⟨z0, z1, z2, z3, z4⟩ := box5 hb2
      refine bodyPost_ret (v := .tuple #[nodeV 0 0 0 ⟨#[]⟩ none 0 0, .int .i64 e]) (by simp [results, Try.results50, go_sem, z0, z1, z2, z3, z4, nodeV]) rfl ?_
      exact ⟨rfl, he, grow_new (grow_two HG.out) hg2 (Nat.le_refl _)⟩
    · go_wp2_with fail
      refine (fail_stuck (HRD.out.alloc _) he 1).mono ?_; rintro e' y2 ⟨rfl, rfl⟩
      go_wp2_with fail
      go_region
      go_wp2_with fail
      change bodyPost _ _ _ _ _ ((set5 y w.heap.size (.int .i64 0) (.int .i64 0) (.int .i64 0) (.string ⟨#[]⟩) (.slice none 0 0)).alloc (.cells #[.int .i64 k, .int .i64 m, .int .i64 p, .string st, .slice a q c] 39)).drew
      have hb' := set5_block HRB.out (.int .i64 0) (.int .i64 0) (.int .i64 0) (.string ⟨#[]⟩) (.slice none 0 0)
      have hb2 : ((set5 y w.heap.size (.int .i64 0) (.int .i64 0) (.int .i64 0) (.string ⟨#[]⟩) (.slice none 0 0)).alloc (.cells #[.int .i64 k, .int .i64 m, .int .i64 p, .string st, .slice a q c] 39)).drew.heap[w.heap.size]? = _ := (heap_alloc_old (set5 y w.heap.size (.int .i64 0) (.int .i64 0) (.int .i64 0) (.string ⟨#[]⟩) (.slice none 0 0)) (.cells #[.int .i64 k, .int .i64 m, .int .i64 p, .string st, .slice a q c] 39) (Array.getElem?_eq_some_iff.1 hb').1).trans hb'
      have hg2 : y.grownBy ((set5 y w.heap.size (.int .i64 0) (.int .i64 0) (.int .i64 0) (.string ⟨#[]⟩) (.slice none 0 0)).alloc (.cells #[.int .i64 k, .int .i64 m, .int .i64 p, .string st, .slice a q c] 39)).drew (some w.heap.size) := grow_drew (grow_trans (set5_grow y w.heap.size (.int .i64 0) (.int .i64 0) (.int .i64 0) (.string ⟨#[]⟩) (.slice none 0 0)) (grow_any (Lf.gb _)))
      generalize ((set5 y w.heap.size (.int .i64 0) (.int .i64 0) (.int .i64 0) (.string ⟨#[]⟩) (.slice none 0 0)).alloc (.cells #[.int .i64 k, .int .i64 m, .int .i64 p, .string st, .slice a q c] 39)).drew = wf at *
      obtain ⟨z0, z1, z2, z3, z4⟩ := box5 hb2
      refine bodyPost_ret (v := .tuple #[nodeV 0 0 0 ⟨#[]⟩ none 0 0, .int .i64 e]) (by simp [results, Try.results50, go_sem, z0, z1, z2, z3, z4, nodeV]) rfl ?_
      exact ⟨rfl, he, grow_new (grow_two HG.out) hg2 (Nat.le_refl _)⟩
  | ok r =>
    obtain ⟨t', n', l'⟩ := r
    rw [hq] at hp
    simp only at hp
    by_cases hl' : l' = []
    · rw [if_pos hl'] at hp; simp at hp
    rw [if_neg hl'] at hp
    injection hp with hp
    subst hp
    exact decode_left hq hl' hl w

end Go.Proofs.Ytmmgihaoahhkjaa
