/- The document's own readNode by its contract: where it says no at once. -/
import Derived.Test.YtjhhcdiipbjiaaaRefOf2
import Derived.Test.YtjhhcdiipbjiaaaNode
namespace Go.Proofs.Ytjhhcdiipbjiaaa
open Go.ChangeShapes Go.WideShapes Go.ChangeAt Go.RowKit
set_option linter.unusedVariables false

/-- what says no -/
theorem no_any (e : Int) (w : World) : Calls Try.prog 50 #[.int .i64 e] w fun r w' => r = .returned (.tuple #[.agg #[.int .i64 0, .int .i64 0, .int .i64 0, .string ⟨#[]⟩, .slice none 0 0], .string ⟨#[]⟩, .int .i64 0, .int .i64 e]) ∧ w.grownBy w' none := by
  go_enter Try.func50, Try.ntmps50
  go_wp2_with fail
  exact bodyPost_ret (v := .tuple #[.agg #[.int .i64 0, .int .i64 0, .int .i64 0, .string ⟨#[]⟩, .slice none 0 0], .string ⟨#[]⟩, .int .i64 0, .int .i64 e]) (by simp [results, Try.results50, go_sem]) rfl ⟨rfl, Lf.gb _⟩

/-- readNode's answer: d levels and 300 - n nodes are left -/
def RRPost (w : World) (d n : Nat) (l : List UInt8) (r : Ending) (w' : World) : Prop := w.grownBy w' none ∧ match pNode d n l with
  | .ok (t, n', l') => ∃ v, r = .returned (.tuple #[v, .string (bs l'), .int .i64 ((n' : Int) - n), .int .i64 0]) ∧ Lies (w.heap.size ≤ ·) w' t v
  | .error e => e ≠ 0 ∧ r = .returned (.tuple #[nodeV 0 0 0 ⟨#[]⟩ none 0 0, .string ⟨#[]⟩, .int .i64 0, .int .i64 e])

theorem rr_no {w w' : World} {d n : Nat} {l : List UInt8} {e : Int} (hp : pNode d n l = .error e) (he : e ≠ 0) (hg : w.grownBy w' none) : RRPost w d n l (.returned (.tuple #[nodeV 0 0 0 ⟨#[]⟩ none 0 0, .string ⟨#[]⟩, .int .i64 0, .int .i64 e])) w' := by
  refine ⟨hg, ?_⟩
  rw [hp]
  exact ⟨he, rfl⟩

set_option maxRecDepth 100000 in
set_option maxHeartbeats 4000000 in
theorem rr_long (dI LI : Int) (d n : Nat) (l : List UInt8) (hl : l.length ≤ maxLen) (w : World) (h : dI = 0 ∨ (¬ dI = 0 ∧ LI = 0)) (hp : pNode d n l = .error 4) :
    Calls Try.prog 40 #[.string (bs l), .int .i64 dI, .int .i64 LI] w (RRPost w d n l) := by
  have HP := Lf.hide (fun w' hg => rr_no (w := w) (w' := w') hp (by decide) hg)
  have HR := Lf.hide (heap_alloc_new w (.cells #[.int .i64 0, .int .i64 0, .int .i64 0, .string ⟨#[]⟩, .slice none 0 0] 34))
  clear hp hl
  generalize bs l = s at *
  have e50 : ∀ args w, (callFunc 50 args).run Try.prog w = .ok (.enter 50 args) w := fun args w => by simp [go_sem]
  rcases h with rfl | ⟨h, rfl⟩
  all_goals
    go_enter Try.func40, Try.ntmps40
    go_wp2_with fail
    refine (no_any _ _).mono ?_; rintro e w1 ⟨rfl, hg⟩
    have hr1 := (hg.block _ (lt_of_block HR.out) (by simp)).trans HR.out
    obtain ⟨r0, r1, r2, r3, r4⟩ := box5 hr1
    obtain ⟨f0, f1, f2, f3, f4⟩ := box5f hr1
    have HR1 := Lf.hide hr1
    have HG1 := Lf.hide (Lf.gbt (Lf.gb _) hg)
    clear hg hr1
    go_wp2_with fail
    change bodyPost _ _ _ _ _ (set5 w1 w.heap.size (.int .i64 0) (.int .i64 0) (.int .i64 0) (.string ⟨#[]⟩) (.slice none 0 0))
    have hb' := set5_block HR1.out (.int .i64 0) (.int .i64 0) (.int .i64 0) (.string ⟨#[]⟩) (.slice none 0 0)
    have hg' := grow_new HG1.out (set5_grow w1 w.heap.size (.int .i64 0) (.int .i64 0) (.int .i64 0) (.string ⟨#[]⟩) (.slice none 0 0)) (Nat.le_refl _)
    generalize set5 w1 w.heap.size (.int .i64 0) (.int .i64 0) (.int .i64 0) (.string ⟨#[]⟩) (.slice none 0 0) = wf at *
    obtain ⟨z0, z1, z2, z3, z4⟩ := box5 hb'
    exact bodyPost_ret (v := .tuple #[nodeV 0 0 0 ⟨#[]⟩ none 0 0, .string ⟨#[]⟩, .int .i64 0, .int .i64 4]) (by simp [results, Try.results40, go_sem, z0, z1, z2, z3, z4, nodeV]) rfl (HP.out _ hg')


theorem e50 : ∀ args w, (callFunc 50 args).run Try.prog w = .ok (.enter 50 args) w := fun args w => by simp [go_sem]

theorem bs_ne (b : UInt8) (l : List UInt8) : (bs (b :: l)).toList.isEmpty = false := by simp [bs]

set_option maxRecDepth 100000 in
set_option maxHeartbeats 4000000 in
theorem rr_empty (dI LI : Int) (d n : Nat) (w : World) (hd : ¬ dI = 0) (hL : ¬ LI = 0) (hp : pNode d n [] = .error 1) :
    Calls Try.prog 40 #[.string (bs []), .int .i64 dI, .int .i64 LI] w (RRPost w d n []) := by
  have HP := Lf.hide (fun w' hg => rr_no (w := w) (w' := w') hp (by decide) hg)
  have HR := Lf.hide (heap_alloc_new w (.cells #[.int .i64 0, .int .i64 0, .int .i64 0, .string ⟨#[]⟩, .slice none 0 0] 34))
  have HG := Lf.hide (Lf.gb (w := w) (.cells #[.int .i64 0, .int .i64 0, .int .i64 0, .string ⟨#[]⟩, .slice none 0 0] 34))
  clear hp
  have hd' : (dI == 0) = false := by simpa using hd
  have hL' : (LI == 0) = false := by simpa using hL
  have hs : (bs []).toList.isEmpty = true := by simp [bs]
  have e50' := e50
  generalize bs [] = s at *
  go_enter Try.func40, Try.ntmps40
  go_wp2_with fail
  refine (no_any _ _).mono ?_; rintro e w1 ⟨rfl, hg⟩
  have hr1 := (hg.block _ (lt_of_block HR.out) (by simp)).trans HR.out
  obtain ⟨r0, r1, r2, r3, r4⟩ := box5 hr1
  obtain ⟨f0, f1, f2, f3, f4⟩ := box5f hr1
  have HR1 := Lf.hide hr1
  have HG1 := Lf.hide (Lf.gbt HG.out hg)
  clear hg hr1
  go_wp2_with fail
  change bodyPost _ _ _ _ _ (set5 w1 w.heap.size (.int .i64 0) (.int .i64 0) (.int .i64 0) (.string ⟨#[]⟩) (.slice none 0 0))
  have hb' := set5_block HR1.out (.int .i64 0) (.int .i64 0) (.int .i64 0) (.string ⟨#[]⟩) (.slice none 0 0)
  have hg' := grow_new HG1.out (set5_grow w1 w.heap.size (.int .i64 0) (.int .i64 0) (.int .i64 0) (.string ⟨#[]⟩) (.slice none 0 0)) (Nat.le_refl _)
  generalize set5 w1 w.heap.size (.int .i64 0) (.int .i64 0) (.int .i64 0) (.string ⟨#[]⟩) (.slice none 0 0) = wf at *
  obtain ⟨z0, z1, z2, z3, z4⟩ := box5 hb'
  exact bodyPost_ret (v := .tuple #[nodeV 0 0 0 ⟨#[]⟩ none 0 0, .string ⟨#[]⟩, .int .i64 0, .int .i64 1]) (by simp [results, Try.results40, go_sem, z0, z1, z2, z3, z4, nodeV]) rfl (HP.out _ hg')

set_option maxRecDepth 100000 in
set_option maxHeartbeats 4000000 in
theorem rr_kind (dI LI : Int) (d n : Nat) (b : UInt8) (l1 : List UInt8) (hl : (b :: l1).length ≤ maxLen) (w : World) (hd : ¬ dI = 0) (hL : ¬ LI = 0) (hb : 3 < b.toNat) (hp : pNode d n (b :: l1) = .error 1) :
    Calls Try.prog 40 #[.string (bs (b :: l1)), .int .i64 dI, .int .i64 LI] w (RRPost w d n (b :: l1)) := by
  have HP := Lf.hide (fun w' hg => rr_no (w := w) (w' := w') hp (by decide) hg)
  have HR := Lf.hide (heap_alloc_new w (.cells #[.int .i64 0, .int .i64 0, .int .i64 0, .string ⟨#[]⟩, .slice none 0 0] 34))
  have HG := Lf.hide (Lf.gb (w := w) (.cells #[.int .i64 0, .int .i64 0, .int .i64 0, .string ⟨#[]⟩, .slice none 0 0] 34))
  clear hp
  have hd' : (dI == 0) = false := by simpa using hd
  have hL' : (LI == 0) = false := by simpa using hL
  have hs := bs_ne b l1
  have h0 : ∀ h, (bs (b :: l1))[0]'h = b := fun _ => rfl
  have hsz := bs_size (b :: l1)
  have hbI : (3 : Int) < (b.toNat : Int) := by omega
  have e50' := e50
  unfold maxLen at hl
  obtain ⟨L, hLN⟩ : ∃ L, L = (b :: l1).length := ⟨_, rfl⟩
  have hLpos : 0 < L := by rw [hLN]; simp
  rw [← hLN] at hsz hl
  clear hLN
  generalize bs (b :: l1) = s at *
  go_enter Try.func40, Try.ntmps40
  go_wp2_with fail
  refine (no_any _ _).mono ?_; rintro e w1 ⟨rfl, hg⟩
  have hr1 := (hg.block _ (lt_of_block HR.out) (by simp)).trans HR.out
  obtain ⟨r0, r1, r2, r3, r4⟩ := box5 hr1
  obtain ⟨f0, f1, f2, f3, f4⟩ := box5f hr1
  have HR1 := Lf.hide hr1
  have HG1 := Lf.hide (Lf.gbt HG.out hg)
  clear hg hr1
  go_wp2_with fail
  change bodyPost _ _ _ _ _ (set5 w1 w.heap.size (.int .i64 0) (.int .i64 0) (.int .i64 0) (.string ⟨#[]⟩) (.slice none 0 0))
  have hb' := set5_block HR1.out (.int .i64 0) (.int .i64 0) (.int .i64 0) (.string ⟨#[]⟩) (.slice none 0 0)
  have hg' := grow_new HG1.out (set5_grow w1 w.heap.size (.int .i64 0) (.int .i64 0) (.int .i64 0) (.string ⟨#[]⟩) (.slice none 0 0)) (Nat.le_refl _)
  generalize set5 w1 w.heap.size (.int .i64 0) (.int .i64 0) (.int .i64 0) (.string ⟨#[]⟩) (.slice none 0 0) = wf at *
  obtain ⟨z0, z1, z2, z3, z4⟩ := box5 hb'
  exact bodyPost_ret (v := .tuple #[nodeV 0 0 0 ⟨#[]⟩ none 0 0, .string ⟨#[]⟩, .int .i64 0, .int .i64 1]) (by simp [results, Try.results40, go_sem, z0, z1, z2, z3, z4, nodeV]) rfl (HP.out _ hg')

end Go.Proofs.Ytjhhcdiipbjiaaa
