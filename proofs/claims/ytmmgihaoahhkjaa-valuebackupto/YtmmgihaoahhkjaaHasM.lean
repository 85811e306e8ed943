/- Whether one of a list of maps has keys that don't rise, by its contract. -/
import Derived.Test.YtmmgihaoahhkjaaOrd
namespace Go.Proofs.Ytmmgihaoahhkjaa
open Go.ChangeShapes Go.WideShapes Go.ChangeAt Go.RowKit
set_option linter.unusedVariables false

theorem has1_any {w : World} {l : List Va} {a : Option Addr} {c : Nat} {V : Nat → Value} (hl : RowVa (fun _ => True) w l a V) (hz : vsizes l ≤ 20000000) (W : World) (hW : w.grownBy W none) :
    Calls Try.prog 33 #[.slice a l.length c] W fun e w' => e = .returned (.bool (!risesF l)) ∧ W.grownBy w' none := by
  have H := Lf.hide (rises_any (c := c) hl hz W hW)
  clear hl hz hW
  generalize risesF l = r at *
  go_enter Try.func33, Try.ntmps33
  go_wp2_with fail
  refine H.out.mono ?_; rintro e w1 ⟨rfl, hg⟩
  have HG := Lf.hide hg
  clear hg
  go_wp2_with fail
  go_ret
  exact ⟨rfl, HG.out⟩

theorem ent_has1 : ∀ args w, (callFunc 33 args).run Try.prog w = .ok (.enter 33 args) w := fun args w => by simp [go_sem]

/-- the slices of a list lie in W as lists of values of w -/
def MapsAt (w W : World) (M : List (List Va)) (a : Option Addr) : Prop :=
  M.length ≤ maxLen ∧ ∀ i (h : i < M.length), ∃ b o ai ci V, a = some ⟨b, o, none⟩ ∧ W.cell? ⟨b, o + i, none⟩ = some (.slice ai M[i].length ci) ∧ RowVa (fun _ => True) w M[i] ai V ∧ vsizes M[i] ≤ 20000000

set_option maxRecDepth 100000 in
set_option maxHeartbeats 1000000 in
theorem index_any {w W : World} {M : List (List Va)} {a : Option Addr} {c : Nat} (hM : MapsAt w W M a) (hW : w.grownBy W none) :
    Calls Try.prog 71 #[.slice a M.length c, .func (.func 33) #[] #[]] W fun e w' => ∃ r : Int, e = .returned (.int .i64 r) ∧ ((0 ≤ r ∧ M.all risesF = false) ∨ (r = -1 ∧ M.all risesF = true)) ∧ W.grownBy w' none := by
  have hn := hM.1
  unfold maxLen at hn
  have HM := Lf.hide hM
  have HW := Lf.hide hW
  have eg := ent_has1
  clear hM hW
  go_enter Try.func71, Try.ntmps71
  go_wp2_with fail
  go_loopw [8] (fun iv wr => ∃ j : Nat, j ≤ M.length ∧ iv = .int .i64 j ∧ (∀ i (h : i < M.length), i < j → risesF M[i] = true) ∧ W.grownBy wr none) (fun iv _ => M.length - (intOf iv).toNat)
  case atStart => exact ⟨0, Nat.zero_le _, rfl, fun i h hi => by omega, grow_refl _ _⟩
  case round =>
    obtain ⟨j, hj, rfl, hall, hgr⟩ := hrel
    have HALL := Lf.hide hall
    have HGR := Lf.hide hgr
    clear hall
    by_cases hlt : j < M.length
    · obtain ⟨b, o, ai, ci, V, rfl, hcell, hR, hsz⟩ := HM.out.2 j hlt
      have hcw : wr.cell? ⟨b, o + j, none⟩ = some (.slice ai M[j].length ci) := (World.cell?_of_block (hgr.block b (World.block_lt_of_cell? W _ hcell) (by simp))).trans hcell
      have HK := Lf.hide (has1_any (c := ci) hR hsz wr (Lf.gbt HW.out hgr))
      have hlM := hR.1
      unfold maxLen at hlM
      clear hcell hR hsz hgr
      cases hq : risesF M[j] with
      | true =>
        rw [hq] at HK
        have HQ := Lf.hide hq
        clear hq
        go_wp2_with fail
        refine HK.out.mono ?_; rintro e w1 ⟨rfl, hg⟩
        have HG := Lf.hide (Lf.gbt HGR.out hg)
        clear hg
        go_wp2_with fail
        go_roundw
        case rel =>
          refine ⟨j + 1, by omega, by go_num, fun i h hi => ?_, HG.out⟩
          by_cases e : i = j
          · subst e; exact HQ.out
          · exact HALL.out i h (by omega)
        case measure => simp [intOf]; omega
      | false =>
        rw [hq] at HK
        have HQ := Lf.hide hq
        clear hq
        go_wp2_with fail
        refine HK.out.mono ?_; rintro e w1 ⟨rfl, hg⟩
        have HG := Lf.hide (Lf.gbt HGR.out hg)
        clear hg
        go_wp2_with fail
        go_ret
        refine ⟨_, rfl, .inl ⟨by omega, ?_⟩, HG.out⟩
        cases hA : M.all risesF with
        | false => rfl
        | true => have := List.all_eq_true.1 hA M[j] (List.getElem_mem hlt); rw [HQ.out] at this; cases this
    · have hall2 : M.all risesF = true := List.all_eq_true.2 fun x hx => by
        obtain ⟨i, hi, rfl⟩ := List.getElem_of_mem hx
        exact HALL.out i hi (by omega)
      have HA := Lf.hide hall2
      have hj3 : ¬ (j : Int) < (M.length : Int) := by omega
      clear hall2 hgr
      go_wp2_with fail
      go_ret
      refine ⟨_, rfl, .inr ⟨rfl, ?_⟩, HGR.out⟩
      first | exact HA.out | exact List.all_eq_true.1 HA.out

theorem contains_any {w W : World} {M : List (List Va)} {a : Option Addr} {c : Nat} (hM : MapsAt w W M a) (hW : w.grownBy W none) :
    Calls Try.prog 32 #[.slice a M.length c, .func (.func 33) #[] #[]] W fun e w' => e = .returned (.bool (!M.all risesF)) ∧ W.grownBy w' none := by
  have H := Lf.hide (index_any (c := c) hM hW)
  clear hM hW
  generalize M.all risesF = q at *
  go_enter Try.func32, Try.ntmps32
  go_wp2_with fail
  refine H.out.mono ?_; rintro e w1 ⟨r, rfl, hr, hg⟩
  have HG := Lf.hide hg
  have HR := Lf.hide hr
  clear hg hr
  go_wp2_with fail
  go_ret
  refine Lf.retb ?_ HG.out
  rcases HR.out with ⟨h1, rfl⟩ | ⟨rfl, rfl⟩
  · simp [h1]
  · rfl

end Go.Proofs.Ytmmgihaoahhkjaa
