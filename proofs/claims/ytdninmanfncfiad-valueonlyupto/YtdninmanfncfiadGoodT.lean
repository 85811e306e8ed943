/- kind.Comparable, Copied, Packed, Stored, keyed and Good by their contracts. -/
import Derived.Test.YtdninmanfncfiadAll2
namespace Go.Proofs.Ytdninmanfncfiad
open Go.ChangeShapes Go.WideShapes Go.ChangeAt Go.RowKit
set_option linter.unusedVariables false

theorem LiesT.grow {w w' : World} {T : Ty} {v : Value} (h : LiesT (· < w.heap.size) w T v) (hg : w.grownBy w' none) : LiesT (· < w'.heap.size) w' T v :=
  (h.same (w' := w') (fun b o hb _ => World.cell?_of_block (hg.block b hb (by simp)))).okMono (fun b hb _ => hb)

theorem comparable_any {w : World} {T : Ty} {v : Value} (hL : LiesT (· < w.heap.size) w T v) (hz : T.size ≤ 50000000) :
    Calls Try.prog 14 #[v] w fun e w' => e = .returned (.bool (compT T)) ∧ w.grownBy w' none := by
  obtain ⟨a, c, V, rfl, it, hR⟩ := hL.inv
  have HA := Lf.hide (all_any made_any comp1_any (fun args w => by simp [go_sem]) (fun args w => by simp [go_sem]) (hL.grow (Lf.gb (.cells #[.int .i64 T.t, .slice a T.args.length c] 24))) hz)
  clear hL hR it hz
  unfold tyV at HA ⊢
  go_enter Try.func14, Try.ntmps14
  go_wp2_with fail
  refine HA.out.mono ?_; rintro e w1 ⟨rfl, hg⟩
  have HG := Lf.hide hg
  clear hg
  go_wp2_with fail
  go_ret
  exact ⟨rfl, Lf.gbt (Lf.gb _) HG.out⟩



theorem packed_any {w : World} {T : Ty} {v : Value} (hL : LiesT (· < w.heap.size) w T v) (hz : T.size ≤ 50000000) :
    Calls Try.prog 8 #[v] w fun e w' => e = .returned (.bool (packT T)) ∧ w.grownBy w' none := by
  obtain ⟨a, c, V, rfl, it, hR⟩ := hL.inv
  have HA := Lf.hide (all_any made_any pack1_any (fun args w => by simp [go_sem]) (fun args w => by simp [go_sem]) (hL.grow (Lf.gb (.cells #[.int .i64 T.t, .slice a T.args.length c] 24))) hz)
  clear hL hR it hz
  unfold tyV at HA ⊢
  go_enter Try.func8, Try.ntmps8
  go_wp2_with fail
  refine HA.out.mono ?_; rintro e w1 ⟨rfl, hg⟩
  have HG := Lf.hide hg
  clear hg
  go_wp2_with fail
  go_ret
  exact ⟨rfl, Lf.gbt (Lf.gb _) HG.out⟩



def keyedAt (args : List Ty) (i : Nat) : Bool := match args[i]? with
  | some x => keyedF x
  | none => true

theorem keyed_all {args : List Ty} (h : ∀ i, i < args.length → keyedAt args i = true) : keyedFs args = true := by
  rw [keyedFs_all, List.all_eq_true]
  intro x hx
  obtain ⟨i, hi, rfl⟩ := List.getElem_of_mem hx
  simpa [keyedAt, List.getElem?_eq_getElem hi] using h i hi

theorem keyed_no {args : List Ty} {i : Nat} (hi : i < args.length) (h : keyedAt args i = false) : keyedFs args = false := by
  cases hq : keyedFs args with
  | false => rfl
  | true =>
    rw [keyedFs_all, List.all_eq_true] at hq
    have := hq args[i] (List.getElem_mem hi)
    simp [keyedAt, List.getElem?_eq_getElem hi, this] at h

set_option maxHeartbeats 1000000 in
theorem keyed_any {w : World} {T : Ty} {v : Value} (hL : LiesT (· < w.heap.size) w T v) : ∀ (d : Nat) (w2 : World), w.grownBy w2 none → formedB d T = true → T.size ≤ 50000000 →
    Calls Try.prog 42 #[v] w2 fun e w' => e = .returned (.bool (keyedF T)) ∧ w2.grownBy w' none := by
  induction hL with
  | @mk t args a c V hl hlc it hc hr ih =>
    intro d w2 hg0 hfm hz
    simp only [formedB, Bool.and_eq_true, decide_eq_true_eq] at hfm
    obtain ⟨⟨_, _, hpa⟩, hfs⟩ := hfm
    rw [formedBs_all, List.all_eq_true] at hfs
    rw [Ty.size] at hz
    have hE : ∀ w3, w2.grownBy w3 none → Calls Try.prog 60 #[.slice a args.length c, .func (.func 42) #[] #[]] w3 fun e w' => e = .returned (.bool (keyedFs args)) ∧ w2.grownBy w' none := by
      intro w3 hg3
      refine (every_any 42 #[] args.length a c V (keyedAt args) (fun _ wr => w2.grownBy wr none) (fun wr => w2.grownBy wr none) hl ent_keyed ?_ ?_ ?_ _ hg3).mono ?_
      · intro i wr hi hI
        exact ((hc i hi).same (w' := wr) (fun b o hb _ => World.cell?_of_block ((Lf.gbt hg0 hI).block b hb (by simp)))).okMono (fun _ _ _ => trivial)
      · intro i wr o hI
        exact Lf.gbt hI (Lf.gb _)
      · intro i wr hi hI
        rw [Array.append_empty]
        refine (ih i hi (d + 1) wr (Lf.gbt hg0 hI) (hfs _ (List.getElem_mem hi)) (by have := tysize_mem (List.getElem_mem hi); omega)).mono ?_
        rintro e w' ⟨rfl, hg⟩
        have e1 : keyedAt args i = keyedF args[i] := by simp [keyedAt, List.getElem?_eq_getElem hi]
        rw [e1]
        exact ⟨rfl, fun _ => Lf.gbt hI hg, fun _ => Lf.gbt hI hg⟩
      · rintro e w' (⟨rfl, hI, hb⟩ | ⟨i, hi, hb, rfl, hg⟩)
        · rw [keyed_all hb]; exact ⟨rfl, hI⟩
        · rw [keyed_no hi hb]; exact ⟨rfl, hg⟩
    unfold maxLen at hl
    have HE := Lf.hide hE
    by_cases hk : t = 13 ∨ t = 15
    · have hlen : 0 < args.length := by
        unfold partsF at hpa
        rcases hk with rfl | rfl <;> simp at hpa <;> omega
      obtain ⟨b0, o0, t0, a0, l0, c0, rfl, hb0, hv0, e0, e1⟩ := (hc 0 hlen).cells
      have hL0 := hr 0 hlen
      have hC : ∀ w3, w.grownBy w3 none → Calls Try.prog 14 #[V 0] w3 fun e w' => e = .returned (.bool (compT args[0])) ∧ w3.grownBy w' none := fun w3 hg3 => comparable_any (hL0.grow hg3) (by have := tysize_mem (List.getElem_mem hlen); omega)
      rw [hv0] at hC
      unfold tyV at hC
      have hkF : keyedF (.nd t args) = (compT args[0] && keyedFs args) := by
        have e2 : headComp args = compT args[0] := by
          cases args with
          | nil => simp at hlen
          | cons x l => rfl
        simp [keyedF, keyHere, hk, e2]
      have hs0 : (w2.alloc (.cells #[.int .i64 t, .slice (some ⟨b0, o0, none⟩) args.length c] 24)).cell? ⟨b0, o0, none⟩ = some (.int .i64 t0) := by
        rw [World.cell?_of_block ((Lf.gbt hg0 (Lf.gb _)).block b0 hb0 (by simp))]; simpa using e0
      have hs1 : (w2.alloc (.cells #[.int .i64 t, .slice (some ⟨b0, o0, none⟩) args.length c] 24)).cell? ⟨b0, o0 + 1, none⟩ = some (.slice a0 l0 c0) := by
        rw [World.cell?_of_block ((Lf.gbt hg0 (Lf.gb _)).block b0 hb0 (by simp))]; simpa using e1
      have hlen' : (0 : Int) < (args.length : Int) := by omega
      have HC := Lf.hide (hC _ (Lf.gbt hg0 (Lf.gb (.cells #[.int .i64 t, .slice (some ⟨b0, o0, none⟩) args.length c] 24))))
      have HK := Lf.hide hkF
      clear hC hE ih hc hr hfs hL0 hkF e0 e1 hv0 hpa hz
      unfold tyV
      generalize compT args[0] = cmp at *
      rcases hk with rfl | rfl
      all_goals
        cases cmp
        all_goals
          go_enter Try.func42, Try.ntmps42
          go_wp2_with fail
          refine HC.out.mono ?_; rintro e w3 ⟨rfl, hg3⟩
          have hbx := (hg3.block w2.heap.size (by simp) (by simp)).trans (heap_alloc_new _ _)
          have x1 := cell1_of hbx
          have HG3 := Lf.hide hg3
          clear hg3 hbx
          go_wp2_with fail
      all_goals first
        | (go_ret; exact ⟨by rw [HK.out]; rfl, Lf.gbt (Lf.gb _) HG3.out⟩)
        | (refine (HE.out _ (Lf.gbt (Lf.gb _) HG3.out)).mono ?_; rintro e w4 ⟨rfl, hg4⟩
           have HG4 := Lf.hide hg4
           clear hg4
           go_wp2_with fail
           go_ret
           exact ⟨by rw [HK.out]; simp, HG4.out⟩)
    · have hkF : keyedF (.nd t args) = keyedFs args := by simp [keyedF, keyHere, hk]
      have HK := Lf.hide hkF
      have k1 : (t == 13) = false := by simp; omega
      have k2 : (t == 15) = false := by simp; omega
      clear hE ih hc hr hfs hkF hpa hz
      unfold tyV
      go_enter Try.func42, Try.ntmps42
      go_wp2_with fail
      refine (HE.out _ (Lf.gb _)).mono ?_; rintro e w4 ⟨rfl, hg4⟩
      have HG4 := Lf.hide hg4
      clear hg4
      go_wp2_with fail
      go_ret
      exact ⟨by rw [HK.out]; rfl, HG4.out⟩

end Go.Proofs.Ytdninmanfncfiad
