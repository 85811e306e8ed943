/- items by its contract. -/
import Derived.Test.YtdninmanfncfiadHasO
namespace Go.Proofs.Ytdninmanfncfiad
open Go.ChangeShapes Go.WideShapes Go.ChangeAt Go.RowKit
set_option linter.unusedVariables false

/-- what oneEach, items and ofArgs answer -/
def OfPost (w W : World) (ps : Option (List (Ty × Va))) (e : Ending) (w' : World) : Prop :=
  ((ps = none ∧ e = .returned (.tuple #[.slice none 0 0, .bool false])) ∨ ∃ l cv cs, ps = some l ∧ e = .returned (.tuple #[cv, .bool true]) ∧ OwnsK W.heap.size w' cv cs ∧ ClaimsOk w l cs) ∧ W.grownBy w' none

theorem oneEach_all {w W : World} {list : List Va} {ts : List Ty} {la ta : Option Addr} {lc tc : Nat} {V U : Nat → Value} (hL : RowVa (fun _ => True) w list la V) (hT : TysAt w W ts ta U) (hW : w.grownBy W none) (hz : list.length ≤ 20000000) :
    Calls Try.prog 54 #[.slice la list.length lc, .slice ta ts.length tc] W (OfPost w W (if list.length = ts.length then some (ts.zip list) else none)) := by
  by_cases h : list.length = ts.length
  · rw [if_pos h]
    exact (oneEach_any hL hT hW h hz).mono fun e w' ⟨cv, cs, he, ho, hc, hg⟩ => ⟨.inr ⟨_, cv, cs, rfl, he, ho, hc⟩, hg⟩
  · rw [if_neg h]
    exact (oneEach_no hL.1 hT.1 h W).mono fun e w' ⟨he, hw⟩ => ⟨.inl ⟨rfl, he⟩, by rw [hw]; exact grow_refl _ _⟩

theorem OfPost.grown {w W W2 : World} {ps : Option (List (Ty × Va))} {e : Ending} {w' : World} (h : OfPost w W2 ps e w') (hg : W.grownBy W2 none) : OfPost w W ps e w' := by
  refine ⟨?_, Lf.gbt hg h.2⟩
  rcases h.1 with h | ⟨l, cv, cs, h1, h2, h3, h4⟩
  · exact .inl h
  · refine .inr ⟨l, cv, cs, h1, h2, ?_, h4⟩
    have hs := hg.size
    refine ⟨h3.1, ?_⟩
    rcases h3.2 with q | ⟨g, cap, cur, q1, q2, q3⟩
    · exact .inl q
    · exact .inr ⟨g, cap, cur, q1, by omega, q3⟩

theorem OfPost.form {w W : World} {ps : Option (List (Ty × Va))} {e : Ending} {w' : World} (h : OfPost w W ps e w') : ∃ cv bb, e = .returned (.tuple #[cv, .bool bb]) := by
  rcases h.1 with ⟨_, h⟩ | ⟨l, cv, cs, _, h, _⟩
  · exact ⟨_, _, h⟩
  · exact ⟨_, _, h⟩

theorem rep_tys {w W : World} {T : Ty} {t : Int} {a : Option Addr} {l c g n : Nat} (hT : LiesT (fun _ => True) w T (tyV t a l c)) (hn : n ≤ maxLen) (h : RepAt W g n n (.int .i64 t) (.slice a l c)) : TysAt w W (List.replicate n T) (some ⟨g, 0, none⟩) (fun _ => tyV t a l c) := by
  refine ⟨by simpa using hn, fun i hi => ?_⟩
  rw [List.length_replicate] at hi
  obtain ⟨cur, q1, q2, q3, q4⟩ := h
  obtain ⟨e0, e1⟩ := q4 i hi
  refine ⟨⟨g, 0, rfl, trivial, t, a, l, c, rfl, ?_, ?_⟩, by rw [List.getElem_replicate]; exact hT⟩
  · rw [Nat.zero_add]; simp [World.cell?, q1, e0]
  · rw [Nat.zero_add]; simp [World.cell?, q1, e1]

theorem new_twoI (w : World) (o o' : Obj) : ((w.alloc o).alloc o').heap[w.heap.size + 1]? = some o' := by
  have := heap_alloc_new (w.alloc o) o'
  rwa [show (w.alloc o).heap.size = w.heap.size + 1 from by simp] at this

set_option maxRecDepth 100000 in
set_option maxHeartbeats 1000000 in
theorem items_any {w W : World} {list : List Va} {la : Option Addr} {lc : Nat} {V : Nat → Value} {T : Ty} {u : Value} (hL : RowVa (fun _ => True) w list la V) (hT : LiesT (fun _ => True) w T u) (hW : w.grownBy W none) :
    Calls Try.prog 55 #[.slice la list.length lc, u] W (OfPost w W (if list.length ≤ 24 then some ((List.replicate list.length T).zip list) else none)) := by
  have hl := hL.1
  unfold maxLen at hl
  obtain ⟨a, c, V', rfl, it, hR⟩ := hT.inv
  by_cases h24 : list.length ≤ 24
  · rw [if_pos h24]
    have h24' : ¬ (24 : Int) < (list.length : Int) := by omega
    have HRep := Lf.hide (repeat_any T.t a T.args.length c)
    have HL := Lf.hide hL
    have HT := Lf.hide hT
    have HW := Lf.hide hW
    have HOne : Hid (∀ (W2 : World) (g c' : Nat), W.grownBy W2 none → RepAt W2 g list.length list.length (.int .i64 T.t) (.slice a T.args.length c) → Calls Try.prog 54 #[.slice la list.length lc, .slice (some ⟨g, 0, none⟩) list.length c'] W2 (OfPost w W2 (some ((List.replicate list.length T).zip list)))) := fun W2 g c' hg hrep => by
      have h := oneEach_all (lc := lc) (tc := c') HL.out (rep_tys HT.out (by unfold maxLen; omega) hrep) (Lf.gbt HW.out hg) (by omega)
      rw [List.length_replicate, if_pos rfl] at h
      exact h
    clear hL hT hW hR it HL HT HW
    unfold tyV
    go_enter Try.func55, Try.ntmps55
    go_wp2_with fail
    refine (HRep.out _ _ _ (by omega) _ (cell0_of (new_twoI _ _ _)) (cell1_of (new_twoI _ _ _))).mono ?_; rintro e w1 ⟨g, c', rfl, hgs, hrep, hg⟩
    have HP := Lf.hide hrep
    have HG := Lf.hide (Lf.gbt (Lf.gbt (Lf.gb _) (Lf.gb _)) hg)
    clear hg hrep
    go_wp2_with fail
    refine (HOne.out _ _ _ HG.out HP.out).mono ?_; rintro e w2 hpost
    have hp := OfPost.grown hpost HG.out
    clear hpost
    rcases hp with ⟨⟨hn, rfl⟩ | ⟨l, cv, cs, hn, rfl, ho, hc⟩, hg2⟩
    · cases hn
    · have HO := Lf.hide ho
      have HC := Lf.hide hc
      have HN := Lf.hide hn
      have HG2 := Lf.hide hg2
      clear ho hc hn hg2
      go_wp2_with fail
      go_ret2
      exact ⟨.inr ⟨l, cv, cs, HN.out, rfl, HO.out, HC.out⟩, HG2.out⟩
  · rw [if_neg h24]
    have h24' : (24 : Int) < (list.length : Int) := by omega
    clear hL hT hW hR it
    unfold tyV
    go_enter Try.func55, Try.ntmps55
    go_wp2_with fail
    go_ret2
    exact ⟨.inl ⟨rfl, rfl⟩, Lf.gb _⟩

end Go.Proofs.Ytdninmanfncfiad
