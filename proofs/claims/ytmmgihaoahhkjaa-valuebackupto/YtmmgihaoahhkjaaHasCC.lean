/- The small functions of package value that say what a value of a type may be: each by its contract. -/
import Derived.Test.YtmmgihaoahhkjaaValA
import Derived.Test.YtmmgihaoahhkjaaSameA
import Derived.Deep.RegionHeld3
import Derived.Deep.DeepCutAuto
namespace Go.Proofs.Ytmmgihaoahhkjaa
open Go.ChangeShapes Go.WideShapes Go.ChangeAt Go.RowKit
set_option linter.unusedVariables false

theorem nin_any (n : Int) (w : World) : Calls Try.prog 100 #[.int .i64 n] w fun e w' => e = .returned (.bool (inB n)) ∧ w' = w := by
  go_enter Try.func100, Try.ntmps100
  go_wp2
  all_goals
    go_ret
    refine Lf.retb ?_ rfl
    rw [Bool.eq_iff_iff]
    simp [inB]
    try omega

theorem isAmount_any (n : Int) (w : World) : Calls Try.prog 101 #[.int .i64 n] w fun e w' => e = .returned (.bool (amountB n)) ∧ w' = w := by
  have H := Lf.hide (fun w => nin_any n w)
  by_cases h : 0 ≤ n
  · have hr : amountB n = inB n := by
      rw [Bool.eq_iff_iff]; simp [amountB, inB]; omega
    rw [hr]
    generalize inB n = b at *
    clear hr
    go_enter Try.func101, Try.ntmps101
    go_wp2_with ((go_at_call 100; refine (H.out _).mono ?_; rintro e w' ⟨rfl, rfl⟩))
    go_ret
    exact ⟨rfl, rfl⟩
  · have hr : amountB n = false := by simp [amountB]; omega
    rw [hr]
    clear hr
    go_enter Try.func101, Try.ntmps101
    go_wp2_with fail
    go_ret
    exact ⟨rfl, rfl⟩

theorem isAddr_any (n : Int) (w : World) : Calls Try.prog 67 #[.int .i64 n] w fun e w' => e = .returned (.bool (addrB n)) ∧ w' = w := by
  go_enter Try.func67, Try.ntmps67
  go_wp2
  all_goals
    go_ret
    refine Lf.retb ?_ rfl
    rw [Bool.eq_iff_iff]
    simp [addrB]
    try omega

theorem isSent_any (n : Int) (w : World) : Calls Try.prog 66 #[.int .i64 n] w fun e w' => e = .returned (.bool (decide (n = 8 ∨ n = 15))) ∧ w' = w := by
  go_enter Try.func66, Try.ntmps66
  go_wp2
  all_goals
    go_ret
    refine Lf.retb ?_ rfl
    rw [Bool.eq_iff_iff]
    simp
    try omega

set_option maxHeartbeats 1000000 in
theorem fitsN_any (t n : Int) (w : World) : Calls Try.prog 65 #[.int .i64 t, .int .i64 n] w fun e w' => e = .returned (.bool (fitsNF t n)) ∧ w' = w := by
  have H1 := Lf.hide (fun w => nin_any n w)
  have H2 := Lf.hide (fun w => isAmount_any n w)
  have H3 := Lf.hide (fun w => isAddr_any n w)
  have HF : Hid (fitsNF t n = fitsNF t n) := rfl
  generalize hr : fitsNF t n = r
  have HR := Lf.hide hr
  clear hr HF
  go_enter Try.func65, Try.ntmps65
  go_wp2_with (first
    | (go_at_call 100; refine (H1.out _).mono ?_; rintro e w' ⟨rfl, rfl⟩)
    | (go_at_call 101; refine (H2.out _).mono ?_; rintro e w' ⟨rfl, rfl⟩)
    | (go_at_call 67; refine (H3.out _).mono ?_; rintro e w' ⟨rfl, rfl⟩))
  all_goals
    go_ret
    refine Lf.retb ?_ rfl
    have hr := HR.out
    clear HR H1 H2 H3
    subst hr
    rw [Bool.eq_iff_iff]
    simp_all [fitsNF]

/-- types and lists of them lie wherever they were put down -/
theorem RowT.up {w W : World} {ts : List Ty} {a : Option Addr} {V : Nat → Value} (h : RowT (fun _ => True) w ts a V) (hg : w.grownBy W none) : RowT (· < W.heap.size) W ts a V :=
  (h.same (sameAll hg)).okMono (fun b hb _ => hb)
theorem LiesT.up {w W : World} {T : Ty} {v : Value} (h : LiesT (fun _ => True) w T v) (hg : w.grownBy W none) : LiesT (· < W.heap.size) W T v :=
  (h.same (sameAll hg)).okMono (fun b hb _ => hb)

theorem sizes_mem_le {l : List Ty} {i : Nat} (h : i < l.length) : l[i].size ≤ tysizes l := tysize_mem (List.getElem_mem h)

theorem ent_ksame : ∀ args w, (callFunc 25 args).run Try.prog w = .ok (.enter 25 args) w := fun args w => by simp [go_sem]

def sameAtT (x y : List Ty) (i : Nat) : Bool := match x[i]?, y[i]? with
  | some p, some q => sameT p q
  | _, _ => true

theorem sameAtT_eq {x y : List Ty} {i : Nat} (h1 : i < x.length) (h2 : i < y.length) : sameAtT x y i = sameT x[i] y[i] := by
  simp [sameAtT, List.getElem?_eq_getElem h1, List.getElem?_eq_getElem h2]

theorem sameTs_all : ∀ (x y : List Ty), x.length = y.length → ((∀ i, i < x.length → sameAtT x y i = true) → sameTs x y = true) ∧ ((∃ i, i < x.length ∧ sameAtT x y i = false) → sameTs x y = false)
  | [], [], _ => ⟨fun _ => rfl, fun ⟨i, h, _⟩ => by simp at h⟩
  | _ :: _, [], h => by simp at h
  | [], _ :: _, h => by simp at h
  | p :: x, q :: y, h => by
    obtain ⟨h1, h2⟩ := sameTs_all x y (by simpa using h)
    refine ⟨fun ha => ?_, fun ⟨i, hi, hn⟩ => ?_⟩
    · have e0 := ha 0 (by simp)
      have e1 := h1 (fun i hi => by have := ha (i + 1) (by simpa using hi); simpa [sameAtT] using this)
      simp [sameTs, e1]
      simpa [sameAtT] using e0
    · cases i with
      | zero =>
        have hf : sameT p q = false := by simpa [sameAtT] using hn
        simp [sameTs, hf]
      | succ i =>
        have := h2 ⟨i, by simpa using hi, by simpa [sameAtT] using hn⟩
        simp [sameTs, this]

/-- two lists of types are alike -/
theorem eqTypes_any {w : World} {x y : List Ty} {a b : Option Addr} {ca cb : Nat} {V V2 : Nat → Value} (hx : RowT (fun _ => True) w x a V) (hy : RowT (fun _ => True) w y b V2) (hz : tysizes x ≤ 50000000) (W : World) (hW : w.grownBy W none) :
    Calls Try.prog 40 #[.slice a x.length ca, .slice b y.length cb, .func (.func 25) #[] #[]] W fun e w' => e = .returned (.bool (sameTs x y)) ∧ W.grownBy w' none := by
  by_cases hl : x.length = y.length
  · have h := equal_any 25 #[] x.length a b ca cb V V2 (sameAtT x y) (fun _ W' => W.grownBy W' none) (fun W' => W.grownBy W' none) hx.1 ent_ksame
      (fun i W' hi hI => ((hx.2.1 i hi).same (sameAll (Lf.gbt hW hI)))) (fun i W' hi hI => ((hy.2.1 i (by omega)).same (sameAll (Lf.gbt hW hI)))) (fun i W' o hI => Lf.gbt hI (Lf.gb _))
      (fun i W' hi hI => by
        have h1 := LiesT.up (hx.2.2 i hi) (Lf.gbt hW hI)
        have h2 := LiesT.up (hy.2.2 i (by omega)) (Lf.gbt hW hI)
        have h3 := same_any h1 h2 (Nat.le_trans (sizes_mem_le hi) hz)
        rw [sameAtT_eq hi (by omega)]
        exact h3.mono fun e w' h => ⟨h.1, fun _ => Lf.gbt hI h.2, fun _ => Lf.gbt hI h.2⟩) W (grow_refl _ _)
    rw [hl] at h ⊢
    obtain ⟨q1, q2⟩ := sameTs_all x y hl
    refine h.mono fun e w' h => ?_
    rcases h with ⟨rfl, hg, hall⟩ | ⟨i, hi, hn, rfl, hg⟩
    · rw [q1 (by rw [hl]; exact hall)]; exact ⟨rfl, hg⟩
    · rw [q2 ⟨i, by rw [hl]; exact hi, hn⟩]; exact ⟨rfl, hg⟩
  · have h := equal_len (.func (.func 25) #[] #[]) x.length y.length a b ca cb hl hx.1 hy.1 W
    have hno : sameTs x y = false := by
      cases hq : sameTs x y with
      | false => rfl
      | true => exact absurd (sameTs_len hq) hl
    rw [hno]
    exact h.mono fun e w' h => ⟨h.1, by rw [h.2]; exact grow_refl _ _⟩

end Go.Proofs.Ytmmgihaoahhkjaa

/- What a value that fits a type is like, but for its Args: fitsTypes and fits by their contracts. -/
namespace Go.Proofs.Ytmmgihaoahhkjaa
open Go.ChangeShapes Go.WideShapes Go.ChangeAt Go.RowKit
set_option linter.unusedVariables false

set_option maxRecDepth 100000 in
set_option maxHeartbeats 1000000 in
theorem fitsT_any {w : World} {T : Ty} {u : Value} {types : List Ty} {ta : Option Addr} {tc : Nat} {VT : Nat → Value} (hT : LiesT (fun _ => True) w T u) (hR : RowT (fun _ => True) w types ta VT) (hz : tysizes types ≤ 50000000) (W : World) (hW : w.grownBy W none) :
    Calls Try.prog 68 #[u, .slice ta types.length tc] W fun e w' => e = .returned (.bool (fitsTF T types)) ∧ W.grownBy w' none := by
  obtain ⟨a, c, V, rfl, it, hRT⟩ := hT.inv
  have hl := hR.1
  unfold maxLen at hl
  have HR := Lf.hide hR
  have HRT := Lf.hide hRT
  have HW := Lf.hide hW
  have HZ := Lf.hide hz
  by_cases h8 : T.t = 8
  · have hF : fitsTF T types = oneGood types := by unfold fitsTF; rw [if_pos h8]
    rw [hF]
    by_cases h1 : types.length = 1
    · obtain ⟨x, rfl⟩ := List.length_eq_one_iff.1 h1
      obtain ⟨b1, o1, t', a', l', c', rfl, _, hv, e0, e1⟩ := ((HR.out.2.1 0 (by simp)).same (sameAll HW.out)).cells
      have hG : ∀ W2, W.grownBy W2 none → Calls Try.prog 29 #[tyV t' a' l' c'] W2 fun e w' => e = .returned (.bool (goodTy x)) ∧ W2.grownBy w' none := fun W2 h2 => by
        have h3 := HR.out.2.2 0 (by simp)
        rw [hv] at h3
        exact kgood_any (LiesT.up h3 (Lf.gbt HW.out h2))
      have HG := Lf.hide hG
      rw [Nat.zero_mul, Nat.add_zero] at e0 e1
      have q1 : b1 < W.heap.size := World.block_lt_of_cell? W _ e0
      rw [show oneGood [x] = goodTy x from rfl]
      generalize goodTy x = r at *
      clear hG hT hR hRT hW hz it hF h1 hv HR HRT HZ
      have HGB := Lf.hide (Lf.gb (w := W) (.cells #[.int .i64 T.t, .slice a T.args.length c] 24))
      rw [h8] at HGB ⊢
      clear h8
      unfold tyV at HG ⊢
      simp only [List.length_singleton] at hl ⊢
      go_enter Try.func68, Try.ntmps68
      go_wp2_with fail
      refine (HG.out _ HGB.out).mono ?_; rintro e w1 ⟨rfl, hg⟩
      have HG1 := Lf.hide (Lf.gbt HGB.out hg)
      clear hg
      go_wp2_with fail
      go_ret
      exact ⟨rfl, HG1.out⟩
    · have hF2 := oneGood_no h1
      rw [hF2]
      have z1 : ¬ (types.length : Int) = 1 := by omega
      have z2 : ((types.length : Int) == 1) = false := by rw [beq_eq_false_iff_ne]; exact z1
      clear hT hR hRT hW hz it hF hF2 h1 HR HRT HZ HW
      rw [h8]
      clear h8
      unfold tyV
      go_enter Try.func68, Try.ntmps68
      go_wp2_with fail
      go_ret
      exact ⟨rfl, Lf.gb _⟩
  · by_cases h14 : T.t = 14
    · have hF : fitsTF T types = sameTs types T.args := by unfold fitsTF; rw [if_neg h8, if_pos h14]
      rw [hF]
      have HE := Lf.hide (fun W2 (h2 : W.grownBy W2 none) => eqTypes_any (ca := tc) (cb := c) HR.out HRT.out HZ.out W2 (Lf.gbt HW.out h2))
      generalize sameTs types T.args = r at *
      have hl2 := HRT.out.1
      unfold maxLen at hl2
      clear hT hR hRT hW hz it hF h8 HR HRT HZ HW
      have HGB := Lf.hide (Lf.gb (w := W) (.cells #[.int .i64 T.t, .slice a T.args.length c] 24))
      rw [h14] at HGB ⊢
      clear h14
      unfold tyV
      go_enter Try.func68, Try.ntmps68
      go_wp2_with fail
      refine (HE.out _ HGB.out).mono ?_; rintro e w1 ⟨rfl, hg⟩
      have HG1 := Lf.hide (Lf.gbt HGB.out hg)
      clear hg
      go_wp2_with fail
      go_ret
      exact ⟨rfl, HG1.out⟩
    · have hF : fitsTF T types = decide (types.length = 0) := by unfold fitsTF; rw [if_neg h8, if_neg h14]
      rw [hF]
      have k1 : (T.t == 8) = false := by simpa using h8
      have k2 : (T.t == 14) = false := by simpa using h14
      clear hT hR hRT hW hz it hF HR HRT HZ HW
      unfold tyV
      go_enter Try.func68, Try.ntmps68
      go_wp2_with fail
      go_ret
      refine Lf.retb ?_ (Lf.gb _)
      rw [Bool.eq_iff_iff]
      simp

end Go.Proofs.Ytmmgihaoahhkjaa
