/- kind.Same by its contract. -/
import Derived.Test.YtdninmanfncfiadSameT
namespace Go.Proofs.Ytdninmanfncfiad
open Go.ChangeShapes Go.WideShapes Go.ChangeAt Go.RowKit
set_option linter.unusedVariables false

theorem ent_same1 : ∀ args w, (callFunc 40 args).run Try.prog w = .ok (.enter 40 args) w := fun args w => by simp [go_sem]

/-- what Same has laid ahead of its loop -/
def sw (w : World) (t : Int) (a : Option Addr) (l c : Nat) (t2 : Int) (a2 : Option Addr) (l2 c2 : Nat) : World :=
  (((((w.alloc (.cells #[.int .i64 t, .slice a l c] 24)).alloc (.cells #[.int .i64 t2, .slice a2 l2 c2] 24)).alloc (.cells #[.int .i64 t, .slice a l c] 24)).alloc (.cells #[.int .i64 t2, .slice a2 l2 c2] 24)).alloc
    (.cells #[.slice (some ⟨w.heap.size + 1 + 1, 0, none⟩) 1 1, .slice (some ⟨w.heap.size + 1 + 1 + 1, 0, none⟩) 1 1] 74)).alloc (.cells #[.slice (some ⟨w.heap.size + 1 + 1 + 1 + 1, 0, none⟩) 1 1] 75)

theorem sw_inv (w : World) (t : Int) (a : Option Addr) (l c : Nat) (t2 : Int) (a2 : Option Addr) (l2 c2 : Nat) : SInv w (sw w t a l c t2 a2 l2 c2) (w.heap.size + 1 + 1 + 1 + 1 + 1) (w.heap.size + 1 + 1) (w.heap.size + 1 + 1 + 1) #[.int .i64 t, .slice a l c] #[.int .i64 t2, .slice a2 l2 c2]
    (.slice (some ⟨w.heap.size + 1 + 1 + 1 + 1, 0, none⟩) 1 1) [cpV (some ⟨w.heap.size + 1 + 1, 0, none⟩) 1 1 (some ⟨w.heap.size + 1 + 1 + 1, 0, none⟩) 1 1] := by
  have e2 := heap_alloc_new ((w.alloc (.cells #[.int .i64 t, .slice a l c] 24)).alloc (.cells #[.int .i64 t2, .slice a2 l2 c2] 24)) (.cells #[.int .i64 t, .slice a l c] 24)
  have e3 := heap_alloc_new (((w.alloc (.cells #[.int .i64 t, .slice a l c] 24)).alloc (.cells #[.int .i64 t2, .slice a2 l2 c2] 24)).alloc (.cells #[.int .i64 t, .slice a l c] 24)) (.cells #[.int .i64 t2, .slice a2 l2 c2] 24)
  have e4 := heap_alloc_new ((((w.alloc (.cells #[.int .i64 t, .slice a l c] 24)).alloc (.cells #[.int .i64 t2, .slice a2 l2 c2] 24)).alloc (.cells #[.int .i64 t, .slice a l c] 24)).alloc (.cells #[.int .i64 t2, .slice a2 l2 c2] 24))
    (.cells #[.slice (some ⟨w.heap.size + 1 + 1, 0, none⟩) 1 1, .slice (some ⟨w.heap.size + 1 + 1 + 1, 0, none⟩) 1 1] 74)
  have e5 := heap_alloc_new (((((w.alloc (.cells #[.int .i64 t, .slice a l c] 24)).alloc (.cells #[.int .i64 t2, .slice a2 l2 c2] 24)).alloc (.cells #[.int .i64 t, .slice a l c] 24)).alloc (.cells #[.int .i64 t2, .slice a2 l2 c2] 24)).alloc
    (.cells #[.slice (some ⟨w.heap.size + 1 + 1, 0, none⟩) 1 1, .slice (some ⟨w.heap.size + 1 + 1 + 1, 0, none⟩) 1 1] 74)) (.cells #[.slice (some ⟨w.heap.size + 1 + 1 + 1 + 1, 0, none⟩) 1 1] 75)
  simp only [World.size_alloc] at e2 e3 e4 e5
  refine ⟨Lf.gbt (Lf.gb _) (Lf.gbt (Lf.gb _) (Lf.gbt (Lf.gb _) (Lf.gbt (Lf.gb _) (Lf.gbt (Lf.gb _) (Lf.gb _))))), by omega, e5, ?_, ?_, ?_⟩
  · exact heap_keep (heap_keep (heap_keep e2))
  · exact heap_keep (heap_keep e3)
  · exact ⟨rfl, .inr ⟨w.heap.size + 1 + 1 + 1 + 1, 1, #[.slice (some ⟨w.heap.size + 1 + 1, 0, none⟩) 1 1, .slice (some ⟨w.heap.size + 1 + 1 + 1, 0, none⟩) 1 1], rfl, by omega, heap_keep e4, by simp, by simp [maxLen], rfl, rfl⟩⟩

/-- where Same stands -/
def SRel (w0 W1 : World) (q1 q2 : Array Value) (T U : Ty) (n : Nat) (wr : World) : Prop :=
  ∃ (v : Value) (vs : List Value) (rows : List (List Ty × List Ty)), SInv w0 wr (w0.heap.size + 1 + 1 + 1 + 1 + 1) (w0.heap.size + 1 + 1) (w0.heap.size + 1 + 1 + 1) q1 q2 v vs ∧
    RowsOk2 (fun b => b < w0.heap.size ∨ b = w0.heap.size + 1 + 1 ∨ b = w0.heap.size + 1 + 1 + 1) W1 rows vs ∧ leftOf2 rows = n ∧ n ≤ T.size + 1 ∧ rows.all sameRow = sameT T U

def sameAt (x y : List Ty) (i : Nat) : Bool := match x[i]?, y[i]? with
  | some p, some q => decide (p.t = q.t)
  | _, _ => true

theorem sameAt_eq {x y : List Ty} {i : Nat} (h1 : i < x.length) (h2 : i < y.length) : sameAt x y i = decide ((x[i]).t = (y[i]).t) := by
  simp [sameAt, List.getElem?_eq_getElem h1, List.getElem?_eq_getElem h2]

theorem zip_take_succ (x y : List Ty) (i : Nat) (h1 : i < x.length) (h2 : i < y.length) : ((x.zip y).map argsOf).take (i + 1) = ((x.zip y).map argsOf).take i ++ [((x[i]).args, (y[i]).args)] := by
  rw [List.take_succ_eq_append_getElem (by simp; omega)]
  simp [argsOf]

theorem zip_all {x y : List Ty} (hl : x.length = y.length) (h : ∀ i, i < x.length → sameAt x y i = true) : ∀ p ∈ x.zip y, p.1.t = p.2.t := by
  intro p hp
  obtain ⟨i, hi, rfl⟩ := List.getElem_of_mem hp
  rw [List.length_zip] at hi
  have h1 : i < x.length := by omega
  have := h i h1
  rw [sameAt_eq h1 (by omega)] at this
  simpa using this

theorem rowOne {w0 W : World} {t : Int} {a : Option Addr} {c r : Nat} {T : Ty} {ok : Nat → Prop} (hok : ok r) (hr : W.heap[r]? = some (.cells #[.int .i64 T.t, .slice a T.args.length c] 24 (0, 0))) (hL : LiesT ok W T (tyV T.t a T.args.length c)) : RowT ok W [T] (some ⟨r, 0, none⟩) (fun _ => tyV T.t a T.args.length c) := by
  refine ⟨by simp [maxLen], fun i hi => ?_, fun i hi => ?_⟩
  · have : i = 0 := by simpa using hi
    subst this
    exact ⟨_, 0, rfl, hok, T.t, a, T.args.length, c, rfl, cell0_of hr, cell1_of hr⟩
  · have : i = 0 := by simpa using hi
    subst this
    exact hL

set_option maxRecDepth 100000 in
set_option maxHeartbeats 1000000 in
theorem same_any {w0 : World} {T U : Ty} {v v2 : Value} (hL : LiesT (· < w0.heap.size) w0 T v) (hL2 : LiesT (· < w0.heap.size) w0 U v2) (hz : T.size ≤ 50000000) :
    Calls Try.prog 15 #[v, v2] w0 fun e w' => e = .returned (.bool (sameT T U)) ∧ w0.grownBy w' none := by
  obtain ⟨a, c, V, rfl, it, hR⟩ := hL.inv
  obtain ⟨a2, c2, V2, rfl, it2, hR2⟩ := hL2.inv
  have hsw := sw_inv w0 T.t a T.args.length c U.t a2 U.args.length c2
  obtain ⟨W1, hW1⟩ : ∃ W, W = sw w0 T.t a T.args.length c U.t a2 U.args.length c2 := ⟨_, rfl⟩
  rw [← hW1] at hsw
  obtain ⟨μ, hμ⟩ := least_of (SRel w0 W1 #[.int .i64 T.t, .slice a T.args.length c] #[.int .i64 U.t, .slice a2 U.args.length c2] T U)
  have h0 : SRel w0 W1 #[.int .i64 T.t, .slice a T.args.length c] #[.int .i64 U.t, .slice a2 U.args.length c2] T U (T.size + 1) W1 := by
    refine ⟨_, _, [([T], [U])], hsw, ⟨rfl, ?_⟩, by simp [leftOf2, tysizes], Nat.le_refl _, by simp [sameRow, sameTs]⟩
    intro i r u h1 h2
    cases i with
    | zero =>
      simp at h1 h2
      subst h1; subst h2
      have hs : Same (· < w0.heap.size) w0 W1 := fun b o hb _ => World.cell?_of_block (hsw.grown.block b hb (by simp))
      exact ⟨_, 1, _, _, 1, _, rfl, rowOne (w0 := w0) (t := T.t) (.inr (.inl rfl)) hsw.row1 ((hL.same hs).okMono (fun b _ hb => .inl hb)), rowOne (w0 := w0) (t := T.t) (.inr (.inr rfl)) hsw.row2 ((hL2.same hs).okMono (fun b _ hb => .inl hb))⟩
    | succ i => simp at h1
  have hrl : T.args.length ≤ maxLen := hR.1
  have hrl2 : U.args.length ≤ maxLen := hR2.1
  unfold maxLen at hrl hrl2
  have H0 := Lf.hide h0
  have HM := Lf.hide hμ
  have HSW := Lf.hide hsw
  have HW1 := Lf.hide hW1
  clear h0 hμ hR hR2 hL hL2 it it2 hsw hW1
  unfold tyV
  go_enter Try.func15, Try.ntmps15
  go_wp2_with fail
  go_loopw [7] (fun _ wr => ∃ n, SRel w0 W1 #[.int .i64 T.t, .slice a T.args.length c] #[.int .i64 U.t, .slice a2 U.args.length c2] T U n wr) (fun _ wr => μ wr)
  case atStart =>
    have h := H0.out
    rw [HW1.out] at h ⊢
    exact ⟨_, h⟩
  case round =>
    obtain ⟨n0, hn0⟩ := hrel
    obtain ⟨v1, vs, rows, hI, hRows, hn, hle, hall⟩ := (HM.out wr n0 hn0).1
    have d1 := cell_of_one hI.tod
    have f1 := free_of_one hI.tod
    have lt1 := lt_of_block hI.tod
    by_cases hv : vs.length = 0
    · obtain ⟨a0, cc0, rfl⟩ := own_empty hI.own hv
      have hres : sameT T U = true := by
        have h1 := hRows.1
        have h2 : rows = [] := List.length_eq_zero_iff.1 (by omega)
        rw [h2] at hall
        exact hall.symm
      have HR := Lf.hide hres
      have HI := Lf.hide hI
      clear hI hRows hn hle hall hres hn0
      go_wp2_with fail
      go_ret
      exact ⟨by rw [HR.out]; rfl, HI.out.grown⟩
    · obtain ⟨rows', r, vs', u, rfl, rfl, hRows', a3, c3, V3, a4, c4, V4, rfl, hRT, hRT2⟩ := hRows.last (by omega)
      obtain ⟨x, y⟩ := r
      simp only at hRT hRT2
      have hlv : (vs' ++ [cpV a3 x.length c3 a4 y.length c4]).length = vs'.length + 1 := by simp
      have hform := World.ownsRow.form hI.own (by simp)
      rw [hlv] at hform
      obtain ⟨g, cap, rfl, _, _⟩ := hform
      have hown : wr.ownsRow w0.heap.size 74 2 (.slice (some ⟨g, 0, none⟩) (vs'.length + 1) cap) (vs'.length + 1) (flatT (vs' ++ [cpV a3 x.length c3 a4 y.length c4])) := by
        have ho := hI.own
        unfold OwnsC at ho
        rw [hlv] at ho
        exact ho
      have hcap := own_cap hown
      have hcap1 : vs'.length ≤ cap := by omega
      have hcap2 : ¬ cap = 0 := by omega
      obtain ⟨hc0, hc1⟩ := own_last2 hown
      have hI2 := (hI.pop rfl rfl).alloc (.cells #[.slice a3 x.length c3, .slice a4 y.length c4] 74)
      have hb1 : vs'.length + 1 ≤ 50000001 := by
        have h1 : rows'.length + 1 = vs'.length + 1 := by have := hRows.1; simpa using this
        have h2 := len_left2 (rows' ++ [(x, y)])
        rw [List.length_append, List.length_singleton] at h2
        omega
      have hleft : leftOf2 rows' + (tysizes x + 1) = μ wr := by rw [← hn, leftOf2_append, leftOf2_single]
      have hE : Calls Try.prog 35 #[.slice a3 x.length c3, .slice a4 y.length c4, .func (.func 40) #[] #[.pointer (some ⟨w0.heap.size + 1 + 1 + 1 + 1 + 1, 0, none⟩)]]
          ((wr.setCell ⟨w0.heap.size + 1 + 1 + 1 + 1 + 1, 0, none⟩ (.slice (some ⟨g, 0, none⟩) vs'.length cap)).alloc (.cells #[.slice a3 x.length c3, .slice a4 y.length c4] 74)) fun e w' => (e = .returned (.bool true) ∧ ∃ m, m < μ wr ∧ SRel w0 W1 #[.int .i64 T.t, .slice a T.args.length c] #[.int .i64 U.t, .slice a2 U.args.length c2] T U m w') ∨
            (e = .returned (.bool false) ∧ sameT T U = false ∧ w0.grownBy w' none) := by
        by_cases hxy : x.length = y.length
        · rw [← hxy] at hI2 ⊢
          refine (equal_any 40 _ x.length a3 a4 c3 c4 V3 V4 (sameAt x y) (fun i w => ∃ v2 vs2, SInv w0 w (w0.heap.size + 1 + 1 + 1 + 1 + 1) (w0.heap.size + 1 + 1) (w0.heap.size + 1 + 1 + 1) #[.int .i64 T.t, .slice a T.args.length c] #[.int .i64 U.t, .slice a2 U.args.length c2] v2 vs2 ∧
              RowsOk2 (fun b => b < w0.heap.size ∨ b = w0.heap.size + 1 + 1 ∨ b = w0.heap.size + 1 + 1 + 1) W1 (rows' ++ ((x.zip y).map argsOf).take i) vs2) (fun w => w0.grownBy w none) hRT.1 ent_same1 ?_ ?_ ?_ ?_ _ ⟨_, vs', hI2, by simpa using hRows'⟩).mono ?_
          · rintro i w hi ⟨v2, vs2, hI3, _⟩
            exact ((hRT.2.1 i hi).same (HSW.out.same hI3)).okMono (fun _ _ _ => trivial)
          · rintro i w hi ⟨v2, vs2, hI3, _⟩
            exact ((hRT2.2.1 i (by omega)).same (HSW.out.same hI3)).okMono (fun _ _ _ => trivial)
          · rintro i w o ⟨v2, vs2, hI3, h4⟩
            exact ⟨v2, vs2, hI3.alloc o, h4⟩
          · rintro i w hi ⟨v2, vs2, hI3, h4⟩
            have hi2 : i < y.length := by omega
            obtain ⟨ax, cx, Vx, hVx, _, hRx⟩ := (hRT.2.2 i hi).inv
            obtain ⟨ay, cy, Vy, hVy, _, hRy⟩ := (hRT2.2.2 i hi2).inv
            have hlen : vs2.length ≤ 100000000 := by
              have h5 := h4.1
              have h6 : (((x.zip y).map argsOf).take i).length ≤ x.length := by simp; omega
              have h7 := tylength_le x
              have h8 := hRows'.1
              rw [List.length_append] at h5
              omega
            rw [hVx, hVy]
            refine (look2_any hI3 hlen).mono ?_
            rintro e w' ⟨rfl, v', hI4⟩
            rw [sameAt_eq hi hi2]
            refine ⟨rfl, fun _ => ⟨v', _, hI4, ?_⟩, fun _ => hI4.grown⟩
            rw [zip_take_succ x y i hi hi2, ← List.append_assoc]
            exact h4.snoc ⟨ax, cx, Vx, ay, cy, Vy, rfl, hRx, hRy⟩
          · rintro e w' (⟨rfl, ⟨v2, vs2, hI3, h4⟩, hb⟩ | ⟨i, hi, hb, rfl, hg⟩)
            · rw [List.take_of_length_le (by simp; omega)] at h4
              have h7 := zip_left x y
              refine .inl ⟨rfl, leftOf2 (rows' ++ (x.zip y).map argsOf), ?_, v2, vs2, _, hI3, h4, rfl, ?_, ?_⟩
              · rw [leftOf2_append]; omega
              · rw [leftOf2_append]; omega
              · rw [← hall, List.all_append, List.all_append, ← sameTs_zip x y hxy (zip_all hxy hb)]; simp [sameRow]
            · refine .inr ⟨rfl, ?_, hg⟩
              have hi2 : i < y.length := by omega
              rw [sameAt_eq hi hi2] at hb
              rw [← hall, List.all_append]
              simp [sameRow, sameTs_no x y i hi hi2 (by simpa using hb)]
        · refine (equal_len _ _ _ _ _ _ _ hxy hRT.1 hRT2.1 _).mono ?_
          rintro e w' ⟨rfl, rfl⟩
          refine .inr ⟨rfl, ?_, hI2.grown⟩
          have : sameTs x y = false := by
            cases h : sameTs x y with
            | false => rfl
            | true => exact absurd (sameTs_len h) hxy
          rw [← hall, List.all_append]
          simp [sameRow, this]
      have HE := Lf.hide hE
      have hvv : (vs'.length : Int) ≤ 4611686018427387904 := by omega
      clear hE hI2 hI hRows hRows' hRT hRT2 hn hle hall hn0 hlv hleft hz hb1 hv hcap hown
      unfold cpV at *
      go_wp2_with fail
      refine HE.out.mono ?_
      rintro e w2 (⟨rfl, hm⟩ | ⟨rfl, hno, hg⟩)
      · have HM2 := Lf.hide hm
        clear hm
        go_wp2_with fail
        obtain ⟨m, h1, h2⟩ := HM2.out
        go_roundw
        case rel => exact ⟨m, h2⟩
        case measure => exact Nat.lt_of_le_of_lt (HM.out _ m h2).2 h1
      · have HN := Lf.hide hno
        have HG := Lf.hide hg
        clear hno hg
        go_wp2_with fail
        go_ret
        exact ⟨by rw [HN.out]; rfl, HG.out⟩

end Go.Proofs.Ytdninmanfncfiad
