/- kind.all and the function within it, by their contracts. -/
import Derived.Test.YtmmgihaoahhkjaaKindA
namespace Go.Proofs.Ytmmgihaoahhkjaa
open Go.ChangeShapes Go.WideShapes Go.ChangeAt Go.RowKit
set_option linter.unusedVariables false

structure AInv (w0 w : World) (wb tb fb rb kw kf : Nat) (rc : Array Value) (v : Value) (vs : List Value) : Prop where
  grown : w0.grownBy w none
  tlt : w0.heap.size ≤ tb
  win : w.heap[wb]? = some (.cells #[.func (.func kw) #[] #[]] 76 (0, 0))
  fin : w.heap[fb]? = some (.cells #[.func (.func kf) #[] #[]] 77 (0, 0))
  tod : w.heap[tb]? = some (.cells #[v] 118 (0, 0))
  row : w.heap[rb]? = some (.cells rc 24 (0, 0))
  own : OwnsS w0.heap.size w v vs

theorem AInv.alloc {w0 w : World} {wb tb fb rb kw kf : Nat} {rc : Array Value} {v : Value} {vs : List Value} (h : AInv w0 w wb tb fb rb kw kf rc v vs) (o : Obj) : AInv w0 (w.alloc o) wb tb fb rb kw kf rc v vs :=
  ⟨Lf.gbt h.grown (Lf.gb _), h.tlt, heap_keep h.win, heap_keep h.fin, heap_keep h.tod, heap_keep h.row, World.ownsRow.alloc h.own _⟩

theorem AInv.call {w0 w w' : World} {wb tb fb rb kw kf : Nat} {rc : Array Value} {v : Value} {vs : List Value} (h : AInv w0 w wb tb fb rb kw kf rc v vs) (hg : w.grownBy w' none) : AInv w0 w' wb tb fb rb kw kf rc v vs :=
  ⟨Lf.gbt h.grown hg, h.tlt, (hg.block _ (lt_of_block h.win) (by simp)).trans h.win, (hg.block _ (lt_of_block h.fin) (by simp)).trans h.fin, (hg.block _ (lt_of_block h.tod) (by simp)).trans h.tod, (hg.block _ (lt_of_block h.row) (by simp)).trans h.row,
    World.ownsRow.kept h.own hg (by cases v.ownBlock <;> simp)⟩

theorem AInv.push {w0 w w' : World} {wb tb fb rb kw kf : Nat} {rc : Array Value} {v v' u : Value} {vs : List Value} (h : AInv w0 w wb tb fb rb kw kf rc v vs) (hg : Gr w v w' v') (ho : OwnsS w0.heap.size w' v' (vs ++ [u])) : AInv w0 (w'.setCell ⟨tb, 0, none⟩ v') wb tb fb rb kw kf rc v' (vs ++ [u]) := by
  have k1 : w'.heap[wb]? = _ := (hg.block (lt_of_block h.win) (own_ne_type h.own h.win (by decide))).trans h.win
  have k2 : w'.heap[fb]? = _ := (hg.block (lt_of_block h.fin) (own_ne_type h.own h.fin (by decide))).trans h.fin
  have k3 : w'.heap[tb]? = _ := (hg.block (lt_of_block h.tod) (own_ne_type h.own h.tod (by decide))).trans h.tod
  have k4 : w'.heap[rb]? = _ := (hg.block (lt_of_block h.row) (own_ne_type h.own h.row (by decide))).trans h.row
  refine ⟨grow_setNew (grow_own h.grown h.own (Nat.le_refl _) hg.1) h.tlt _ _ _, h.tlt, ?_, ?_, one_setCell k3, ?_, ownsRow_setCell_other ho (fun e => own_ne_type ho k3 (by decide) e.symm) _⟩
  · rw [Below.heap_setCell _ _ _ _ (ne_of_type k1 k3 (by decide))]; exact k1
  · rw [Below.heap_setCell _ _ _ _ (ne_of_type k2 k3 (by decide))]; exact k2
  · rw [Below.heap_setCell _ _ _ _ (ne_of_type k4 k3 (by decide))]; exact k4

theorem AInv.pop {w0 w : World} {wb tb fb rb kw kf g n cap : Nat} {rc : Array Value} {u : Value} {vs : List Value} (h : AInv w0 w wb tb fb rb kw kf rc (.slice (some ⟨g, 0, none⟩) (n + 1) cap) (vs ++ [u])) (hn : vs.length = n) : AInv w0 (w.setCell ⟨tb, 0, none⟩ (.slice (some ⟨g, 0, none⟩) n cap)) wb tb fb rb kw kf rc (.slice (some ⟨g, 0, none⟩) n cap) vs := by
  have ho := h.own
  unfold OwnsS at ho
  rw [List.length_append, hn] at ho
  have h2 := own_cut ho
  refine ⟨grow_setNew h.grown h.tlt _ _ _, h.tlt, ?_, ?_, one_setCell h.tod, ?_, ?_⟩
  · rw [Below.heap_setCell _ _ _ _ (ne_of_type h.win h.tod (by decide))]; exact h.win
  · rw [Below.heap_setCell _ _ _ _ (ne_of_type h.fin h.tod (by decide))]; exact h.fin
  · rw [Below.heap_setCell _ _ _ _ (ne_of_type h.row h.tod (by decide))]; exact h.row
  · unfold OwnsS
    rw [hn]
    exact ownsRow_setCell_other h2 (fun e => own_ne_type h2 h.tod (by decide) e.symm) _

theorem AInv.same {w0 w w' : World} {wb tb fb rb kw kf : Nat} {rc : Array Value} {v v' : Value} {vs vs' : List Value} (h : AInv w0 w wb tb fb rb kw kf rc v vs) (h' : AInv w0 w' wb tb fb rb kw kf rc v' vs') : Same (fun b => b < w0.heap.size ∨ b = rb) w w' := by
  intro b o hb _
  refine World.cell?_of_block ?_
  rcases hb with hb | rfl
  · exact (h'.grown.block b hb (by simp)).trans (h.grown.block b hb (by simp)).symm
  · exact h'.row.trans h.row.symm

/-- the rows that are left lie in memory as the slices vs -/
def RowV (ok : Nat → Prop) (w : World) (r : List Ty) (u : Value) : Prop := ∃ a c V, u = .slice a r.length c ∧ RowT ok w r a V

def RowsOk (ok : Nat → Prop) (w : World) (rows : List (List Ty)) (vs : List Value) : Prop := rows.length = vs.length ∧ ∀ (i : Nat) (r : List Ty) (u : Value), rows[i]? = some r → vs[i]? = some u → RowV ok w r u

theorem RowsOk.snoc {ok : Nat → Prop} {w : World} {rows : List (List Ty)} {vs : List Value} {r : List Ty} {u : Value} (h : RowsOk ok w rows vs) (hr : RowV ok w r u) : RowsOk ok w (rows ++ [r]) (vs ++ [u]) := by
  refine ⟨by simp [h.1], fun i r' u' h1 h2 => ?_⟩
  by_cases hi : i < rows.length
  · rw [List.getElem?_append_left hi] at h1
    rw [List.getElem?_append_left (by rw [← h.1]; exact hi)] at h2
    exact h.2 i r' u' h1 h2
  · have hi' : i = rows.length := by
      have := (List.getElem?_eq_some_iff.1 h1).1
      simp at this; omega
    subst hi'
    rw [List.getElem?_append_right (Nat.le_refl _)] at h1
    rw [h.1, List.getElem?_append_right (Nat.le_refl _)] at h2
    simp at h1 h2
    subst h1; subst h2
    exact hr

theorem RowsOk.unsnoc {ok : Nat → Prop} {w : World} {rows : List (List Ty)} {vs : List Value} {r : List Ty} {u : Value} (h : RowsOk ok w (rows ++ [r]) (vs ++ [u])) : RowsOk ok w rows vs ∧ RowV ok w r u := by
  have hl : rows.length = vs.length := by have := h.1; simp at this; exact this
  refine ⟨⟨hl, fun i r' u' h1 h2 => ?_⟩, ?_⟩
  · have k1 := (List.getElem?_eq_some_iff.1 h1).1
    have k2 := (List.getElem?_eq_some_iff.1 h2).1
    exact h.2 i r' u' (by rw [List.getElem?_append_left k1]; exact h1) (by rw [List.getElem?_append_left k2]; exact h2)
  · exact h.2 rows.length r u (by rw [List.getElem?_append_right (Nat.le_refl _)]; simp) (by rw [hl, List.getElem?_append_right (Nat.le_refl _)]; simp)

theorem RowsOk.last {ok : Nat → Prop} {w : World} {rows : List (List Ty)} {vs : List Value} (h : RowsOk ok w rows vs) (hn : 0 < vs.length) : ∃ rows' r vs' u, rows = rows' ++ [r] ∧ vs = vs' ++ [u] ∧ RowsOk ok w rows' vs' ∧ RowV ok w r u := by
  have h1 : rows ≠ [] := by intro e; rw [e] at h; have := h.1; simp at this; omega
  have h2 : vs ≠ [] := by intro e; rw [e] at hn; simp at hn
  have e1 := (List.dropLast_concat_getLast h1).symm
  have e2 := (List.dropLast_concat_getLast h2).symm
  rw [e1, e2] at h
  obtain ⟨a, b⟩ := h.unsnoc
  exact ⟨_, _, _, _, e1, e2, a, b⟩

set_option maxHeartbeats 400000 in
/-- the function within all -/
theorem look_any {w0 w : World} {wb tb fb rb kw kf : Nat} {rc : Array Value} {v : Value} {vs : List Value} {inn f : Int → Bool} {t : Int} {a : Option Addr} {l c : Nat} (hI : AInv w0 w wb tb fb rb kw kf rc v vs) (hw : Within kw inn) (hf : Fine kf f) (hl : l ≤ maxLen) (hlen : vs.length ≤ 100000000)
    (ekw : ∀ args w, (callFunc kw args).run Try.prog w = .ok (.enter kw args) w) (ekf : ∀ args w, (callFunc kf args).run Try.prog w = .ok (.enter kf args) w) :
    Calls Try.prog 93 #[tyV t a l c, .pointer (some ⟨wb, 0, none⟩), .pointer (some ⟨tb, 0, none⟩), .pointer (some ⟨fb, 0, none⟩)] w fun e w' => e = .returned (.bool (f t)) ∧
      ∃ v', AInv w0 w' wb tb fb rb kw kf rc v' (vs ++ if inn t = true ∧ 0 < l then [.slice a l c] else []) := by
  unfold maxLen at hl
  have HI := Lf.hide hI
  have HW := Lf.hide (hw t a l c (w.alloc (.cells #[.int .i64 t, .slice a l c] 24)))
  have HF := Lf.hide hf
  have c1 := cell_of_one hI.win
  have c2 := cell_of_one hI.tod
  have c3 := cell_of_one hI.fin
  have l1 := lt_of_block hI.win
  have l2 := lt_of_block hI.tod
  have l3 := lt_of_block hI.fin
  clear hI hw hf
  by_cases hA : inn t = true ∧ 0 < l
  · have hl0 : (0 : Int) < (l : Int) := by omega
    have hW := HW.out
    rw [if_pos hA.1] at hW
    have HW2 := Lf.hide hW
    rw [if_pos hA]
    clear HW hW hA
    unfold tyV at HW2 ⊢
    go_enter Try.func93, Try.ntmps93
    go_wp2_with fail
    refine HW2.out.mono ?_; rintro e w1 ⟨rfl, hg⟩
    have hI1 := (HI.out.alloc (.cells #[.int .i64 t, .slice a l c] 24)).call hg
    have hbx : w1.heap[w.heap.size]? = some (.cells #[.int .i64 t, .slice a l c] 24 (0, 0)) := (hg.block w.heap.size (by simp) (by simp)).trans (heap_alloc_new _ _)
    have hBX := Lf.hide hbx
    have d2 := cell_of_one hI1.tod
    have hI1H := Lf.hide hI1
    have hown := Lf.hide hI1.own
    have hB := hI1.grown.size
    clear hg hI1 hbx c1 c2 c3 HI
    go_wp2_with (at_builtin; refine appS w0.heap.size vs a l c w1 v rfl (.tmp 13) (.tmp 15) rfl rfl rfl rfl hown.out hB hlen ?_; intro g cap w2 ho2 hg2; have HO2 := Lf.hide ho2; have HG2 := Lf.hide hg2; clear ho2 hg2; have k3 := (HG2.out.block (lt_of_block hI1H.out.tod) (own_ne_type hI1H.out.own hI1H.out.tod (by decide))).trans hI1H.out.tod; have m3 := free_of_one k3; have m4 := cell_of_one k3; have HI3 := Lf.hide (hI1H.out.push HG2.out HO2.out); have m5 := cell_of_one HI3.out.fin; have m6 := cell0_of ((Below.heap_setCell _ ⟨tb, 0, none⟩ (.slice (some ⟨g, 0, none⟩) (vs.length + 1) cap) _ (ne_of_type ((HG2.out.block (lt_of_block hBX.out) (own_ne_type hI1H.out.own hBX.out (by decide))).trans hBX.out) k3 (by decide))).trans ((HG2.out.block (lt_of_block hBX.out) (own_ne_type hI1H.out.own hBX.out (by decide))).trans hBX.out)); clear k3)
    refine (HF.out t _).mono ?_; rintro e w3 ⟨rfl, rfl⟩
    go_wp2_with fail
    go_ret
    exact ⟨rfl, _, HI3.out⟩
  · have hW : ∃ a' c', ∀ W, (W = w.alloc (.cells #[.int .i64 t, .slice a l c] 24)) → Calls Try.prog kw #[tyV t a l c] W fun e w' => e = .returned (.slice a' 0 c') ∧ W.grownBy w' none := by
      have hW := HW.out
      by_cases hi : inn t = true
      · have : l = 0 := by
          by_cases h0 : 0 < l
          · exact absurd ⟨hi, h0⟩ hA
          · omega
        subst this
        rw [if_pos hi] at hW
        exact ⟨a, c, fun W e => by subst e; exact hW⟩
      · rw [if_neg hi] at hW
        exact ⟨none, 0, fun W e => by subst e; exact hW⟩
    obtain ⟨a', c', hW2⟩ := hW
    have HW2 := Lf.hide (hW2 _ rfl)
    rw [if_neg hA, List.append_nil]
    clear HW hW2 hA
    unfold tyV at HW2 ⊢
    go_enter Try.func93, Try.ntmps93
    go_wp2_with fail
    refine HW2.out.mono ?_; rintro e w1 ⟨rfl, hg⟩
    have hI1 := (HI.out.alloc (.cells #[.int .i64 t, .slice a l c] 24)).call hg
    have hbx : w1.heap[w.heap.size]? = some (.cells #[.int .i64 t, .slice a l c] 24 (0, 0)) := (hg.block w.heap.size (by simp) (by simp)).trans (heap_alloc_new _ _)
    have m6 := cell0_of hbx
    have m5 := cell_of_one hI1.fin
    have hI1H := Lf.hide hI1
    clear hg hI1 hbx c1 c2 c3 HI
    go_wp2_with fail
    refine (HF.out t _).mono ?_; rintro e w3 ⟨rfl, rfl⟩
    go_wp2_with fail
    go_ret
    exact ⟨rfl, _, hI1H.out⟩

end Go.Proofs.Ytmmgihaoahhkjaa

/- kind.all by its contract. -/
namespace Go.Proofs.Ytmmgihaoahhkjaa
open Go.ChangeShapes Go.WideShapes Go.ChangeAt Go.RowKit
set_option linter.unusedVariables false

theorem ent_all1 : ∀ args w, (callFunc 93 args).run Try.prog w = .ok (.enter 93 args) w := fun args w => by simp [go_sem]

/-- what all has laid ahead of its loop -/
def aw (w : World) (t : Int) (a : Option Addr) (l c kw kf : Nat) : World :=
  (((((w.alloc (.cells #[.int .i64 t, .slice a l c] 24)).alloc (.cells #[.func (.func kw) #[] #[]] 76)).alloc (.cells #[.func (.func kf) #[] #[]] 77)).alloc
    (.cells #[.int .i64 t, .slice a l c] 24)).alloc (.cells #[.slice (some ⟨w.heap.size + 1 + 1 + 1, 0, none⟩) 1 1] 22)).alloc (.cells #[.slice (some ⟨w.heap.size + 1 + 1 + 1 + 1, 0, none⟩) 1 1] 118)

theorem aw_inv (w : World) (t : Int) (a : Option Addr) (l c kw kf : Nat) : AInv w (aw w t a l c kw kf) (w.heap.size + 1) (w.heap.size + 1 + 1 + 1 + 1 + 1) (w.heap.size + 1 + 1) (w.heap.size + 1 + 1 + 1) kw kf #[.int .i64 t, .slice a l c]
    (.slice (some ⟨w.heap.size + 1 + 1 + 1 + 1, 0, none⟩) 1 1) [.slice (some ⟨w.heap.size + 1 + 1 + 1, 0, none⟩) 1 1] := by
  have e1 := heap_alloc_new (w.alloc (.cells #[.int .i64 t, .slice a l c] 24)) (.cells #[.func (.func kw) #[] #[]] 76)
  have e2 := heap_alloc_new ((w.alloc (.cells #[.int .i64 t, .slice a l c] 24)).alloc (.cells #[.func (.func kw) #[] #[]] 76)) (.cells #[.func (.func kf) #[] #[]] 77)
  have e3 := heap_alloc_new (((w.alloc (.cells #[.int .i64 t, .slice a l c] 24)).alloc (.cells #[.func (.func kw) #[] #[]] 76)).alloc (.cells #[.func (.func kf) #[] #[]] 77)) (.cells #[.int .i64 t, .slice a l c] 24)
  have e4 := heap_alloc_new ((((w.alloc (.cells #[.int .i64 t, .slice a l c] 24)).alloc (.cells #[.func (.func kw) #[] #[]] 76)).alloc (.cells #[.func (.func kf) #[] #[]] 77)).alloc (.cells #[.int .i64 t, .slice a l c] 24))
    (.cells #[.slice (some ⟨w.heap.size + 1 + 1 + 1, 0, none⟩) 1 1] 22)
  have e5 := heap_alloc_new (((((w.alloc (.cells #[.int .i64 t, .slice a l c] 24)).alloc (.cells #[.func (.func kw) #[] #[]] 76)).alloc (.cells #[.func (.func kf) #[] #[]] 77)).alloc (.cells #[.int .i64 t, .slice a l c] 24)).alloc
    (.cells #[.slice (some ⟨w.heap.size + 1 + 1 + 1, 0, none⟩) 1 1] 22)) (.cells #[.slice (some ⟨w.heap.size + 1 + 1 + 1 + 1, 0, none⟩) 1 1] 118)
  simp only [World.size_alloc] at e1 e2 e3 e4 e5
  refine ⟨Lf.gbt (Lf.gb _) (Lf.gbt (Lf.gb _) (Lf.gbt (Lf.gb _) (Lf.gbt (Lf.gb _) (Lf.gbt (Lf.gb _) (Lf.gb _))))), by omega, ?_, ?_, e5, ?_, ?_⟩
  · exact heap_keep (heap_keep (heap_keep (heap_keep e1)))
  · exact heap_keep (heap_keep (heap_keep e2))
  · exact heap_keep (heap_keep e3)
  · exact ⟨rfl, .inr ⟨w.heap.size + 1 + 1 + 1 + 1, 1, #[.slice (some ⟨w.heap.size + 1 + 1 + 1, 0, none⟩) 1 1], rfl, by omega, heap_keep e4, by simp, by simp [maxLen], rfl, rfl⟩⟩

/-- where all stands -/
def ARel (w0 W1 : World) (kw kf : Nat) (rc : Array Value) (inn f : Int → Bool) (T : Ty) (n : Nat) (wr : World) : Prop :=
  ∃ (v : Value) (vs : List Value) (rows : List (List Ty)), AInv w0 wr (w0.heap.size + 1) (w0.heap.size + 1 + 1 + 1 + 1 + 1) (w0.heap.size + 1 + 1) (w0.heap.size + 1 + 1 + 1) kw kf rc v vs ∧
    RowsOk (fun b => b < w0.heap.size ∨ b = w0.heap.size + 1 + 1 + 1) W1 rows vs ∧ leftOf rows = n ∧ n ≤ T.size + 1 ∧ rows.all (allFs inn f) = allF inn f T

def fineAt (f : Int → Bool) (r : List Ty) (i : Nat) : Bool := match r[i]? with
  | some x => f x.t
  | none => true

theorem add_none (g o x : Nat) : (⟨g, o, none⟩ : Addr).add x = ⟨g, o + x, none⟩ := by unfold Addr.add; split <;> simp_all

theorem own_empty {w : World} {B : Nat} {e : TypeId} {size n : Nat} {v : Value} {xs : List Value} (h : w.ownsRow B e size v n xs) (hn : n = 0) : ∃ a c, v = .slice a 0 c := by
  rcases h.2 with ⟨rfl, _⟩ | ⟨g, cap, cur, rfl, _⟩
  · exact ⟨_, _, rfl⟩
  · exact ⟨_, _, by rw [hn]⟩

theorem own_cap {w : World} {B : Nat} {e : TypeId} {size n g cap : Nat} {xs : List Value} (h : w.ownsRow B e size (.slice (some ⟨g, 0, none⟩) n cap) n xs) : n ≤ cap ∧ cap ≤ maxLen := by
  rcases h.2 with ⟨hx, _⟩ | ⟨g', cap', cur, hx, _, _, h3, h4, _⟩
  · simp at hx
  · simp only [Value.slice.injEq, true_and] at hx
    rw [hx.2]; exact ⟨h3, h4⟩

theorem pushes_rows {ok : Nat → Prop} {W : World} {rows : List (List Ty)} {vs : List Value} {inn : Int → Bool} {x : Ty} {a : Option Addr} {c : Nat} {V : Nat → Value} (h : RowsOk ok W rows vs) (hx : RowT ok W x.args a V) :
    RowsOk ok W (rows ++ pushes inn x) (vs ++ if inn x.t = true ∧ 0 < x.args.length then [.slice a x.args.length c] else []) := by
  by_cases hA : inn x.t = true ∧ 0 < x.args.length
  · have e : pushes inn x = [x.args] := by
      obtain ⟨t, args⟩ := x
      have h1 : inn t = true := hA.1
      have h2 : 0 < args.length := hA.2
      cases args with
      | nil => simp at h2
      | cons y l => simp [pushes, rowOf, h1, Ty.args]
    rw [if_pos hA, e]
    exact h.snoc ⟨a, c, V, rfl, hx⟩
  · have e : pushes inn x = [] := by
      obtain ⟨t, args⟩ := x
      cases args with
      | nil => simp [pushes, rowOf]
      | cons y l =>
        have h1 : ¬ inn t = true := fun h => hA ⟨h, by simp [Ty.args]⟩
        simp [pushes, h1]
    rw [if_neg hA, e]
    simpa using h

set_option maxRecDepth 100000 in
set_option maxHeartbeats 1000000 in
theorem all_any {kw kf : Nat} {inn f : Int → Bool} (hw : Within kw inn) (hf : Fine kf f) (ekw : ∀ args w, (callFunc kw args).run Try.prog w = .ok (.enter kw args) w) (ekf : ∀ args w, (callFunc kf args).run Try.prog w = .ok (.enter kf args) w)
    {w0 : World} {T : Ty} {v : Value} (hL : LiesT (· < w0.heap.size) w0 T v) (hz : T.size ≤ 50000000) :
    Calls Try.prog 51 #[v, .func (.func kw) #[] #[], .func (.func kf) #[] #[]] w0 fun e w' => e = .returned (.bool (allF inn f T)) ∧ w0.grownBy w' none := by
  obtain ⟨a, c, V, rfl, it, hR⟩ := hL.inv
  obtain ⟨μ, hμ⟩ := least_of (ARel w0 (aw w0 T.t a T.args.length c kw kf) kw kf #[.int .i64 T.t, .slice a T.args.length c] inn f T)
  have h0 : ARel w0 (aw w0 T.t a T.args.length c kw kf) kw kf #[.int .i64 T.t, .slice a T.args.length c] inn f T (T.size + 1) (aw w0 T.t a T.args.length c kw kf) := by
    have hI := aw_inv w0 T.t a T.args.length c kw kf
    refine ⟨_, _, [[T]], hI, ⟨rfl, ?_⟩, by simp [leftOf, tysizes], Nat.le_refl _, by simp [allFs]⟩
    intro i r u h1 h2
    cases i with
    | zero =>
      simp at h1 h2
      subst h1; subst h2
      refine ⟨some ⟨w0.heap.size + 1 + 1 + 1, 0, none⟩, 1, fun _ => tyV T.t a T.args.length c, rfl, by simp [maxLen], fun i hi => ?_, fun i hi => ?_⟩
      · have : i = 0 := by simpa using hi
        subst this
        exact ⟨_, 0, rfl, .inr rfl, T.t, a, T.args.length, c, rfl, cell0_of hI.row, cell1_of hI.row⟩
      · have : i = 0 := by simpa using hi
        subst this
        have hs : Same (· < w0.heap.size) w0 (aw w0 T.t a T.args.length c kw kf) := fun b o hb _ => World.cell?_of_block (hI.grown.block b hb (by simp))
        exact (hL.same hs).okMono (fun b _ hb => .inl hb)
    | succ i => simp at h1
  have hrl : T.args.length ≤ maxLen := hR.1
  unfold maxLen at hrl
  have H0 := Lf.hide h0
  have HM := Lf.hide hμ
  clear h0 hμ hR hL it
  unfold tyV
  go_enter Try.func51, Try.ntmps51
  go_wp2_with fail
  go_loopw [9] (fun _ wr => ∃ n, ARel w0 (aw w0 T.t a T.args.length c kw kf) kw kf #[.int .i64 T.t, .slice a T.args.length c] inn f T n wr) (fun _ wr => μ wr)
  case atStart => exact ⟨_, H0.out⟩
  case round =>
    obtain ⟨n0, hn0⟩ := hrel
    obtain ⟨v1, vs, rows, hI, hRows, hn, hle, hall⟩ := (HM.out wr n0 hn0).1
    have c1 := cell_of_one hI.tod
    have f1 := free_of_one hI.tod
    by_cases hv : vs.length = 0
    · obtain ⟨a0, cc0, rfl⟩ := own_empty hI.own hv
      have hres : allF inn f T = true := by
        have h1 := hRows.1
        have h2 : rows = [] := List.length_eq_zero_iff.1 (by omega)
        rw [h2] at hall
        exact hall.symm
      have HR := Lf.hide hres
      have HI := Lf.hide hI
      clear hI hRows hn hle hall hres hn0
      go_wp2_with fail
      go_ret
      exact ⟨by rw [HR.out]; rfl, HI.out.grown⟩
    · obtain ⟨rows', r, vs', u, rfl, rfl, hRows', ar, cr, Vr, rfl, hRT⟩ := hRows.last (by omega)
      have hlv : (vs' ++ [Value.slice ar r.length cr]).length = vs'.length + 1 := by simp
      have hform := World.ownsRow.form hI.own (by omega)
      rw [hlv] at hform
      obtain ⟨g, cap, rfl, _, _⟩ := hform
      have hcap : vs'.length + 1 ≤ cap ∧ cap ≤ maxLen := by
        have ho := hI.own
        unfold OwnsS at ho
        rw [hlv] at ho
        exact own_cap ho
      have hcap1 : vs'.length ≤ cap := by omega
      have hcap2 : ¬ cap = 0 := by omega
      have hcell : wr.cell? ⟨g, vs'.length, none⟩ = some (.slice ar r.length cr) := by
        have := World.ownsRow.cells hI.own (g := g) rfl vs'.length (.slice ar r.length cr) (by simp)
        rw [add_none, Nat.zero_add] at this
        exact this
      have hI2 := hI.pop rfl
      have hb1 : vs'.length + 1 ≤ 50000001 := by
        have h1 := hRows.1
        have h2 := len_left (rows' ++ [r])
        omega
      have hleft : leftOf rows' + (tysizes r + 1) = μ wr := by rw [← hn, leftOf_append, leftOf_single]
      have hE : Calls Try.prog 94 #[.slice ar r.length cr, .func (.func 93) #[] #[.pointer (some ⟨w0.heap.size + 1, 0, none⟩), .pointer (some ⟨w0.heap.size + 1 + 1 + 1 + 1 + 1, 0, none⟩), .pointer (some ⟨w0.heap.size + 1 + 1, 0, none⟩)]]
          (wr.setCell ⟨w0.heap.size + 1 + 1 + 1 + 1 + 1, 0, none⟩ (.slice (some ⟨g, 0, none⟩) vs'.length cap)) fun e w' => (e = .returned (.bool true) ∧ ∃ m, m < μ wr ∧ ARel w0 (aw w0 T.t a T.args.length c kw kf) kw kf #[.int .i64 T.t, .slice a T.args.length c] inn f T m w') ∨
            (e = .returned (.bool false) ∧ allF inn f T = false ∧ w0.grownBy w' none) := by
        refine (every_any 93 _ r.length ar cr Vr (fineAt f r) (fun i w => ∃ v2 vs2, AInv w0 w (w0.heap.size + 1) (w0.heap.size + 1 + 1 + 1 + 1 + 1) (w0.heap.size + 1 + 1) (w0.heap.size + 1 + 1 + 1) kw kf #[.int .i64 T.t, .slice a T.args.length c] v2 vs2 ∧
            RowsOk (fun b => b < w0.heap.size ∨ b = w0.heap.size + 1 + 1 + 1) (aw w0 T.t a T.args.length c kw kf) (rows' ++ (r.take i).flatMap (pushes inn)) vs2) (fun w => w0.grownBy w none) hRT.1 ent_all1 ?_ ?_ ?_ _ ⟨_, vs', hI2, by simpa using hRows'⟩).mono ?_
        · rintro i w hi ⟨v2, vs2, hI3, _⟩
          exact ((hRT.2.1 i hi).same ((aw_inv w0 T.t a T.args.length c kw kf).same hI3)).okMono (fun _ _ _ => trivial)
        · rintro i w o ⟨v2, vs2, hI3, h4⟩
          exact ⟨v2, vs2, hI3.alloc o, h4⟩
        · rintro i w hi ⟨v2, vs2, hI3, h4⟩
          obtain ⟨ax, cx, Vx, hVx, _, hRx⟩ := (hRT.2.2 i hi).inv
          have hlen : vs2.length ≤ 100000000 := by
            have h5 := h4.1
            have h6 := len_left (rows' ++ (r.take i).flatMap (pushes inn))
            have h7 := flatPushes_left inn (r.take i)
            have h8 := tysizes_take_le r i
            rw [leftOf_append] at h6
            omega
          rw [hVx]
          refine (look_any hI3 hw hf hRx.1 hlen ekw ekf).mono ?_
          rintro e w' ⟨rfl, v', hI4⟩
          have hfa : fineAt f r i = f (r[i]).t := by simp [fineAt, List.getElem?_eq_getElem hi]
          rw [hfa]
          refine ⟨rfl, fun _ => ⟨v', _, hI4, ?_⟩, fun _ => hI4.grown⟩
          rw [flatMap_take_succ _ _ _ hi, ← List.append_assoc]
          exact pushes_rows h4 hRx
        · rintro e w' (⟨rfl, ⟨v2, vs2, hI3, h4⟩, hb⟩ | ⟨i, hi, hb, rfl, hg⟩)
          · rw [List.take_length] at h4
            have hyes : ∀ x ∈ r, f x.t = true := by
              intro x hx
              obtain ⟨i, hi, rfl⟩ := List.getElem_of_mem hx
              have := hb i hi
              simpa [fineAt, List.getElem?_eq_getElem hi] using this
            have h7 := flatPushes_left inn r
            refine .inl ⟨rfl, leftOf (rows' ++ r.flatMap (pushes inn)), ?_, v2, vs2, _, hI3, h4, rfl, ?_, ?_⟩
            · rw [leftOf_append]; omega
            · rw [leftOf_append]; omega
            · rw [← hall, List.all_append, List.all_append, ← allFs_pushes inn f r hyes]; simp
          · refine .inr ⟨rfl, ?_, hg⟩
            have hno : f (r[i]).t = false := by simpa [fineAt, List.getElem?_eq_getElem hi] using hb
            rw [← hall, List.all_append]
            simp [allFs_no inn f r i hi hno]
      have HE := Lf.hide hE
      have hvv : (vs'.length : Int) ≤ 4611686018427387904 := by omega
      clear hz hb1 hv hcap hE hI2 hI hRows hRows' hRT hn hle hall hn0 hlv hleft
      go_wp2_with fail
      refine HE.out.mono ?_
      rintro e w2 (⟨rfl, hm⟩ | ⟨rfl, hno, hg⟩)
      · have HM2 := Lf.hide hm
        clear hm
        go_wp2_with fail
        obtain ⟨m, h1, h2⟩ := HM2.out
        go_roundw
        case rel => exact ⟨m, h2⟩
        case measure => exact Nat.lt_of_le_of_lt (HM.out _ m h2).2 h1
      · have HN := Lf.hide hno
        have HG := Lf.hide hg
        clear hno hg
        go_wp2_with fail
        go_ret
        exact ⟨by rw [HN.out]; rfl, HG.out⟩

end Go.Proofs.Ytmmgihaoahhkjaa

/- kind.Comparable, Copied, Packed, Stored, keyed and Good by their contracts. -/
namespace Go.Proofs.Ytmmgihaoahhkjaa
open Go.ChangeShapes Go.WideShapes Go.ChangeAt Go.RowKit
set_option linter.unusedVariables false

theorem LiesT.grow {w w' : World} {T : Ty} {v : Value} (h : LiesT (· < w.heap.size) w T v) (hg : w.grownBy w' none) : LiesT (· < w'.heap.size) w' T v :=
  (h.same (w' := w') (fun b o hb _ => World.cell?_of_block (hg.block b hb (by simp)))).okMono (fun b hb _ => hb)

theorem comparable_any {w : World} {T : Ty} {v : Value} (hL : LiesT (· < w.heap.size) w T v) (hz : T.size ≤ 50000000) :
    Calls Try.prog 24 #[v] w fun e w' => e = .returned (.bool (compT T)) ∧ w.grownBy w' none := by
  obtain ⟨a, c, V, rfl, it, hR⟩ := hL.inv
  have HA := Lf.hide (all_any made_any comp1_any (fun args w => by simp [go_sem]) (fun args w => by simp [go_sem]) (hL.grow (Lf.gb (.cells #[.int .i64 T.t, .slice a T.args.length c] 24))) hz)
  clear hL hR it hz
  unfold tyV at HA ⊢
  go_enter Try.func24, Try.ntmps24
  go_wp2_with fail
  refine HA.out.mono ?_; rintro e w1 ⟨rfl, hg⟩
  have HG := Lf.hide hg
  clear hg
  go_wp2_with fail
  go_ret
  exact ⟨rfl, Lf.gbt (Lf.gb _) HG.out⟩



theorem packed_any {w : World} {T : Ty} {v : Value} (hL : LiesT (· < w.heap.size) w T v) (hz : T.size ≤ 50000000) :
    Calls Try.prog 22 #[v] w fun e w' => e = .returned (.bool (packT T)) ∧ w.grownBy w' none := by
  obtain ⟨a, c, V, rfl, it, hR⟩ := hL.inv
  have HA := Lf.hide (all_any made_any pack1_any (fun args w => by simp [go_sem]) (fun args w => by simp [go_sem]) (hL.grow (Lf.gb (.cells #[.int .i64 T.t, .slice a T.args.length c] 24))) hz)
  clear hL hR it hz
  unfold tyV at HA ⊢
  go_enter Try.func22, Try.ntmps22
  go_wp2_with fail
  refine HA.out.mono ?_; rintro e w1 ⟨rfl, hg⟩
  have HG := Lf.hide hg
  clear hg
  go_wp2_with fail
  go_ret
  exact ⟨rfl, Lf.gbt (Lf.gb _) HG.out⟩



def keyedAt (args : List Ty) (i : Nat) : Bool := match args[i]? with
  | some x => keyedF x
  | none => true

theorem keyed_all {args : List Ty} (h : ∀ i, i < args.length → keyedAt args i = true) : keyedFs args = true := by
  rw [keyedFs_all, List.all_eq_true]
  intro x hx
  obtain ⟨i, hi, rfl⟩ := List.getElem_of_mem hx
  simpa [keyedAt, List.getElem?_eq_getElem hi] using h i hi

theorem keyed_no {args : List Ty} {i : Nat} (hi : i < args.length) (h : keyedAt args i = false) : keyedFs args = false := by
  cases hq : keyedFs args with
  | false => rfl
  | true =>
    rw [keyedFs_all, List.all_eq_true] at hq
    have := hq args[i] (List.getElem_mem hi)
    simp [keyedAt, List.getElem?_eq_getElem hi, this] at h

set_option maxHeartbeats 1000000 in
theorem keyed_any {w : World} {T : Ty} {v : Value} (hL : LiesT (· < w.heap.size) w T v) : ∀ (d : Nat) (w2 : World), w.grownBy w2 none → formedB d T = true → T.size ≤ 50000000 →
    Calls Try.prog 64 #[v] w2 fun e w' => e = .returned (.bool (keyedF T)) ∧ w2.grownBy w' none := by
  induction hL with
  | @mk t args a c V hl hlc it hc hr ih =>
    intro d w2 hg0 hfm hz
    simp only [formedB, Bool.and_eq_true, decide_eq_true_eq] at hfm
    obtain ⟨⟨_, _, hpa⟩, hfs⟩ := hfm
    rw [formedBs_all, List.all_eq_true] at hfs
    rw [Ty.size] at hz
    have hE : ∀ w3, w2.grownBy w3 none → Calls Try.prog 94 #[.slice a args.length c, .func (.func 64) #[] #[]] w3 fun e w' => e = .returned (.bool (keyedFs args)) ∧ w2.grownBy w' none := by
      intro w3 hg3
      refine (every_any 64 #[] args.length a c V (keyedAt args) (fun _ wr => w2.grownBy wr none) (fun wr => w2.grownBy wr none) hl ent_keyed ?_ ?_ ?_ _ hg3).mono ?_
      · intro i wr hi hI
        exact ((hc i hi).same (w' := wr) (fun b o hb _ => World.cell?_of_block ((Lf.gbt hg0 hI).block b hb (by simp)))).okMono (fun _ _ _ => trivial)
      · intro i wr o hI
        exact Lf.gbt hI (Lf.gb _)
      · intro i wr hi hI
        rw [Array.append_empty]
        refine (ih i hi (d + 1) wr (Lf.gbt hg0 hI) (hfs _ (List.getElem_mem hi)) (by have := tysize_mem (List.getElem_mem hi); omega)).mono ?_
        rintro e w' ⟨rfl, hg⟩
        have e1 : keyedAt args i = keyedF args[i] := by simp [keyedAt, List.getElem?_eq_getElem hi]
        rw [e1]
        exact ⟨rfl, fun _ => Lf.gbt hI hg, fun _ => Lf.gbt hI hg⟩
      · rintro e w' (⟨rfl, hI, hb⟩ | ⟨i, hi, hb, rfl, hg⟩)
        · rw [keyed_all hb]; exact ⟨rfl, hI⟩
        · rw [keyed_no hi hb]; exact ⟨rfl, hg⟩
    unfold maxLen at hl
    have HE := Lf.hide hE
    by_cases hk : t = 13 ∨ t = 15
    · have hlen : 0 < args.length := by
        unfold partsF at hpa
        rcases hk with rfl | rfl <;> simp at hpa <;> omega
      obtain ⟨b0, o0, t0, a0, l0, c0, rfl, hb0, hv0, e0, e1⟩ := (hc 0 hlen).cells
      have hL0 := hr 0 hlen
      have hC : ∀ w3, w.grownBy w3 none → Calls Try.prog 24 #[V 0] w3 fun e w' => e = .returned (.bool (compT args[0])) ∧ w3.grownBy w' none := fun w3 hg3 => comparable_any (hL0.grow hg3) (by have := tysize_mem (List.getElem_mem hlen); omega)
      rw [hv0] at hC
      unfold tyV at hC
      have hkF : keyedF (.nd t args) = (compT args[0] && keyedFs args) := by
        have e2 : headComp args = compT args[0] := by
          cases args with
          | nil => simp at hlen
          | cons x l => rfl
        simp [keyedF, keyHere, hk, e2]
      have hs0 : (w2.alloc (.cells #[.int .i64 t, .slice (some ⟨b0, o0, none⟩) args.length c] 24)).cell? ⟨b0, o0, none⟩ = some (.int .i64 t0) := by
        rw [World.cell?_of_block ((Lf.gbt hg0 (Lf.gb _)).block b0 hb0 (by simp))]; simpa using e0
      have hs1 : (w2.alloc (.cells #[.int .i64 t, .slice (some ⟨b0, o0, none⟩) args.length c] 24)).cell? ⟨b0, o0 + 1, none⟩ = some (.slice a0 l0 c0) := by
        rw [World.cell?_of_block ((Lf.gbt hg0 (Lf.gb _)).block b0 hb0 (by simp))]; simpa using e1
      have hlen' : (0 : Int) < (args.length : Int) := by omega
      have HC := Lf.hide (hC _ (Lf.gbt hg0 (Lf.gb (.cells #[.int .i64 t, .slice (some ⟨b0, o0, none⟩) args.length c] 24))))
      have HK := Lf.hide hkF
      clear hC hE ih hc hr hfs hL0 hkF e0 e1 hv0 hpa hz
      unfold tyV
      generalize compT args[0] = cmp at *
      rcases hk with rfl | rfl
      all_goals
        cases cmp
        all_goals
          go_enter Try.func64, Try.ntmps64
          go_wp2_with fail
          refine HC.out.mono ?_; rintro e w3 ⟨rfl, hg3⟩
          have hbx := (hg3.block w2.heap.size (by simp) (by simp)).trans (heap_alloc_new _ _)
          have x1 := cell1_of hbx
          have HG3 := Lf.hide hg3
          clear hg3 hbx
          go_wp2_with fail
      all_goals first
        | (go_ret; exact ⟨by rw [HK.out]; rfl, Lf.gbt (Lf.gb _) HG3.out⟩)
        | (refine (HE.out _ (Lf.gbt (Lf.gb _) HG3.out)).mono ?_; rintro e w4 ⟨rfl, hg4⟩
           have HG4 := Lf.hide hg4
           clear hg4
           go_wp2_with fail
           go_ret
           exact ⟨by rw [HK.out]; simp, HG4.out⟩)
    · have hkF : keyedF (.nd t args) = keyedFs args := by simp [keyedF, keyHere, hk]
      have HK := Lf.hide hkF
      have k1 : (t == 13) = false := by simp; omega
      have k2 : (t == 15) = false := by simp; omega
      clear hE ih hc hr hfs hkF hpa hz
      unfold tyV
      go_enter Try.func64, Try.ntmps64
      go_wp2_with fail
      refine (HE.out _ (Lf.gb _)).mono ?_; rintro e w4 ⟨rfl, hg4⟩
      have HG4 := Lf.hide hg4
      clear hg4
      go_wp2_with fail
      go_ret
      exact ⟨by rw [HK.out]; rfl, HG4.out⟩

end Go.Proofs.Ytmmgihaoahhkjaa

/- kind.Good by its contract. -/
namespace Go.Proofs.Ytmmgihaoahhkjaa
open Go.ChangeShapes Go.WideShapes Go.ChangeAt Go.RowKit
set_option linter.unusedVariables false

theorem grow_fresh {w W w' : World} {b : Nat} (h : w.grownBy W none) (hb : w.heap.size ≤ b) (hg : W.grownBy w' (some b)) : w.grownBy w' none :=
  ⟨hg.os.trans h.os, hg.tape.trans h.tape, hg.output.trans h.output, Nat.le_trans h.size hg.size, fun i hi hr => (hg.block i (Nat.lt_of_lt_of_le hi h.size) (by simp; omega)).trans (h.block i hi hr)⟩

theorem goodTy_formed {T : Ty} (h : goodTy T = true) : formedB 1 T = true ∧ T.size ≤ 300 ∧ keyedF T = true := by
  simp only [goodTy, Bool.and_eq_true, decide_eq_true_eq] at h
  exact ⟨h.1.1, h.1.2, h.2⟩

set_option maxHeartbeats 400000 in
theorem kgood_any {w : World} {T : Ty} {v : Value} (hL : LiesT (· < w.heap.size) w T v) :
    Calls Try.prog 29 #[v] w fun e w' => e = .returned (.bool (goodTy T)) ∧ w.grownBy w' none := by
  obtain ⟨a, c, V, rfl, it, hR⟩ := hL.inv
  have hgW : w.grownBy ((w.alloc (.cells #[.int .i64 T.t, .slice a T.args.length c] 24)).alloc (.cells #[.int .i64 0] 3)) none := Lf.gbt (Lf.gb _) (Lf.gb _)
  have hcnt : CountAt ((w.alloc (.cells #[.int .i64 T.t, .slice a T.args.length c] 24)).alloc (.cells #[.int .i64 0] 3)) (w.heap.size + 1) 0 := by
    have := heap_alloc_new (w.alloc (.cells #[.int .i64 T.t, .slice a T.args.length c] 24)) (.cells #[.int .i64 0] 3)
    rw [World.size_alloc] at this
    exact this
  have hL2 : LiesT (· ≠ w.heap.size + 1) ((w.alloc (.cells #[.int .i64 T.t, .slice a T.args.length c] 24)).alloc (.cells #[.int .i64 0] 3)) T (tyV T.t a T.args.length c) :=
    (hL.same (fun b o hb _ => World.cell?_of_block (hgW.block b hb (by simp)))).okMono (fun b _ hb => by have : b < w.heap.size := hb; show b ≠ _; omega)
  have hF := formed_any hL2 1 0 _ (Same.refl _ _) (Nat.le_refl _) hcnt (by omega) (by omega)
  have HK : Hid (formedAt 1 0 T = true → ∀ w3, w.grownBy w3 none → Calls Try.prog 64 #[tyV T.t a T.args.length c] w3 fun e w' => e = .returned (.bool (keyedF T)) ∧ w3.grownBy w' none) := by
    intro h w3 hg3
    simp only [formedAt, Bool.and_eq_true, decide_eq_true_eq] at h
    exact keyed_any hL 1 w3 hg3 h.1 (by omega)
  have hgood : goodTy T = (formedAt 1 0 T && keyedF T) := by simp [goodTy, formedAt]
  have HGD := Lf.hide hgood
  have HGW := Lf.hide hgW
  clear hL hR it hcnt hL2 hgood hgW
  unfold FormedPost at hF
  rw [show (((1 : Nat)) : Int) = 1 from rfl] at hF
  generalize formedAt 1 0 T = fa at *
  cases fa with
  | false =>
    have HF := Lf.hide hF
    clear hF HK
    unfold tyV at HF ⊢
    go_enter Try.func29, Try.ntmps29
    go_wp2_with fail
    refine HF.out.mono ?_; rintro e w1 ⟨rfl, hg, _⟩
    have HG := Lf.hide (grow_fresh HGW.out (by omega) hg)
    clear hg
    go_wp2_with fail
    go_ret
    exact ⟨by rw [HGD.out]; rfl, HG.out⟩
  | true =>
    have HF := Lf.hide hF
    have HK2 := Lf.hide (HK.out rfl)
    clear hF HK
    unfold tyV at HF HK2 ⊢
    go_enter Try.func29, Try.ntmps29
    go_wp2_with fail
    refine HF.out.mono ?_; rintro e w1 ⟨rfl, hg, _⟩
    have hbx : w1.heap[w.heap.size]? = some (.cells #[.int .i64 T.t, .slice a T.args.length c] 24 (0, 0)) := (hg.block w.heap.size (by simp; omega) (by simp)).trans (heap_keep (heap_alloc_new _ _))
    have x0 := cell0_of hbx
    have x1 := cell1_of hbx
    have HG := Lf.hide (grow_fresh HGW.out (by omega) hg)
    clear hg hbx
    go_wp2_with fail
    refine (HK2.out _ HG.out).mono ?_; rintro e w2 ⟨rfl, hg2⟩
    have HG2 := Lf.hide hg2
    clear hg2
    go_wp2_with fail
    go_ret
    exact ⟨by rw [HGD.out]; simp, Lf.gbt HG.out HG2.out⟩

end Go.Proofs.Ytmmgihaoahhkjaa

/- Lists of types that a function makes: what they hold, and that it stays. -/
namespace Go.Proofs.Ytmmgihaoahhkjaa
open Go.ChangeShapes Go.WideShapes Go.ChangeAt Go.RowKit
set_option linter.unusedVariables false

theorem info_ty : (Try.prog.info? 24).map (fun i => (i.zero, i.size, i.bytes)) = some (some (.agg #[.int .i64 0, .slice none 0 0]), 2, 32) := by kernel_rfl

def tyCells : Value → List Value
  | .agg xs => xs.toList
  | _ => []

def flatT (vs : List Value) : List Value := vs.flatMap tyCells

/-- the slice v is the call's own and holds the nodes vs -/
def OwnsT (B : Nat) (w : World) (v : Value) (vs : List Value) : Prop := w.ownsRow B 24 2 v vs.length (flatT vs)

theorem flatT_append (a b : List Value) : flatT (a ++ b) = flatT a ++ flatT b := by simp [flatT]

/-- one node put behind a list of the call's own -/
theorem appT {ops : Array Oper} {rest : List Oper} {o : Oper} {a : Act} {Q : Exit → Act → World → Prop} (B : Nat) (vs : List Value) (k : Int) (sa : Option Addr) (sl sc : Nat) (w0 : World) (v : Value) (hgd : o.guard = none) (s x : Operand)
    (ho : o.op = .call { callee := .builtin .append, args := #[s, x], argTypes := #[22, 22] }) (hs : a.eval s = v) {H : Nat} (hx : a.eval x = .slice (some ⟨H, 0, none⟩) 1 1) (hH : w0.heap.size = H)
    (hown : OwnsT B w0 v vs) (hB : B ≤ w0.heap.size) (hlen : vs.length ≤ 1000000000000)
    (h : ∀ g cap w', OwnsT B w' (.slice (some ⟨g, 0, none⟩) (vs.length + 1) cap) (vs ++ [tyV k sa sl sc]) → Gr w0 v w' (.slice (some ⟨g, 0, none⟩) (vs.length + 1) cap) → wpList Try.prog ops Q rest (a.put o.dst (.slice (some ⟨g, 0, none⟩) (vs.length + 1) cap)) w') :
    wpList Try.prog ops Q (o :: rest) a (w0.alloc (.cells #[.int .i64 k, .slice sa sl sc] 24)) := by
  obtain ⟨i0, hi, hz0, hz1, hz2⟩ := info_parts info_ty
  subst hH
  refine wpList_append_lies _ hgd s x 22 ho B 24 i0 _ 2 32 Try.underlying22 hi hz0 hz1 hz2 rfl (by decide) v vs.length (flatT vs) hs (World.ownsRow.alloc hown _) ⟨w0.heap.size, 0, none⟩ 1 1 [.int .i64 k, .slice sa sl sc] hx rfl ?_ ?_ (by decide) ?_ ?_ ?_ _ rfl ?_
  · exact World.news_of_block (w := w0.alloc _) (B := w0.heap.size) (cs := #[.int .i64 k, .slice sa sl sc]) (heap_alloc_new _ _)
  · intro u hu; simp at hu; rcases hu with rfl | rfl <;> rfl
  · unfold maxLen; omega
  · omega
  · simp; omega
  · intro g cap w' h1 h2 h3 _
    refine h g cap w' ?_ ?_
    · unfold OwnsT; rw [flatT_append, List.length_append]; exact h1
    · refine Gr.trans (Gr.alloc (Gr.refl w0 v) _) ⟨h2, ?_⟩
      rcases h3 with h3 | h3
      · exact .inl h3.symm
      · exact .inr ⟨g, rfl, by omega⟩

/-- .. at a step of a region that draws its order -/
theorem step_appT {ops : Array Oper} {o : Oper} {a : Act} {K : Act → World → Prop} {Q : Exit → Act → World → Prop} {E : Prop} (B : Nat) (vs : List Value) (k : Int) (sa : Option Addr) (sl sc : Nat) (w0 : World) (v : Value) (hgd : o.guard = none) (s x : Operand)
    (ho : o.op = .call { callee := .builtin .append, args := #[s, x], argTypes := #[22, 22] }) (hs : a.eval s = v) {H : Nat} (hx : a.eval x = .slice (some ⟨H, 0, none⟩) 1 1) (hH : w0.heap.size = H)
    (hown : OwnsT B w0 v vs) (hB : B ≤ w0.heap.size) (hlen : vs.length ≤ 1000000000000)
    (h : ∀ g cap w', OwnsT B w' (.slice (some ⟨g, 0, none⟩) (vs.length + 1) cap) (vs ++ [tyV k sa sl sc]) → Gr w0 v w' (.slice (some ⟨g, 0, none⟩) (vs.length + 1) cap) → K (a.put o.dst (.slice (some ⟨g, 0, none⟩) (vs.length + 1) cap)) w') :
    if Region.wanted o (yielded ops a.tmps) = true then Oper.wp Try.prog o a (w0.alloc (.cells #[.int .i64 k, .slice sa sl sc] 24)) K Q else E := by
  have hw : Region.wanted o (yielded ops a.tmps) = true := by simp [Region.wanted, hgd]
  rw [if_pos hw]
  obtain ⟨i0, hi, hz0, hz1, hz2⟩ := info_parts info_ty
  subst hH
  refine wp_append_lies _ s x 22 ho B 24 i0 _ 2 32 Try.underlying22 hi hz0 hz1 hz2 rfl (by decide) v vs.length (flatT vs) hs (World.ownsRow.alloc hown _) ⟨w0.heap.size, 0, none⟩ 1 1 [.int .i64 k, .slice sa sl sc] hx rfl ?_ ?_ (by decide) ?_ ?_ ?_ _ rfl ?_
  · exact World.news_of_block (w := w0.alloc _) (B := w0.heap.size) (cs := #[.int .i64 k, .slice sa sl sc]) (heap_alloc_new _ _)
  · intro u hu; simp at hu; rcases hu with rfl | rfl <;> rfl
  · unfold maxLen; omega
  · omega
  · simp; omega
  · intro g cap w' h1 h2 h3 _
    refine h g cap w' ?_ ?_
    · unfold OwnsT; rw [flatT_append, List.length_append]; exact h1
    · refine Gr.trans (Gr.alloc (Gr.refl w0 v) _) ⟨h2, ?_⟩
      rcases h3 with h3 | h3
      · exact .inl h3.symm
      · exact .inr ⟨g, rfl, by omega⟩

/-- the list v holds the trees ts, whose own memory is from H on and not the list's -/
structure ListOkT (H : Nat) (w : World) (v : Value) (ts : List Ty) (vs : List Value) : Prop where
  own : OwnsT H w v vs
  len : vs.length = ts.length
  lies : ∀ (i : Nat) (t : Ty) (u : Value), ts[i]? = some t → vs[i]? = some u → LiesT (fun b => H ≤ b ∧ some b ≠ v.ownBlock) w t u

theorem ListOkT.nil (H : Nat) (w : World) : ListOkT H w (.slice none 0 0) [] [] := ⟨World.ownsRow_nil _ _ _ _, rfl, fun i t u h => by simp at h⟩

theorem ListOkT.keep {H : Nat} {w w' : World} {v : Value} {ts : List Ty} {vs : List Value} {rb : Nat} (h : ListOkT H w v ts vs) (hg : w.grownBy w' (some rb)) (hrb : rb < H) : ListOkT H w' v ts vs := by
  refine ⟨World.ownsRow.kept h.own hg ?_, h.len, fun i t u ht hu => (h.lies i t u ht hu).same ?_⟩
  · cases hv : v.ownBlock with
    | none => exact .inl rfl
    | some k => right; have := (World.ownsRow.lt h.own k hv).1; simp; omega
  · intro b o hb hlt
    exact World.cell?_of_block (hg.block b hlt (by simp; have := hb.1; omega))

theorem ListOkT.push {H : Nat} {w w' : World} {v v' u : Value} {ts : List Ty} {vs : List Value} {t : Ty} {S : Nat} (h : ListOkT H w v ts vs) (hS : H ≤ S) (hvS : ∀ k, v.ownBlock = some k → k < S) (hL : LiesT (S ≤ ·) w t u) (hg : Gr w v w' v') (ho : OwnsT H w' v' (vs ++ [u])) : ListOkT H w' v' (ts ++ [t]) (vs ++ [u]) := by
  have key : ∀ t u, LiesT (fun b => H ≤ b ∧ some b ≠ v.ownBlock) w t u → LiesT (fun b => H ≤ b ∧ some b ≠ v'.ownBlock) w' t u := by
    intro t u hl
    have h1 := hl.okMono (ok' := fun b => H ≤ b ∧ some b ≠ v.ownBlock ∧ some b ≠ v'.ownBlock) (fun b hb hk => ⟨hk.1, hk.2, by
      rcases hg.2 with e | ⟨g, e, hge⟩
      · rw [e]; exact hk.2
      · rw [e]; simp; omega⟩)
    refine (h1.same (w' := w') ?_).okMono (fun b _ hb => ⟨hb.1, hb.2.2⟩)
    intro b o hb hlt
    exact World.cell?_of_block (hg.block hlt hb.2.1)
  refine ⟨ho, by simp [h.len], fun i t' u' ht hu => key t' u' ?_⟩
  by_cases hi : i < ts.length
  · rw [List.getElem?_append_left hi] at ht
    rw [List.getElem?_append_left (by rw [h.len]; exact hi)] at hu
    exact h.lies i t' u' ht hu
  · have hi' : i = ts.length := by
      have := (List.getElem?_eq_some_iff.1 ht).1
      simp at this; omega
    subst hi'
    rw [List.getElem?_append_right (Nat.le_refl _)] at ht
    rw [← h.len, List.getElem?_append_right (Nat.le_refl _)] at hu
    simp at ht hu
    subst ht; subst hu
    exact hL.okMono (fun b _ hb => ⟨by have : S ≤ b := hb; omega, fun e => by have h2 := hvS b e.symm; have : S ≤ b := hb; omega⟩)

theorem flatT_get : ∀ (vs : List Value), (∀ u ∈ vs, (tyCells u).length = 2) → ∀ (i j : Nat) (u : Value), vs[i]? = some u → j < 2 → (flatT vs)[i * 2 + j]? = (tyCells u)[j]?
  | [], _, i, j, u, h, _ => by simp at h
  | x :: vs, hx, 0, j, u, h, hj => by
    simp at h; subst h
    have := hx x (by simp)
    simp only [flatT, List.flatMap_cons]
    rw [List.getElem?_append_left (by omega)]; simp
  | x :: vs, hx, i + 1, j, u, h, hj => by
    have h2x := hx x (by simp)
    have := flatT_get vs (fun u hu => hx u (by simp [hu])) i j u (by simpa using h) hj
    simp only [flatT, List.flatMap_cons] at this ⊢
    rw [List.getElem?_append_right (by omega), h2x, show (i + 1) * 2 + j - 2 = i * 2 + j from by omega]
    exact this

theorem LiesT.tyV {ok : Nat → Prop} {w : World} {t : Ty} {u : Value} (h : LiesT ok w t u) : ∃ k a l c, u = tyV k a l c := by cases h; exact ⟨_, _, _, _, rfl⟩

theorem ListOkT.done {H : Nat} {w : World} {v : Value} {ts : List Ty} {vs : List Value} (h : ListOkT H w v ts vs) :
    ∃ (a : Option Addr) (c : Nat) (V : Nat → Value), v = .slice a ts.length c ∧ (∀ i, i < ts.length → TyAt (H ≤ ·) w a i (V i)) ∧ (∀ i (hi : i < ts.length), LiesT (H ≤ ·) w ts[i] (V i)) := by
  have hl := h.len
  have each : ∀ i (hi : i < ts.length), ∃ u, vs[i]? = some u ∧ LiesT (H ≤ ·) w ts[i] u := by
    intro i hi
    have hv : i < vs.length := by omega
    exact ⟨vs[i], List.getElem?_eq_getElem hv, (h.lies i ts[i] vs[i] (List.getElem?_eq_getElem hi) (List.getElem?_eq_getElem hv)).okMono (fun b _ hb => hb.1)⟩
  have h2x : ∀ u ∈ vs, (tyCells u).length = 2 := by
    intro u hu
    obtain ⟨i, hi, rfl⟩ := List.getElem_of_mem hu
    obtain ⟨u, e, hL⟩ := each i (by omega)
    rw [List.getElem?_eq_getElem hi] at e
    simp at e
    obtain ⟨k, a, l, c, e2⟩ := hL.tyV
    rw [e, e2]; rfl
  have ho := h.own
  unfold OwnsT at ho
  rcases ho.2 with ⟨rfl, h0⟩ | ⟨g, cap, cur, rfl, hbg, hg, hnc, hcm, hcs, htake⟩
  · have h00 : ts.length = 0 := by omega
    exact ⟨none, 0, fun _ => .int .i64 0, by rw [h00], fun i hi => by omega, fun i hi => by omega⟩
  · refine ⟨some ⟨g, 0, none⟩, cap, fun i => (vs[i]?).getD (.int .i64 0), by rw [hl], fun i hi => ?_, fun i hi => ?_⟩
    · obtain ⟨u, e, hL⟩ := each i hi
      obtain ⟨k, a, l, c, e2⟩ := hL.tyV
      have hcell : ∀ j x, j < 2 → (tyCells u)[j]? = some x → w.cell? ⟨g, i * 2 + j, none⟩ = some x := by
        intro j x hj hx
        have := World.ownsRow.cells ho (g := g) rfl (i * 2 + j) x (by rw [flatT_get vs h2x i j u e hj]; exact hx)
        have hadd : (⟨g, 0, none⟩ : Addr).add (i * 2 + j) = ⟨g, i * 2 + j, none⟩ := by unfold Addr.add; split <;> simp_all
        rwa [hadd] at this
      rw [e2] at hcell
      refine ⟨g, 0, rfl, hbg, k, a, l, c, by show (vs[i]?).getD _ = _; rw [e]; exact e2, ?_, ?_⟩
      · have := hcell 0 _ (by omega) rfl; simpa using this
      · have := hcell 1 _ (by omega) rfl; simpa using this
    · obtain ⟨u, e, hL⟩ := each i hi
      show LiesT _ _ _ ((vs[i]?).getD _)
      rw [e]; exact hL

end Go.Proofs.Ytmmgihaoahhkjaa
