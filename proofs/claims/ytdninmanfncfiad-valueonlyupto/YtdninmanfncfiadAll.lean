/- kind.all and the function within it, by their contracts. -/
import Derived.Test.YtdninmanfncfiadTodo
namespace Go.Proofs.Ytdninmanfncfiad
open Go.ChangeShapes Go.WideShapes Go.ChangeAt Go.RowKit
set_option linter.unusedVariables false

structure AInv (w0 w : World) (wb tb fb rb kw kf : Nat) (rc : Array Value) (v : Value) (vs : List Value) : Prop where
  grown : w0.grownBy w none
  tlt : w0.heap.size ≤ tb
  win : w.heap[wb]? = some (.cells #[.func (.func kw) #[] #[]] 61 (0, 0))
  fin : w.heap[fb]? = some (.cells #[.func (.func kf) #[] #[]] 62 (0, 0))
  tod : w.heap[tb]? = some (.cells #[v] 93 (0, 0))
  row : w.heap[rb]? = some (.cells rc 24 (0, 0))
  own : OwnsS w0.heap.size w v vs

theorem AInv.alloc {w0 w : World} {wb tb fb rb kw kf : Nat} {rc : Array Value} {v : Value} {vs : List Value} (h : AInv w0 w wb tb fb rb kw kf rc v vs) (o : Obj) : AInv w0 (w.alloc o) wb tb fb rb kw kf rc v vs :=
  ⟨Lf.gbt h.grown (Lf.gb _), h.tlt, heap_keep h.win, heap_keep h.fin, heap_keep h.tod, heap_keep h.row, World.ownsRow.alloc h.own _⟩

theorem AInv.call {w0 w w' : World} {wb tb fb rb kw kf : Nat} {rc : Array Value} {v : Value} {vs : List Value} (h : AInv w0 w wb tb fb rb kw kf rc v vs) (hg : w.grownBy w' none) : AInv w0 w' wb tb fb rb kw kf rc v vs :=
  ⟨Lf.gbt h.grown hg, h.tlt, (hg.block _ (lt_of_block h.win) (by simp)).trans h.win, (hg.block _ (lt_of_block h.fin) (by simp)).trans h.fin, (hg.block _ (lt_of_block h.tod) (by simp)).trans h.tod, (hg.block _ (lt_of_block h.row) (by simp)).trans h.row,
    World.ownsRow.kept h.own hg (by cases v.ownBlock <;> simp)⟩

theorem AInv.push {w0 w w' : World} {wb tb fb rb kw kf : Nat} {rc : Array Value} {v v' u : Value} {vs : List Value} (h : AInv w0 w wb tb fb rb kw kf rc v vs) (hg : Gr w v w' v') (ho : OwnsS w0.heap.size w' v' (vs ++ [u])) : AInv w0 (w'.setCell ⟨tb, 0, none⟩ v') wb tb fb rb kw kf rc v' (vs ++ [u]) := by
  have k1 : w'.heap[wb]? = _ := (hg.block (lt_of_block h.win) (own_ne_type h.own h.win (by decide))).trans h.win
  have k2 : w'.heap[fb]? = _ := (hg.block (lt_of_block h.fin) (own_ne_type h.own h.fin (by decide))).trans h.fin
  have k3 : w'.heap[tb]? = _ := (hg.block (lt_of_block h.tod) (own_ne_type h.own h.tod (by decide))).trans h.tod
  have k4 : w'.heap[rb]? = _ := (hg.block (lt_of_block h.row) (own_ne_type h.own h.row (by decide))).trans h.row
  refine ⟨grow_setNew (grow_own h.grown h.own (Nat.le_refl _) hg.1) h.tlt _ _ _, h.tlt, ?_, ?_, one_setCell k3, ?_, ownsRow_setCell_other ho (fun e => own_ne_type ho k3 (by decide) e.symm) _⟩
  · rw [Below.heap_setCell _ _ _ _ (ne_of_type k1 k3 (by decide))]; exact k1
  · rw [Below.heap_setCell _ _ _ _ (ne_of_type k2 k3 (by decide))]; exact k2
  · rw [Below.heap_setCell _ _ _ _ (ne_of_type k4 k3 (by decide))]; exact k4

theorem AInv.pop {w0 w : World} {wb tb fb rb kw kf g n cap : Nat} {rc : Array Value} {u : Value} {vs : List Value} (h : AInv w0 w wb tb fb rb kw kf rc (.slice (some ⟨g, 0, none⟩) (n + 1) cap) (vs ++ [u])) (hn : vs.length = n) : AInv w0 (w.setCell ⟨tb, 0, none⟩ (.slice (some ⟨g, 0, none⟩) n cap)) wb tb fb rb kw kf rc (.slice (some ⟨g, 0, none⟩) n cap) vs := by
  have ho := h.own
  unfold OwnsS at ho
  rw [List.length_append, hn] at ho
  have h2 := own_cut ho
  refine ⟨grow_setNew h.grown h.tlt _ _ _, h.tlt, ?_, ?_, one_setCell h.tod, ?_, ?_⟩
  · rw [Below.heap_setCell _ _ _ _ (ne_of_type h.win h.tod (by decide))]; exact h.win
  · rw [Below.heap_setCell _ _ _ _ (ne_of_type h.fin h.tod (by decide))]; exact h.fin
  · rw [Below.heap_setCell _ _ _ _ (ne_of_type h.row h.tod (by decide))]; exact h.row
  · unfold OwnsS
    rw [hn]
    exact ownsRow_setCell_other h2 (fun e => own_ne_type h2 h.tod (by decide) e.symm) _

theorem AInv.same {w0 w w' : World} {wb tb fb rb kw kf : Nat} {rc : Array Value} {v v' : Value} {vs vs' : List Value} (h : AInv w0 w wb tb fb rb kw kf rc v vs) (h' : AInv w0 w' wb tb fb rb kw kf rc v' vs') : Same (fun b => b < w0.heap.size ∨ b = rb) w w' := by
  intro b o hb _
  refine World.cell?_of_block ?_
  rcases hb with hb | rfl
  · exact (h'.grown.block b hb (by simp)).trans (h.grown.block b hb (by simp)).symm
  · exact h'.row.trans h.row.symm

/-- the rows that are left lie in memory as the slices vs -/
def RowV (ok : Nat → Prop) (w : World) (r : List Ty) (u : Value) : Prop := ∃ a c V, u = .slice a r.length c ∧ RowT ok w r a V

def RowsOk (ok : Nat → Prop) (w : World) (rows : List (List Ty)) (vs : List Value) : Prop := rows.length = vs.length ∧ ∀ (i : Nat) (r : List Ty) (u : Value), rows[i]? = some r → vs[i]? = some u → RowV ok w r u

theorem RowsOk.snoc {ok : Nat → Prop} {w : World} {rows : List (List Ty)} {vs : List Value} {r : List Ty} {u : Value} (h : RowsOk ok w rows vs) (hr : RowV ok w r u) : RowsOk ok w (rows ++ [r]) (vs ++ [u]) := by
  refine ⟨by simp [h.1], fun i r' u' h1 h2 => ?_⟩
  by_cases hi : i < rows.length
  · rw [List.getElem?_append_left hi] at h1
    rw [List.getElem?_append_left (by rw [← h.1]; exact hi)] at h2
    exact h.2 i r' u' h1 h2
  · have hi' : i = rows.length := by
      have := (List.getElem?_eq_some_iff.1 h1).1
      simp at this; omega
    subst hi'
    rw [List.getElem?_append_right (Nat.le_refl _)] at h1
    rw [h.1, List.getElem?_append_right (Nat.le_refl _)] at h2
    simp at h1 h2
    subst h1; subst h2
    exact hr

theorem RowsOk.unsnoc {ok : Nat → Prop} {w : World} {rows : List (List Ty)} {vs : List Value} {r : List Ty} {u : Value} (h : RowsOk ok w (rows ++ [r]) (vs ++ [u])) : RowsOk ok w rows vs ∧ RowV ok w r u := by
  have hl : rows.length = vs.length := by have := h.1; simp at this; exact this
  refine ⟨⟨hl, fun i r' u' h1 h2 => ?_⟩, ?_⟩
  · have k1 := (List.getElem?_eq_some_iff.1 h1).1
    have k2 := (List.getElem?_eq_some_iff.1 h2).1
    exact h.2 i r' u' (by rw [List.getElem?_append_left k1]; exact h1) (by rw [List.getElem?_append_left k2]; exact h2)
  · exact h.2 rows.length r u (by rw [List.getElem?_append_right (Nat.le_refl _)]; simp) (by rw [hl, List.getElem?_append_right (Nat.le_refl _)]; simp)

theorem RowsOk.last {ok : Nat → Prop} {w : World} {rows : List (List Ty)} {vs : List Value} (h : RowsOk ok w rows vs) (hn : 0 < vs.length) : ∃ rows' r vs' u, rows = rows' ++ [r] ∧ vs = vs' ++ [u] ∧ RowsOk ok w rows' vs' ∧ RowV ok w r u := by
  have h1 : rows ≠ [] := by intro e; rw [e] at h; have := h.1; simp at this; omega
  have h2 : vs ≠ [] := by intro e; rw [e] at hn; simp at hn
  have e1 := (List.dropLast_concat_getLast h1).symm
  have e2 := (List.dropLast_concat_getLast h2).symm
  rw [e1, e2] at h
  obtain ⟨a, b⟩ := h.unsnoc
  exact ⟨_, _, _, _, e1, e2, a, b⟩

set_option maxHeartbeats 400000 in
/-- the function within all -/
theorem look_any {w0 w : World} {wb tb fb rb kw kf : Nat} {rc : Array Value} {v : Value} {vs : List Value} {inn f : Int → Bool} {t : Int} {a : Option Addr} {l c : Nat} (hI : AInv w0 w wb tb fb rb kw kf rc v vs) (hw : Within kw inn) (hf : Fine kf f) (hl : l ≤ maxLen) (hlen : vs.length ≤ 100000000)
    (ekw : ∀ args w, (callFunc kw args).run Try.prog w = .ok (.enter kw args) w) (ekf : ∀ args w, (callFunc kf args).run Try.prog w = .ok (.enter kf args) w) :
    Calls Try.prog 59 #[tyV t a l c, .pointer (some ⟨wb, 0, none⟩), .pointer (some ⟨tb, 0, none⟩), .pointer (some ⟨fb, 0, none⟩)] w fun e w' => e = .returned (.bool (f t)) ∧
      ∃ v', AInv w0 w' wb tb fb rb kw kf rc v' (vs ++ if inn t = true ∧ 0 < l then [.slice a l c] else []) := by
  unfold maxLen at hl
  have HI := Lf.hide hI
  have HW := Lf.hide (hw t a l c (w.alloc (.cells #[.int .i64 t, .slice a l c] 24)))
  have HF := Lf.hide hf
  have c1 := cell_of_one hI.win
  have c2 := cell_of_one hI.tod
  have c3 := cell_of_one hI.fin
  have l1 := lt_of_block hI.win
  have l2 := lt_of_block hI.tod
  have l3 := lt_of_block hI.fin
  clear hI hw hf
  by_cases hA : inn t = true ∧ 0 < l
  · have hl0 : (0 : Int) < (l : Int) := by omega
    have hW := HW.out
    rw [if_pos hA.1] at hW
    have HW2 := Lf.hide hW
    rw [if_pos hA]
    clear HW hW hA
    unfold tyV at HW2 ⊢
    go_enter Try.func59, Try.ntmps59
    go_wp2_with fail
    refine HW2.out.mono ?_; rintro e w1 ⟨rfl, hg⟩
    have hI1 := (HI.out.alloc (.cells #[.int .i64 t, .slice a l c] 24)).call hg
    have hbx : w1.heap[w.heap.size]? = some (.cells #[.int .i64 t, .slice a l c] 24 (0, 0)) := (hg.block w.heap.size (by simp) (by simp)).trans (heap_alloc_new _ _)
    have hBX := Lf.hide hbx
    have d2 := cell_of_one hI1.tod
    have hI1H := Lf.hide hI1
    have hown := Lf.hide hI1.own
    have hB := hI1.grown.size
    clear hg hI1 hbx c1 c2 c3 HI
    go_wp2_with (at_builtin; refine appS w0.heap.size vs a l c w1 v rfl (.tmp 13) (.tmp 15) rfl rfl rfl rfl hown.out hB hlen ?_; intro g cap w2 ho2 hg2; have HO2 := Lf.hide ho2; have HG2 := Lf.hide hg2; clear ho2 hg2; have k3 := (HG2.out.block (lt_of_block hI1H.out.tod) (own_ne_type hI1H.out.own hI1H.out.tod (by decide))).trans hI1H.out.tod; have m3 := free_of_one k3; have m4 := cell_of_one k3; have HI3 := Lf.hide (hI1H.out.push HG2.out HO2.out); have m5 := cell_of_one HI3.out.fin; have m6 := cell0_of ((Below.heap_setCell _ ⟨tb, 0, none⟩ (.slice (some ⟨g, 0, none⟩) (vs.length + 1) cap) _ (ne_of_type ((HG2.out.block (lt_of_block hBX.out) (own_ne_type hI1H.out.own hBX.out (by decide))).trans hBX.out) k3 (by decide))).trans ((HG2.out.block (lt_of_block hBX.out) (own_ne_type hI1H.out.own hBX.out (by decide))).trans hBX.out)); clear k3)
    refine (HF.out t _).mono ?_; rintro e w3 ⟨rfl, rfl⟩
    go_wp2_with fail
    go_ret
    exact ⟨rfl, _, HI3.out⟩
  · have hW : ∃ a' c', ∀ W, (W = w.alloc (.cells #[.int .i64 t, .slice a l c] 24)) → Calls Try.prog kw #[tyV t a l c] W fun e w' => e = .returned (.slice a' 0 c') ∧ W.grownBy w' none := by
      have hW := HW.out
      by_cases hi : inn t = true
      · have : l = 0 := by
          by_cases h0 : 0 < l
          · exact absurd ⟨hi, h0⟩ hA
          · omega
        subst this
        rw [if_pos hi] at hW
        exact ⟨a, c, fun W e => by subst e; exact hW⟩
      · rw [if_neg hi] at hW
        exact ⟨none, 0, fun W e => by subst e; exact hW⟩
    obtain ⟨a', c', hW2⟩ := hW
    have HW2 := Lf.hide (hW2 _ rfl)
    rw [if_neg hA, List.append_nil]
    clear HW hW2 hA
    unfold tyV at HW2 ⊢
    go_enter Try.func59, Try.ntmps59
    go_wp2_with fail
    refine HW2.out.mono ?_; rintro e w1 ⟨rfl, hg⟩
    have hI1 := (HI.out.alloc (.cells #[.int .i64 t, .slice a l c] 24)).call hg
    have hbx : w1.heap[w.heap.size]? = some (.cells #[.int .i64 t, .slice a l c] 24 (0, 0)) := (hg.block w.heap.size (by simp) (by simp)).trans (heap_alloc_new _ _)
    have m6 := cell0_of hbx
    have m5 := cell_of_one hI1.fin
    have hI1H := Lf.hide hI1
    clear hg hI1 hbx c1 c2 c3 HI
    go_wp2_with fail
    refine (HF.out t _).mono ?_; rintro e w3 ⟨rfl, rfl⟩
    go_wp2_with fail
    go_ret
    exact ⟨rfl, _, hI1H.out⟩

end Go.Proofs.Ytdninmanfncfiad
