/- kind.Same and the function within it, by their contracts. -/
import Derived.Test.YtdninmanfncfiadSameF
namespace Go.Proofs.Ytdninmanfncfiad
open Go.ChangeShapes Go.WideShapes Go.ChangeAt Go.RowKit
set_option linter.unusedVariables false

theorem info_cp : (Try.prog.info? 74).map (fun i => (i.zero, i.size, i.bytes)) = some (some (.agg #[.slice none 0 0, .slice none 0 0]), 2, 48) := by kernel_rfl

/-- a couple's value -/
def cpV (a1 : Option Addr) (l1 c1 : Nat) (a2 : Option Addr) (l2 c2 : Nat) : Value := .agg #[.slice a1 l1 c1, .slice a2 l2 c2]

def OwnsC (B : Nat) (w : World) (v : Value) (vs : List Value) : Prop := w.ownsRow B 74 2 v vs.length (flatT vs)

/-- one couple put behind a list of the call's own -/
theorem appC {ops : Array Oper} {rest : List Oper} {o : Oper} {a : Act} {Q : Exit → Act → World → Prop} (B : Nat) (vs : List Value) (a1 : Option Addr) (l1 c1 : Nat) (a2 : Option Addr) (l2 c2 : Nat) (w0 : World) (v : Value) (hgd : o.guard = none) (s x : Operand)
    (ho : o.op = .call { callee := .builtin .append, args := #[s, x], argTypes := #[75, 75] }) (hs : a.eval s = v) {H : Nat} (hx : a.eval x = .slice (some ⟨H, 0, none⟩) 1 1) (hH : w0.heap.size = H)
    (hown : OwnsC B w0 v vs) (hB : B ≤ w0.heap.size) (hlen : vs.length ≤ 100000000)
    (h : ∀ g cap w', OwnsC B w' (.slice (some ⟨g, 0, none⟩) (vs.length + 1) cap) (vs ++ [cpV a1 l1 c1 a2 l2 c2]) → Gr w0 v w' (.slice (some ⟨g, 0, none⟩) (vs.length + 1) cap) → wpList Try.prog ops Q rest (a.put o.dst (.slice (some ⟨g, 0, none⟩) (vs.length + 1) cap)) w') :
    wpList Try.prog ops Q (o :: rest) a (w0.alloc (.cells #[.slice a1 l1 c1, .slice a2 l2 c2] 74)) := by
  obtain ⟨i0, hi, hz0, hz1, hz2⟩ := info_parts info_cp
  subst hH
  refine wpList_append_lies _ hgd s x 75 ho B 74 i0 _ 2 48 Try.underlying75 hi hz0 hz1 hz2 rfl (by decide) v vs.length (flatT vs) hs (World.ownsRow.alloc hown _) ⟨w0.heap.size, 0, none⟩ 1 1 [.slice a1 l1 c1, .slice a2 l2 c2] hx rfl ?_ ?_ (by decide) ?_ ?_ ?_ _ rfl ?_
  · exact World.news_of_block (w := w0.alloc _) (B := w0.heap.size) (cs := #[.slice a1 l1 c1, .slice a2 l2 c2]) (heap_alloc_new _ _)
  · intro u hu; simp at hu; rcases hu with rfl | rfl <;> rfl
  · unfold maxLen; omega
  · omega
  · simp; omega
  · intro g cap w' h1 h2 h3 _
    refine h g cap w' ?_ ?_
    · unfold OwnsC; rw [flatT_append, List.length_append]; exact h1
    · refine Gr.trans (Gr.alloc (Gr.refl w0 v) _) ⟨h2, ?_⟩
      rcases h3 with h3 | h3
      · exact .inl h3.symm
      · exact .inr ⟨g, rfl, by omega⟩

structure SInv (w0 w : World) (tb r1 r2 : Nat) (q1 q2 : Array Value) (v : Value) (vs : List Value) : Prop where
  grown : w0.grownBy w none
  tlt : w0.heap.size ≤ tb
  tod : w.heap[tb]? = some (.cells #[v] 75 (0, 0))
  row1 : w.heap[r1]? = some (.cells q1 24 (0, 0))
  row2 : w.heap[r2]? = some (.cells q2 24 (0, 0))
  own : OwnsC w0.heap.size w v vs

theorem SInv.alloc {w0 w : World} {tb r1 r2 : Nat} {q1 q2 : Array Value} {v : Value} {vs : List Value} (h : SInv w0 w tb r1 r2 q1 q2 v vs) (o : Obj) : SInv w0 (w.alloc o) tb r1 r2 q1 q2 v vs :=
  ⟨Lf.gbt h.grown (Lf.gb _), h.tlt, heap_keep h.tod, heap_keep h.row1, heap_keep h.row2, World.ownsRow.alloc h.own _⟩

theorem SInv.push {w0 w w' : World} {tb r1 r2 : Nat} {q1 q2 : Array Value} {v v' u : Value} {vs : List Value} (h : SInv w0 w tb r1 r2 q1 q2 v vs) (hg : Gr w v w' v') (ho : OwnsC w0.heap.size w' v' (vs ++ [u])) : SInv w0 (w'.setCell ⟨tb, 0, none⟩ v') tb r1 r2 q1 q2 v' (vs ++ [u]) := by
  have k1 : w'.heap[r1]? = _ := (hg.block (lt_of_block h.row1) (own_ne_type h.own h.row1 (by decide))).trans h.row1
  have k2 : w'.heap[r2]? = _ := (hg.block (lt_of_block h.row2) (own_ne_type h.own h.row2 (by decide))).trans h.row2
  have k3 : w'.heap[tb]? = _ := (hg.block (lt_of_block h.tod) (own_ne_type h.own h.tod (by decide))).trans h.tod
  refine ⟨grow_setNew (grow_own h.grown h.own (Nat.le_refl _) hg.1) h.tlt _ _ _, h.tlt, one_setCell k3, ?_, ?_, ownsRow_setCell_other ho (fun e => own_ne_type ho k3 (by decide) e.symm) _⟩
  · rw [Below.heap_setCell _ _ _ _ (ne_of_type k1 k3 (by decide))]; exact k1
  · rw [Below.heap_setCell _ _ _ _ (ne_of_type k2 k3 (by decide))]; exact k2

theorem own_cut2 {w : World} {B : Nat} {e : TypeId} {g cap n : Nat} {vs : List Value} {u : Value} (h : w.ownsRow B e 2 (.slice (some ⟨g, 0, none⟩) (n + 1) cap) (n + 1) (flatT (vs ++ [u]))) (hu : (tyCells u).length = 2) : w.ownsRow B e 2 (.slice (some ⟨g, 0, none⟩) n cap) n (flatT vs) := by
  have e1 : flatT [u] = tyCells u := by simp [flatT]
  rw [flatT_append, e1] at h
  have hl := h.1
  rw [List.length_append, hu] at hl
  refine ⟨by omega, ?_⟩
  rcases h.2 with ⟨hx, _⟩ | ⟨g', cap', cur, hx, h1, h2, h3, h4, h5, h6⟩
  · simp at hx
  · simp only [Value.slice.injEq, Option.some.injEq, Addr.mk.injEq, and_true, true_and] at hx
    obtain ⟨rfl, rfl⟩ := hx
    refine .inr ⟨g, cap, cur, rfl, h1, h2, by omega, h4, h5, ?_⟩
    have h7 := congrArg (List.take (n * 2)) h6
    rw [List.take_take, show min (n * 2) ((n + 1) * 2) = n * 2 from by omega] at h7
    rw [h7, List.take_append_of_le_length (by omega), List.take_of_length_le (by omega)]

theorem own_last2 {w : World} {B : Nat} {e : TypeId} {g cap n : Nat} {vs : List Value} {x y : Value} (h : w.ownsRow B e 2 (.slice (some ⟨g, 0, none⟩) (n + 1) cap) (n + 1) (flatT (vs ++ [.agg #[x, y]]))) : w.cell? ⟨g, n * 2, none⟩ = some x ∧ w.cell? ⟨g, n * 2 + 1, none⟩ = some y := by
  have e1 : flatT [.agg #[x, y]] = [x, y] := by simp [flatT, tyCells]
  rw [flatT_append, e1] at h
  have hl := h.1
  rw [List.length_append] at hl
  simp only [List.length_cons, List.length_nil] at hl
  have hl2 : (flatT vs).length = n * 2 := by omega
  have k0 := World.ownsRow.cells h (g := g) rfl (n * 2) x (by rw [List.getElem?_append_right (by omega), hl2]; simp)
  have k1 := World.ownsRow.cells h (g := g) rfl (n * 2 + 1) y (by rw [List.getElem?_append_right (by omega), hl2]; simp)
  rw [add_none, Nat.zero_add] at k0 k1
  exact ⟨k0, k1⟩

theorem SInv.pop {w0 w : World} {tb r1 r2 g n cap : Nat} {q1 q2 : Array Value} {u : Value} {vs : List Value} (h : SInv w0 w tb r1 r2 q1 q2 (.slice (some ⟨g, 0, none⟩) (n + 1) cap) (vs ++ [u])) (hn : vs.length = n) (hu : (tyCells u).length = 2) : SInv w0 (w.setCell ⟨tb, 0, none⟩ (.slice (some ⟨g, 0, none⟩) n cap)) tb r1 r2 q1 q2 (.slice (some ⟨g, 0, none⟩) n cap) vs := by
  have ho := h.own
  unfold OwnsC at ho
  rw [List.length_append, hn] at ho
  have h2 := own_cut2 ho hu
  refine ⟨grow_setNew h.grown h.tlt _ _ _, h.tlt, one_setCell h.tod, ?_, ?_, ?_⟩
  · rw [Below.heap_setCell _ _ _ _ (ne_of_type h.row1 h.tod (by decide))]; exact h.row1
  · rw [Below.heap_setCell _ _ _ _ (ne_of_type h.row2 h.tod (by decide))]; exact h.row2
  · unfold OwnsC
    rw [hn]
    exact ownsRow_setCell_other h2 (fun e => own_ne_type h2 h.tod (by decide) e.symm) _

theorem SInv.same {w0 w w' : World} {tb r1 r2 : Nat} {q1 q2 : Array Value} {v v' : Value} {vs vs' : List Value} (h : SInv w0 w tb r1 r2 q1 q2 v vs) (h' : SInv w0 w' tb r1 r2 q1 q2 v' vs') : Same (fun b => b < w0.heap.size ∨ b = r1 ∨ b = r2) w w' := by
  intro b o hb _
  refine World.cell?_of_block ?_
  rcases hb with hb | rfl | rfl
  · exact (h'.grown.block b hb (by simp)).trans (h.grown.block b hb (by simp)).symm
  · exact h'.row1.trans h.row1.symm
  · exact h'.row2.trans h.row2.symm

def RowV2 (ok : Nat → Prop) (w : World) (r : List Ty × List Ty) (u : Value) : Prop := ∃ a1 c1 V1 a2 c2 V2, u = cpV a1 r.1.length c1 a2 r.2.length c2 ∧ RowT ok w r.1 a1 V1 ∧ RowT ok w r.2 a2 V2

def RowsOk2 (ok : Nat → Prop) (w : World) (rows : List (List Ty × List Ty)) (vs : List Value) : Prop := rows.length = vs.length ∧ ∀ (i : Nat) (r : List Ty × List Ty) (u : Value), rows[i]? = some r → vs[i]? = some u → RowV2 ok w r u

theorem RowsOk2.snoc {ok : Nat → Prop} {w : World} {rows : List (List Ty × List Ty)} {vs : List Value} {r : List Ty × List Ty} {u : Value} (h : RowsOk2 ok w rows vs) (hr : RowV2 ok w r u) : RowsOk2 ok w (rows ++ [r]) (vs ++ [u]) := by
  refine ⟨by simp [h.1], fun i r' u' h1 h2 => ?_⟩
  by_cases hi : i < rows.length
  · rw [List.getElem?_append_left hi] at h1
    rw [List.getElem?_append_left (by rw [← h.1]; exact hi)] at h2
    exact h.2 i r' u' h1 h2
  · have hi' : i = rows.length := by
      have := (List.getElem?_eq_some_iff.1 h1).1
      simp at this; omega
    subst hi'
    rw [List.getElem?_append_right (Nat.le_refl _)] at h1
    rw [h.1, List.getElem?_append_right (Nat.le_refl _)] at h2
    simp at h1 h2
    subst h1; subst h2
    exact hr

theorem RowsOk2.unsnoc {ok : Nat → Prop} {w : World} {rows : List (List Ty × List Ty)} {vs : List Value} {r : List Ty × List Ty} {u : Value} (h : RowsOk2 ok w (rows ++ [r]) (vs ++ [u])) : RowsOk2 ok w rows vs ∧ RowV2 ok w r u := by
  have hl : rows.length = vs.length := by have := h.1; simp at this; exact this
  refine ⟨⟨hl, fun i r' u' h1 h2 => ?_⟩, ?_⟩
  · have k1 := (List.getElem?_eq_some_iff.1 h1).1
    have k2 := (List.getElem?_eq_some_iff.1 h2).1
    exact h.2 i r' u' (by rw [List.getElem?_append_left k1]; exact h1) (by rw [List.getElem?_append_left k2]; exact h2)
  · exact h.2 rows.length r u (by rw [List.getElem?_append_right (Nat.le_refl _)]; simp) (by rw [hl, List.getElem?_append_right (Nat.le_refl _)]; simp)

theorem RowsOk2.last {ok : Nat → Prop} {w : World} {rows : List (List Ty × List Ty)} {vs : List Value} (h : RowsOk2 ok w rows vs) (hn : 0 < vs.length) : ∃ rows' r vs' u, rows = rows' ++ [r] ∧ vs = vs' ++ [u] ∧ RowsOk2 ok w rows' vs' ∧ RowV2 ok w r u := by
  have h1 : rows ≠ [] := by intro e; rw [e] at h; have := h.1; simp at this; omega
  have h2 : vs ≠ [] := by intro e; rw [e] at hn; simp at hn
  have e1 := (List.dropLast_concat_getLast h1).symm
  have e2 := (List.dropLast_concat_getLast h2).symm
  rw [e1, e2] at h
  obtain ⟨a, b⟩ := h.unsnoc
  exact ⟨_, _, _, _, e1, e2, a, b⟩

set_option maxHeartbeats 400000 in
/-- the function within Same -/
theorem look2_any {w0 w : World} {tb r1 r2 : Nat} {q1 q2 : Array Value} {v : Value} {vs : List Value} {t : Int} {a : Option Addr} {l c : Nat} {t2 : Int} {a2 : Option Addr} {l2 c2 : Nat} (hI : SInv w0 w tb r1 r2 q1 q2 v vs) (hlen : vs.length ≤ 100000000) :
    Calls Try.prog 40 #[tyV t a l c, tyV t2 a2 l2 c2, .pointer (some ⟨tb, 0, none⟩)] w fun e w' => e = .returned (.bool (decide (t = t2))) ∧ ∃ v', SInv w0 w' tb r1 r2 q1 q2 v' (vs ++ [cpV a l c a2 l2 c2]) := by
  have hI1 := (hI.alloc (.cells #[.int .i64 t, .slice a l c] 24)).alloc (.cells #[.int .i64 t2, .slice a2 l2 c2] 24)
  have HI1 := Lf.hide hI1
  have c2' := cell_of_one hI.tod
  have l2' := lt_of_block hI.tod
  have l3' : tb < w.heap.size + 1 := by omega
  have hbx1 : ((w.alloc (.cells #[.int .i64 t, .slice a l c] 24)).alloc (.cells #[.int .i64 t2, .slice a2 l2 c2] 24)).heap[w.heap.size]? = some (.cells #[.int .i64 t, .slice a l c] 24 (0, 0)) := heap_keep (heap_alloc_new _ _)
  have hbx2 : ((w.alloc (.cells #[.int .i64 t, .slice a l c] 24)).alloc (.cells #[.int .i64 t2, .slice a2 l2 c2] 24)).heap[w.heap.size + 1]? = some (.cells #[.int .i64 t2, .slice a2 l2 c2] 24 (0, 0)) := by
    have := heap_alloc_new (w.alloc (.cells #[.int .i64 t, .slice a l c] 24)) (.cells #[.int .i64 t2, .slice a2 l2 c2] 24)
    rw [World.size_alloc] at this
    exact this
  have HBX1 := Lf.hide hbx1
  have HBX2 := Lf.hide hbx2
  have HB := Lf.hide hI1.grown.size
  clear hI hI1 hbx1 hbx2
  unfold tyV
  go_enter Try.func40, Try.ntmps40
  go_wp2_with (at_builtin; refine appC w0.heap.size vs a l c a2 l2 c2 ((w.alloc (.cells #[.int .i64 t, .slice a l c] 24)).alloc (.cells #[.int .i64 t2, .slice a2 l2 c2] 24)) v rfl (.tmp 6) (.tmp 12) rfl rfl rfl (by simp) HI1.out.own HB.out hlen ?_; intro g cap w2 ho2 hg2; have HO2 := Lf.hide ho2; have HG2 := Lf.hide hg2; clear ho2 hg2; have k3 := (HG2.out.block (lt_of_block HI1.out.tod) (own_ne_type HI1.out.own HI1.out.tod (by decide))).trans HI1.out.tod; have m3 := free_of_one k3; have m4 := cell_of_one k3; have HI3 := Lf.hide (HI1.out.push HG2.out HO2.out); have kx1 := (HG2.out.block (lt_of_block HBX1.out) (own_ne_type HI1.out.own HBX1.out (by decide))).trans HBX1.out; have kx2 := (HG2.out.block (lt_of_block HBX2.out) (own_ne_type HI1.out.own HBX2.out (by decide))).trans HBX2.out; have m5 := cell0_of ((Below.heap_setCell _ ⟨tb, 0, none⟩ (.slice (some ⟨g, 0, none⟩) (vs.length + 1) cap) _ (ne_of_type kx1 k3 (by decide))).trans kx1); have m6 := cell0_of ((Below.heap_setCell _ ⟨tb, 0, none⟩ (.slice (some ⟨g, 0, none⟩) (vs.length + 1) cap) _ (ne_of_type kx2 k3 (by decide))).trans kx2); clear k3 kx1 kx2)
  go_ret
  exact ⟨rfl, _, HI3.out⟩

end Go.Proofs.Ytdninmanfncfiad
