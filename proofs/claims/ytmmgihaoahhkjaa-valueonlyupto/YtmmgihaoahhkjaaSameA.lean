/- Types alike, xs plain functions; slices.EqualFunc by its contract, whatever function is handed to it. -/
import Derived.Test.YtmmgihaoahhkjaaKindB
namespace Go.Proofs.Ytmmgihaoahhkjaa
open Go.ChangeShapes Go.WideShapes Go.ChangeAt Go.RowKit
set_option linter.unusedVariables false

mutual
def sameT : Ty → Ty → Bool
  | .nd t xs, .nd u ys => decide (t = u) && sameTs xs ys
def sameTs : List Ty → List Ty → Bool
  | [], [] => true
  | a :: xs, b :: ys => sameT a b && sameTs xs ys
  | [], _ :: _ => false
  | _ :: _, [] => false
end

mutual
theorem sameT_refl : ∀ t, sameT t t = true
  | .nd t args => by simp [sameT, sameTs_refl args]
theorem sameTs_refl : ∀ l, sameTs l l = true
  | [] => by simp [sameTs]
  | t :: ts => by simp [sameTs, sameT_refl t, sameTs_refl ts]
end

theorem sameTs_len : ∀ {a b : List Ty}, sameTs a b = true → a.length = b.length
  | [], [], _ => rfl
  | _ :: _, [], h => by simp [sameTs] at h
  | [], _ :: _, h => by simp [sameTs] at h
  | a :: xs, b :: ys, h => by
    simp only [sameTs, Bool.and_eq_true] at h
    simp [sameTs_len h.2]

/-- what looking at two puts behind what is left -/
def argsOf (p : Ty × Ty) : List Ty × List Ty := (p.1.args, p.2.args)

def sameRow (r : List Ty × List Ty) : Bool := sameTs r.1 r.2

theorem sameT_split (x y : Ty) : sameT x y = (decide (x.t = y.t) && sameRow (x.args, y.args)) := by
  obtain ⟨t, xs⟩ := x
  obtain ⟨u, ys⟩ := y
  rw [sameT]; rfl

theorem sameTs_zip : ∀ (x y : List Ty), x.length = y.length → (∀ p ∈ x.zip y, p.1.t = p.2.t) → sameTs x y = ((x.zip y).map argsOf).all sameRow
  | [], [], _, _ => by simp [sameTs]
  | _ :: _, [], h, _ => by simp at h
  | [], _ :: _, h, _ => by simp at h
  | a :: xs, b :: ys, h, hp => by
    have ih := sameTs_zip xs ys (by simpa using h) (fun p hm => hp p (by simp [hm]))
    have h1 := hp (a, b) (by simp)
    rw [sameTs, ih, sameT_split]
    simp [argsOf, show a.t = b.t from h1]

theorem sameTs_no (x y : List Ty) (i : Nat) (h1 : i < x.length) (h2 : i < y.length) (hne : (x[i]).t ≠ (y[i]).t) : sameTs x y = false := by
  induction x generalizing y i with
  | nil => simp at h1
  | cons a xs ih =>
    cases y with
    | nil => simp [sameTs]
    | cons b ys =>
      cases i with
      | zero =>
        have : a.t ≠ b.t := hne
        simp [sameTs, sameT_split, this]
      | succ i =>
        have := ih ys i (by simpa using h1) (by simpa using h2) (by simpa using hne)
        simp [sameTs, this]

def leftOf2 (rows : List (List Ty × List Ty)) : Nat := (rows.map fun r => tysizes r.1 + 1).sum
theorem leftOf2_append (a b : List (List Ty × List Ty)) : leftOf2 (a ++ b) = leftOf2 a + leftOf2 b := by simp [leftOf2]
theorem leftOf2_single (r : List Ty × List Ty) : leftOf2 [r] = tysizes r.1 + 1 := by simp [leftOf2]
theorem len_left2 (rows : List (List Ty × List Ty)) : rows.length ≤ leftOf2 rows := by
  induction rows with
  | nil => simp
  | cons r l ih => simp only [leftOf2, List.map_cons, List.sum_cons, List.length_cons] at ih ⊢; omega
theorem zip_left : ∀ (x y : List Ty), leftOf2 ((x.zip y).map argsOf) ≤ tysizes x
  | [], _ => by simp [leftOf2]
  | _ :: _, [] => by simp [leftOf2]
  | a :: xs, b :: ys => by
    have ih := zip_left xs ys
    have h : leftOf2 (((a :: xs).zip (b :: ys)).map argsOf) = (tysizes a.args + 1) + leftOf2 ((xs.zip ys).map argsOf) := by simp [leftOf2, argsOf]
    have h2 : a.size = tysizes a.args + 1 := by obtain ⟨t, l⟩ := a; simp [Ty.size, Ty.args]
    rw [h, tysizes]; omega

set_option maxHeartbeats 400000 in
theorem equal_any (k : Nat) (cap : Array Value) (n : Nat) (a a2 : Option Addr) (c c2 : Nat) (V V2 : Nat → Value) (b : Nat → Bool) (I : Nat → World → Prop) (J : World → Prop) (hn : n ≤ maxLen) (eg : ∀ args w, (callFunc k args).run Try.prog w = .ok (.enter k args) w)
    (hrow : ∀ i w, i < n → I i w → TyAt (fun _ => True) w a i (V i)) (hrow2 : ∀ i w, i < n → I i w → TyAt (fun _ => True) w a2 i (V2 i)) (hall : ∀ i w o, I i w → I i (w.alloc o))
    (hcall : ∀ i w, i < n → I i w → Calls Try.prog k (#[V i, V2 i] ++ cap) w fun e w' => e = .returned (.bool (b i)) ∧ (b i = true → I (i + 1) w') ∧ (b i = false → J w')) (w : World) (h0 : I 0 w) :
    Calls Try.prog 40 #[.slice a n c, .slice a2 n c2, .func (.func k) #[] cap] w fun e w' => (e = .returned (.bool true) ∧ I n w' ∧ ∀ i, i < n → b i = true) ∨ (∃ i, i < n ∧ b i = false ∧ e = .returned (.bool false) ∧ J w') := by
  unfold maxLen at hn
  have HR := Lf.hide hrow
  have HR2 := Lf.hide hrow2
  have HA := Lf.hide hall
  have HC := Lf.hide hcall
  have H0 := Lf.hide h0
  clear hrow hrow2 hall hcall h0
  go_enter Try.func40, Try.ntmps40
  go_wp2_with fail
  go_loopw [17] (fun i wr => ∃ j : Nat, j ≤ n ∧ i = .int .i64 j ∧ I j wr ∧ ∀ m, m < j → b m = true) (fun i _ => n - (intOf i).toNat)
  case atStart => exact ⟨0, Nat.zero_le _, rfl, H0.out, fun m hm => by omega⟩
  case round =>
    obtain ⟨j, hj, rfl, hI, hb⟩ := hrel
    have HB := Lf.hide hb
    clear hb
    by_cases hlt : j < n
    · obtain ⟨bb, o, t, a', l, c', rfl, _, hv, d0, d1⟩ := (HR.out j wr hlt hI).cells
      have hI1 := HA.out j wr (.cells #[.int .i64 t, .slice a' l c'] 24) hI
      obtain ⟨bb2, o2, t2, a2', l2, c2', rfl, _, hv2, g0, g1⟩ := (HR2.out j _ hlt hI1).cells
      have hI2 := HA.out j _ (.cells #[.int .i64 t2, .slice a2' l2 c2'] 24) hI1
      have hC := HC.out j _ hlt hI2
      rw [hv, hv2] at hC
      unfold tyV at hC
      have HK := Lf.hide hC
      clear hC hI1 hI2 hI hv hv2 HR HR2 HA HC H0
      go_wp2_with fail
      refine HK.out.mono ?_; rintro e w' ⟨rfl, h1, h2⟩
      cases hbj : b j with
      | true =>
        have HI := Lf.hide (h1 hbj)
        have HBJ := Lf.hide hbj
        clear h1 h2 hbj
        go_wp2_with fail
        go_roundw
        case rel => exact ⟨j + 1, by omega, by go_num, HI.out, fun m hm => by
          by_cases e : m = j
          · subst e; exact HBJ.out
          · exact HB.out m (by omega)⟩
        case measure => simp [intOf]; omega
      | false =>
        have HJ := Lf.hide (h2 hbj)
        have HBJ := Lf.hide hbj
        clear h1 h2 hbj
        go_wp2_with fail
        go_ret
        exact .inr ⟨j, hlt, HBJ.out, rfl, HJ.out⟩
    · have hje : j = n := by omega
      have HI := Lf.hide hI
      have HJ := Lf.hide hje
      clear hI hje
      go_wp2_with fail
      go_ret
      have hI := HI.out
      have hb := HB.out
      rw [HJ.out] at hI hb
      exact .inl ⟨rfl, hI, hb⟩

theorem equal_len (f : Value) (n n2 : Nat) (a a2 : Option Addr) (c c2 : Nat) (hne : n ≠ n2) (h1 : n ≤ maxLen) (h2 : n2 ≤ maxLen) (w : World) :
    Calls Try.prog 40 #[.slice a n c, .slice a2 n2 c2, f] w fun e w' => e = .returned (.bool false) ∧ w' = w := by
  have h : ((n : Int) == (n2 : Int)) = false := by simp; omega
  unfold maxLen at h1 h2
  go_enter Try.func40, Try.ntmps40
  go_wp2_with fail
  go_ret
  exact ⟨rfl, rfl⟩

end Go.Proofs.Ytmmgihaoahhkjaa

/- kind.Same and the function within it, by their contracts. -/
namespace Go.Proofs.Ytmmgihaoahhkjaa
open Go.ChangeShapes Go.WideShapes Go.ChangeAt Go.RowKit
set_option linter.unusedVariables false

theorem info_cp : (Try.prog.info? 79).map (fun i => (i.zero, i.size, i.bytes)) = some (some (.agg #[.slice none 0 0, .slice none 0 0]), 2, 48) := by kernel_rfl

/-- a couple's value -/
def cpV (a1 : Option Addr) (l1 c1 : Nat) (a2 : Option Addr) (l2 c2 : Nat) : Value := .agg #[.slice a1 l1 c1, .slice a2 l2 c2]

def OwnsC (B : Nat) (w : World) (v : Value) (vs : List Value) : Prop := w.ownsRow B 79 2 v vs.length (flatT vs)

/-- one couple put behind a list of the call's own -/
theorem appC {ops : Array Oper} {rest : List Oper} {o : Oper} {a : Act} {Q : Exit → Act → World → Prop} (B : Nat) (vs : List Value) (a1 : Option Addr) (l1 c1 : Nat) (a2 : Option Addr) (l2 c2 : Nat) (w0 : World) (v : Value) (hgd : o.guard = none) (s x : Operand)
    (ho : o.op = .call { callee := .builtin .append, args := #[s, x], argTypes := #[80, 80] }) (hs : a.eval s = v) {H : Nat} (hx : a.eval x = .slice (some ⟨H, 0, none⟩) 1 1) (hH : w0.heap.size = H)
    (hown : OwnsC B w0 v vs) (hB : B ≤ w0.heap.size) (hlen : vs.length ≤ 100000000)
    (h : ∀ g cap w', OwnsC B w' (.slice (some ⟨g, 0, none⟩) (vs.length + 1) cap) (vs ++ [cpV a1 l1 c1 a2 l2 c2]) → Gr w0 v w' (.slice (some ⟨g, 0, none⟩) (vs.length + 1) cap) → wpList Try.prog ops Q rest (a.put o.dst (.slice (some ⟨g, 0, none⟩) (vs.length + 1) cap)) w') :
    wpList Try.prog ops Q (o :: rest) a (w0.alloc (.cells #[.slice a1 l1 c1, .slice a2 l2 c2] 79)) := by
  obtain ⟨i0, hi, hz0, hz1, hz2⟩ := info_parts info_cp
  subst hH
  refine wpList_append_lies _ hgd s x 80 ho B 79 i0 _ 2 48 Try.underlying80 hi hz0 hz1 hz2 rfl (by decide) v vs.length (flatT vs) hs (World.ownsRow.alloc hown _) ⟨w0.heap.size, 0, none⟩ 1 1 [.slice a1 l1 c1, .slice a2 l2 c2] hx rfl ?_ ?_ (by decide) ?_ ?_ ?_ _ rfl ?_
  · exact World.news_of_block (w := w0.alloc _) (B := w0.heap.size) (cs := #[.slice a1 l1 c1, .slice a2 l2 c2]) (heap_alloc_new _ _)
  · intro u hu; simp at hu; rcases hu with rfl | rfl <;> rfl
  · unfold maxLen; omega
  · omega
  · simp; omega
  · intro g cap w' h1 h2 h3 _
    refine h g cap w' ?_ ?_
    · unfold OwnsC; rw [flatT_append, List.length_append]; exact h1
    · refine Gr.trans (Gr.alloc (Gr.refl w0 v) _) ⟨h2, ?_⟩
      rcases h3 with h3 | h3
      · exact .inl h3.symm
      · exact .inr ⟨g, rfl, by omega⟩

structure SInv (w0 w : World) (tb r1 r2 : Nat) (q1 q2 : Array Value) (v : Value) (vs : List Value) : Prop where
  grown : w0.grownBy w none
  tlt : w0.heap.size ≤ tb
  tod : w.heap[tb]? = some (.cells #[v] 80 (0, 0))
  row1 : w.heap[r1]? = some (.cells q1 24 (0, 0))
  row2 : w.heap[r2]? = some (.cells q2 24 (0, 0))
  own : OwnsC w0.heap.size w v vs

theorem SInv.alloc {w0 w : World} {tb r1 r2 : Nat} {q1 q2 : Array Value} {v : Value} {vs : List Value} (h : SInv w0 w tb r1 r2 q1 q2 v vs) (o : Obj) : SInv w0 (w.alloc o) tb r1 r2 q1 q2 v vs :=
  ⟨Lf.gbt h.grown (Lf.gb _), h.tlt, heap_keep h.tod, heap_keep h.row1, heap_keep h.row2, World.ownsRow.alloc h.own _⟩

theorem SInv.push {w0 w w' : World} {tb r1 r2 : Nat} {q1 q2 : Array Value} {v v' u : Value} {vs : List Value} (h : SInv w0 w tb r1 r2 q1 q2 v vs) (hg : Gr w v w' v') (ho : OwnsC w0.heap.size w' v' (vs ++ [u])) : SInv w0 (w'.setCell ⟨tb, 0, none⟩ v') tb r1 r2 q1 q2 v' (vs ++ [u]) := by
  have k1 : w'.heap[r1]? = _ := (hg.block (lt_of_block h.row1) (own_ne_type h.own h.row1 (by decide))).trans h.row1
  have k2 : w'.heap[r2]? = _ := (hg.block (lt_of_block h.row2) (own_ne_type h.own h.row2 (by decide))).trans h.row2
  have k3 : w'.heap[tb]? = _ := (hg.block (lt_of_block h.tod) (own_ne_type h.own h.tod (by decide))).trans h.tod
  refine ⟨grow_setNew (grow_own h.grown h.own (Nat.le_refl _) hg.1) h.tlt _ _ _, h.tlt, one_setCell k3, ?_, ?_, ownsRow_setCell_other ho (fun e => own_ne_type ho k3 (by decide) e.symm) _⟩
  · rw [Below.heap_setCell _ _ _ _ (ne_of_type k1 k3 (by decide))]; exact k1
  · rw [Below.heap_setCell _ _ _ _ (ne_of_type k2 k3 (by decide))]; exact k2

theorem own_cut2 {w : World} {B : Nat} {e : TypeId} {g cap n : Nat} {vs : List Value} {u : Value} (h : w.ownsRow B e 2 (.slice (some ⟨g, 0, none⟩) (n + 1) cap) (n + 1) (flatT (vs ++ [u]))) (hu : (tyCells u).length = 2) : w.ownsRow B e 2 (.slice (some ⟨g, 0, none⟩) n cap) n (flatT vs) := by
  have e1 : flatT [u] = tyCells u := by simp [flatT]
  rw [flatT_append, e1] at h
  have hl := h.1
  rw [List.length_append, hu] at hl
  refine ⟨by omega, ?_⟩
  rcases h.2 with ⟨hx, _⟩ | ⟨g', cap', cur, hx, h1, h2, h3, h4, h5, h6⟩
  · simp at hx
  · simp only [Value.slice.injEq, Option.some.injEq, Addr.mk.injEq, and_true, true_and] at hx
    obtain ⟨rfl, rfl⟩ := hx
    refine .inr ⟨g, cap, cur, rfl, h1, h2, by omega, h4, h5, ?_⟩
    have h7 := congrArg (List.take (n * 2)) h6
    rw [List.take_take, show min (n * 2) ((n + 1) * 2) = n * 2 from by omega] at h7
    rw [h7, List.take_append_of_le_length (by omega), List.take_of_length_le (by omega)]

theorem own_last2 {w : World} {B : Nat} {e : TypeId} {g cap n : Nat} {vs : List Value} {x y : Value} (h : w.ownsRow B e 2 (.slice (some ⟨g, 0, none⟩) (n + 1) cap) (n + 1) (flatT (vs ++ [.agg #[x, y]]))) : w.cell? ⟨g, n * 2, none⟩ = some x ∧ w.cell? ⟨g, n * 2 + 1, none⟩ = some y := by
  have e1 : flatT [.agg #[x, y]] = [x, y] := by simp [flatT, tyCells]
  rw [flatT_append, e1] at h
  have hl := h.1
  rw [List.length_append] at hl
  simp only [List.length_cons, List.length_nil] at hl
  have hl2 : (flatT vs).length = n * 2 := by omega
  have k0 := World.ownsRow.cells h (g := g) rfl (n * 2) x (by rw [List.getElem?_append_right (by omega), hl2]; simp)
  have k1 := World.ownsRow.cells h (g := g) rfl (n * 2 + 1) y (by rw [List.getElem?_append_right (by omega), hl2]; simp)
  rw [add_none, Nat.zero_add] at k0 k1
  exact ⟨k0, k1⟩

theorem SInv.pop {w0 w : World} {tb r1 r2 g n cap : Nat} {q1 q2 : Array Value} {u : Value} {vs : List Value} (h : SInv w0 w tb r1 r2 q1 q2 (.slice (some ⟨g, 0, none⟩) (n + 1) cap) (vs ++ [u])) (hn : vs.length = n) (hu : (tyCells u).length = 2) : SInv w0 (w.setCell ⟨tb, 0, none⟩ (.slice (some ⟨g, 0, none⟩) n cap)) tb r1 r2 q1 q2 (.slice (some ⟨g, 0, none⟩) n cap) vs := by
  have ho := h.own
  unfold OwnsC at ho
  rw [List.length_append, hn] at ho
  have h2 := own_cut2 ho hu
  refine ⟨grow_setNew h.grown h.tlt _ _ _, h.tlt, one_setCell h.tod, ?_, ?_, ?_⟩
  · rw [Below.heap_setCell _ _ _ _ (ne_of_type h.row1 h.tod (by decide))]; exact h.row1
  · rw [Below.heap_setCell _ _ _ _ (ne_of_type h.row2 h.tod (by decide))]; exact h.row2
  · unfold OwnsC
    rw [hn]
    exact ownsRow_setCell_other h2 (fun e => own_ne_type h2 h.tod (by decide) e.symm) _

theorem SInv.same {w0 w w' : World} {tb r1 r2 : Nat} {q1 q2 : Array Value} {v v' : Value} {vs vs' : List Value} (h : SInv w0 w tb r1 r2 q1 q2 v vs) (h' : SInv w0 w' tb r1 r2 q1 q2 v' vs') : Same (fun b => b < w0.heap.size ∨ b = r1 ∨ b = r2) w w' := by
  intro b o hb _
  refine World.cell?_of_block ?_
  rcases hb with hb | rfl | rfl
  · exact (h'.grown.block b hb (by simp)).trans (h.grown.block b hb (by simp)).symm
  · exact h'.row1.trans h.row1.symm
  · exact h'.row2.trans h.row2.symm

def RowV2 (ok : Nat → Prop) (w : World) (r : List Ty × List Ty) (u : Value) : Prop := ∃ a1 c1 V1 a2 c2 V2, u = cpV a1 r.1.length c1 a2 r.2.length c2 ∧ RowT ok w r.1 a1 V1 ∧ RowT ok w r.2 a2 V2

def RowsOk2 (ok : Nat → Prop) (w : World) (rows : List (List Ty × List Ty)) (vs : List Value) : Prop := rows.length = vs.length ∧ ∀ (i : Nat) (r : List Ty × List Ty) (u : Value), rows[i]? = some r → vs[i]? = some u → RowV2 ok w r u

theorem RowsOk2.snoc {ok : Nat → Prop} {w : World} {rows : List (List Ty × List Ty)} {vs : List Value} {r : List Ty × List Ty} {u : Value} (h : RowsOk2 ok w rows vs) (hr : RowV2 ok w r u) : RowsOk2 ok w (rows ++ [r]) (vs ++ [u]) := by
  refine ⟨by simp [h.1], fun i r' u' h1 h2 => ?_⟩
  by_cases hi : i < rows.length
  · rw [List.getElem?_append_left hi] at h1
    rw [List.getElem?_append_left (by rw [← h.1]; exact hi)] at h2
    exact h.2 i r' u' h1 h2
  · have hi' : i = rows.length := by
      have := (List.getElem?_eq_some_iff.1 h1).1
      simp at this; omega
    subst hi'
    rw [List.getElem?_append_right (Nat.le_refl _)] at h1
    rw [h.1, List.getElem?_append_right (Nat.le_refl _)] at h2
    simp at h1 h2
    subst h1; subst h2
    exact hr

theorem RowsOk2.unsnoc {ok : Nat → Prop} {w : World} {rows : List (List Ty × List Ty)} {vs : List Value} {r : List Ty × List Ty} {u : Value} (h : RowsOk2 ok w (rows ++ [r]) (vs ++ [u])) : RowsOk2 ok w rows vs ∧ RowV2 ok w r u := by
  have hl : rows.length = vs.length := by have := h.1; simp at this; exact this
  refine ⟨⟨hl, fun i r' u' h1 h2 => ?_⟩, ?_⟩
  · have k1 := (List.getElem?_eq_some_iff.1 h1).1
    have k2 := (List.getElem?_eq_some_iff.1 h2).1
    exact h.2 i r' u' (by rw [List.getElem?_append_left k1]; exact h1) (by rw [List.getElem?_append_left k2]; exact h2)
  · exact h.2 rows.length r u (by rw [List.getElem?_append_right (Nat.le_refl _)]; simp) (by rw [hl, List.getElem?_append_right (Nat.le_refl _)]; simp)

theorem RowsOk2.last {ok : Nat → Prop} {w : World} {rows : List (List Ty × List Ty)} {vs : List Value} (h : RowsOk2 ok w rows vs) (hn : 0 < vs.length) : ∃ rows' r vs' u, rows = rows' ++ [r] ∧ vs = vs' ++ [u] ∧ RowsOk2 ok w rows' vs' ∧ RowV2 ok w r u := by
  have h1 : rows ≠ [] := by intro e; rw [e] at h; have := h.1; simp at this; omega
  have h2 : vs ≠ [] := by intro e; rw [e] at hn; simp at hn
  have e1 := (List.dropLast_concat_getLast h1).symm
  have e2 := (List.dropLast_concat_getLast h2).symm
  rw [e1, e2] at h
  obtain ⟨a, b⟩ := h.unsnoc
  exact ⟨_, _, _, _, e1, e2, a, b⟩

set_option maxHeartbeats 400000 in
/-- the function within Same -/
theorem look2_any {w0 w : World} {tb r1 r2 : Nat} {q1 q2 : Array Value} {v : Value} {vs : List Value} {t : Int} {a : Option Addr} {l c : Nat} {t2 : Int} {a2 : Option Addr} {l2 c2 : Nat} (hI : SInv w0 w tb r1 r2 q1 q2 v vs) (hlen : vs.length ≤ 100000000) :
    Calls Try.prog 56 #[tyV t a l c, tyV t2 a2 l2 c2, .pointer (some ⟨tb, 0, none⟩)] w fun e w' => e = .returned (.bool (decide (t = t2))) ∧ ∃ v', SInv w0 w' tb r1 r2 q1 q2 v' (vs ++ [cpV a l c a2 l2 c2]) := by
  have hI1 := (hI.alloc (.cells #[.int .i64 t, .slice a l c] 24)).alloc (.cells #[.int .i64 t2, .slice a2 l2 c2] 24)
  have HI1 := Lf.hide hI1
  have c2' := cell_of_one hI.tod
  have l2' := lt_of_block hI.tod
  have l3' : tb < w.heap.size + 1 := by omega
  have hbx1 : ((w.alloc (.cells #[.int .i64 t, .slice a l c] 24)).alloc (.cells #[.int .i64 t2, .slice a2 l2 c2] 24)).heap[w.heap.size]? = some (.cells #[.int .i64 t, .slice a l c] 24 (0, 0)) := heap_keep (heap_alloc_new _ _)
  have hbx2 : ((w.alloc (.cells #[.int .i64 t, .slice a l c] 24)).alloc (.cells #[.int .i64 t2, .slice a2 l2 c2] 24)).heap[w.heap.size + 1]? = some (.cells #[.int .i64 t2, .slice a2 l2 c2] 24 (0, 0)) := by
    have := heap_alloc_new (w.alloc (.cells #[.int .i64 t, .slice a l c] 24)) (.cells #[.int .i64 t2, .slice a2 l2 c2] 24)
    rw [World.size_alloc] at this
    exact this
  have HBX1 := Lf.hide hbx1
  have HBX2 := Lf.hide hbx2
  have HB := Lf.hide hI1.grown.size
  clear hI hI1 hbx1 hbx2
  unfold tyV
  go_enter Try.func56, Try.ntmps56
  go_wp2_with (at_builtin; refine appC w0.heap.size vs a l c a2 l2 c2 ((w.alloc (.cells #[.int .i64 t, .slice a l c] 24)).alloc (.cells #[.int .i64 t2, .slice a2 l2 c2] 24)) v rfl (.tmp 6) (.tmp 12) rfl rfl rfl (by simp) HI1.out.own HB.out hlen ?_; intro g cap w2 ho2 hg2; have HO2 := Lf.hide ho2; have HG2 := Lf.hide hg2; clear ho2 hg2; have k3 := (HG2.out.block (lt_of_block HI1.out.tod) (own_ne_type HI1.out.own HI1.out.tod (by decide))).trans HI1.out.tod; have m3 := free_of_one k3; have m4 := cell_of_one k3; have HI3 := Lf.hide (HI1.out.push HG2.out HO2.out); have kx1 := (HG2.out.block (lt_of_block HBX1.out) (own_ne_type HI1.out.own HBX1.out (by decide))).trans HBX1.out; have kx2 := (HG2.out.block (lt_of_block HBX2.out) (own_ne_type HI1.out.own HBX2.out (by decide))).trans HBX2.out; have m5 := cell0_of ((Below.heap_setCell _ ⟨tb, 0, none⟩ (.slice (some ⟨g, 0, none⟩) (vs.length + 1) cap) _ (ne_of_type kx1 k3 (by decide))).trans kx1); have m6 := cell0_of ((Below.heap_setCell _ ⟨tb, 0, none⟩ (.slice (some ⟨g, 0, none⟩) (vs.length + 1) cap) _ (ne_of_type kx2 k3 (by decide))).trans kx2); clear k3 kx1 kx2)
  go_ret
  exact ⟨rfl, _, HI3.out⟩

end Go.Proofs.Ytmmgihaoahhkjaa

/- kind.Same by its contract. -/
namespace Go.Proofs.Ytmmgihaoahhkjaa
open Go.ChangeShapes Go.WideShapes Go.ChangeAt Go.RowKit
set_option linter.unusedVariables false

theorem ent_same1 : ∀ args w, (callFunc 56 args).run Try.prog w = .ok (.enter 56 args) w := fun args w => by simp [go_sem]

/-- what Same has laid ahead of its loop -/
def sw (w : World) (t : Int) (a : Option Addr) (l c : Nat) (t2 : Int) (a2 : Option Addr) (l2 c2 : Nat) : World :=
  (((((w.alloc (.cells #[.int .i64 t, .slice a l c] 24)).alloc (.cells #[.int .i64 t2, .slice a2 l2 c2] 24)).alloc (.cells #[.int .i64 t, .slice a l c] 24)).alloc (.cells #[.int .i64 t2, .slice a2 l2 c2] 24)).alloc
    (.cells #[.slice (some ⟨w.heap.size + 1 + 1, 0, none⟩) 1 1, .slice (some ⟨w.heap.size + 1 + 1 + 1, 0, none⟩) 1 1] 79)).alloc (.cells #[.slice (some ⟨w.heap.size + 1 + 1 + 1 + 1, 0, none⟩) 1 1] 80)

theorem sw_inv (w : World) (t : Int) (a : Option Addr) (l c : Nat) (t2 : Int) (a2 : Option Addr) (l2 c2 : Nat) : SInv w (sw w t a l c t2 a2 l2 c2) (w.heap.size + 1 + 1 + 1 + 1 + 1) (w.heap.size + 1 + 1) (w.heap.size + 1 + 1 + 1) #[.int .i64 t, .slice a l c] #[.int .i64 t2, .slice a2 l2 c2]
    (.slice (some ⟨w.heap.size + 1 + 1 + 1 + 1, 0, none⟩) 1 1) [cpV (some ⟨w.heap.size + 1 + 1, 0, none⟩) 1 1 (some ⟨w.heap.size + 1 + 1 + 1, 0, none⟩) 1 1] := by
  have e2 := heap_alloc_new ((w.alloc (.cells #[.int .i64 t, .slice a l c] 24)).alloc (.cells #[.int .i64 t2, .slice a2 l2 c2] 24)) (.cells #[.int .i64 t, .slice a l c] 24)
  have e3 := heap_alloc_new (((w.alloc (.cells #[.int .i64 t, .slice a l c] 24)).alloc (.cells #[.int .i64 t2, .slice a2 l2 c2] 24)).alloc (.cells #[.int .i64 t, .slice a l c] 24)) (.cells #[.int .i64 t2, .slice a2 l2 c2] 24)
  have e4 := heap_alloc_new ((((w.alloc (.cells #[.int .i64 t, .slice a l c] 24)).alloc (.cells #[.int .i64 t2, .slice a2 l2 c2] 24)).alloc (.cells #[.int .i64 t, .slice a l c] 24)).alloc (.cells #[.int .i64 t2, .slice a2 l2 c2] 24))
    (.cells #[.slice (some ⟨w.heap.size + 1 + 1, 0, none⟩) 1 1, .slice (some ⟨w.heap.size + 1 + 1 + 1, 0, none⟩) 1 1] 79)
  have e5 := heap_alloc_new (((((w.alloc (.cells #[.int .i64 t, .slice a l c] 24)).alloc (.cells #[.int .i64 t2, .slice a2 l2 c2] 24)).alloc (.cells #[.int .i64 t, .slice a l c] 24)).alloc (.cells #[.int .i64 t2, .slice a2 l2 c2] 24)).alloc
    (.cells #[.slice (some ⟨w.heap.size + 1 + 1, 0, none⟩) 1 1, .slice (some ⟨w.heap.size + 1 + 1 + 1, 0, none⟩) 1 1] 79)) (.cells #[.slice (some ⟨w.heap.size + 1 + 1 + 1 + 1, 0, none⟩) 1 1] 80)
  simp only [World.size_alloc] at e2 e3 e4 e5
  refine ⟨Lf.gbt (Lf.gb _) (Lf.gbt (Lf.gb _) (Lf.gbt (Lf.gb _) (Lf.gbt (Lf.gb _) (Lf.gbt (Lf.gb _) (Lf.gb _))))), by omega, e5, ?_, ?_, ?_⟩
  · exact heap_keep (heap_keep (heap_keep e2))
  · exact heap_keep (heap_keep e3)
  · exact ⟨rfl, .inr ⟨w.heap.size + 1 + 1 + 1 + 1, 1, #[.slice (some ⟨w.heap.size + 1 + 1, 0, none⟩) 1 1, .slice (some ⟨w.heap.size + 1 + 1 + 1, 0, none⟩) 1 1], rfl, by omega, heap_keep e4, by simp, by simp [maxLen], rfl, rfl⟩⟩

/-- where Same stands -/
def SRel (w0 W1 : World) (q1 q2 : Array Value) (T U : Ty) (n : Nat) (wr : World) : Prop :=
  ∃ (v : Value) (vs : List Value) (rows : List (List Ty × List Ty)), SInv w0 wr (w0.heap.size + 1 + 1 + 1 + 1 + 1) (w0.heap.size + 1 + 1) (w0.heap.size + 1 + 1 + 1) q1 q2 v vs ∧
    RowsOk2 (fun b => b < w0.heap.size ∨ b = w0.heap.size + 1 + 1 ∨ b = w0.heap.size + 1 + 1 + 1) W1 rows vs ∧ leftOf2 rows = n ∧ n ≤ T.size + 1 ∧ rows.all sameRow = sameT T U

def sameAt (x y : List Ty) (i : Nat) : Bool := match x[i]?, y[i]? with
  | some p, some q => decide (p.t = q.t)
  | _, _ => true

theorem sameAt_eq {x y : List Ty} {i : Nat} (h1 : i < x.length) (h2 : i < y.length) : sameAt x y i = decide ((x[i]).t = (y[i]).t) := by
  simp [sameAt, List.getElem?_eq_getElem h1, List.getElem?_eq_getElem h2]

theorem zip_take_succ (x y : List Ty) (i : Nat) (h1 : i < x.length) (h2 : i < y.length) : ((x.zip y).map argsOf).take (i + 1) = ((x.zip y).map argsOf).take i ++ [((x[i]).args, (y[i]).args)] := by
  rw [List.take_succ_eq_append_getElem (by simp; omega)]
  simp [argsOf]

theorem zip_all {x y : List Ty} (hl : x.length = y.length) (h : ∀ i, i < x.length → sameAt x y i = true) : ∀ p ∈ x.zip y, p.1.t = p.2.t := by
  intro p hp
  obtain ⟨i, hi, rfl⟩ := List.getElem_of_mem hp
  rw [List.length_zip] at hi
  have h1 : i < x.length := by omega
  have := h i h1
  rw [sameAt_eq h1 (by omega)] at this
  simpa using this

theorem rowOne {w0 W : World} {t : Int} {a : Option Addr} {c r : Nat} {T : Ty} {ok : Nat → Prop} (hok : ok r) (hr : W.heap[r]? = some (.cells #[.int .i64 T.t, .slice a T.args.length c] 24 (0, 0))) (hL : LiesT ok W T (tyV T.t a T.args.length c)) : RowT ok W [T] (some ⟨r, 0, none⟩) (fun _ => tyV T.t a T.args.length c) := by
  refine ⟨by simp [maxLen], fun i hi => ?_, fun i hi => ?_⟩
  · have : i = 0 := by simpa using hi
    subst this
    exact ⟨_, 0, rfl, hok, T.t, a, T.args.length, c, rfl, cell0_of hr, cell1_of hr⟩
  · have : i = 0 := by simpa using hi
    subst this
    exact hL

set_option maxRecDepth 100000 in
set_option maxHeartbeats 1000000 in
theorem same_any {w0 : World} {T U : Ty} {v v2 : Value} (hL : LiesT (· < w0.heap.size) w0 T v) (hL2 : LiesT (· < w0.heap.size) w0 U v2) (hz : T.size ≤ 50000000) :
    Calls Try.prog 25 #[v, v2] w0 fun e w' => e = .returned (.bool (sameT T U)) ∧ w0.grownBy w' none := by
  obtain ⟨a, c, V, rfl, it, hR⟩ := hL.inv
  obtain ⟨a2, c2, V2, rfl, it2, hR2⟩ := hL2.inv
  have hsw := sw_inv w0 T.t a T.args.length c U.t a2 U.args.length c2
  obtain ⟨W1, hW1⟩ : ∃ W, W = sw w0 T.t a T.args.length c U.t a2 U.args.length c2 := ⟨_, rfl⟩
  rw [← hW1] at hsw
  obtain ⟨μ, hμ⟩ := least_of (SRel w0 W1 #[.int .i64 T.t, .slice a T.args.length c] #[.int .i64 U.t, .slice a2 U.args.length c2] T U)
  have h0 : SRel w0 W1 #[.int .i64 T.t, .slice a T.args.length c] #[.int .i64 U.t, .slice a2 U.args.length c2] T U (T.size + 1) W1 := by
    refine ⟨_, _, [([T], [U])], hsw, ⟨rfl, ?_⟩, by simp [leftOf2, tysizes], Nat.le_refl _, by simp [sameRow, sameTs]⟩
    intro i r u h1 h2
    cases i with
    | zero =>
      simp at h1 h2
      subst h1; subst h2
      have hs : Same (· < w0.heap.size) w0 W1 := fun b o hb _ => World.cell?_of_block (hsw.grown.block b hb (by simp))
      exact ⟨_, 1, _, _, 1, _, rfl, rowOne (w0 := w0) (t := T.t) (.inr (.inl rfl)) hsw.row1 ((hL.same hs).okMono (fun b _ hb => .inl hb)), rowOne (w0 := w0) (t := T.t) (.inr (.inr rfl)) hsw.row2 ((hL2.same hs).okMono (fun b _ hb => .inl hb))⟩
    | succ i => simp at h1
  have hrl : T.args.length ≤ maxLen := hR.1
  have hrl2 : U.args.length ≤ maxLen := hR2.1
  unfold maxLen at hrl hrl2
  have H0 := Lf.hide h0
  have HM := Lf.hide hμ
  have HSW := Lf.hide hsw
  have HW1 := Lf.hide hW1
  clear h0 hμ hR hR2 hL hL2 it it2 hsw hW1
  unfold tyV
  go_enter Try.func25, Try.ntmps25
  go_wp2_with fail
  go_loopw [7] (fun _ wr => ∃ n, SRel w0 W1 #[.int .i64 T.t, .slice a T.args.length c] #[.int .i64 U.t, .slice a2 U.args.length c2] T U n wr) (fun _ wr => μ wr)
  case atStart =>
    have h := H0.out
    rw [HW1.out] at h ⊢
    exact ⟨_, h⟩
  case round =>
    obtain ⟨n0, hn0⟩ := hrel
    obtain ⟨v1, vs, rows, hI, hRows, hn, hle, hall⟩ := (HM.out wr n0 hn0).1
    have d1 := cell_of_one hI.tod
    have f1 := free_of_one hI.tod
    have lt1 := lt_of_block hI.tod
    by_cases hv : vs.length = 0
    · obtain ⟨a0, cc0, rfl⟩ := own_empty hI.own hv
      have hres : sameT T U = true := by
        have h1 := hRows.1
        have h2 : rows = [] := List.length_eq_zero_iff.1 (by omega)
        rw [h2] at hall
        exact hall.symm
      have HR := Lf.hide hres
      have HI := Lf.hide hI
      clear hI hRows hn hle hall hres hn0
      go_wp2_with fail
      go_ret
      exact ⟨by rw [HR.out]; rfl, HI.out.grown⟩
    · obtain ⟨rows', r, vs', u, rfl, rfl, hRows', a3, c3, V3, a4, c4, V4, rfl, hRT, hRT2⟩ := hRows.last (by omega)
      obtain ⟨x, y⟩ := r
      simp only at hRT hRT2
      have hlv : (vs' ++ [cpV a3 x.length c3 a4 y.length c4]).length = vs'.length + 1 := by simp
      have hform := World.ownsRow.form hI.own (by simp)
      rw [hlv] at hform
      obtain ⟨g, cap, rfl, _, _⟩ := hform
      have hown : wr.ownsRow w0.heap.size 79 2 (.slice (some ⟨g, 0, none⟩) (vs'.length + 1) cap) (vs'.length + 1) (flatT (vs' ++ [cpV a3 x.length c3 a4 y.length c4])) := by
        have ho := hI.own
        unfold OwnsC at ho
        rw [hlv] at ho
        exact ho
      have hcap := own_cap hown
      have hcap1 : vs'.length ≤ cap := by omega
      have hcap2 : ¬ cap = 0 := by omega
      obtain ⟨hc0, hc1⟩ := own_last2 hown
      have hI2 := (hI.pop rfl rfl).alloc (.cells #[.slice a3 x.length c3, .slice a4 y.length c4] 79)
      have hb1 : vs'.length + 1 ≤ 50000001 := by
        have h1 : rows'.length + 1 = vs'.length + 1 := by have := hRows.1; simpa using this
        have h2 := len_left2 (rows' ++ [(x, y)])
        rw [List.length_append, List.length_singleton] at h2
        omega
      have hleft : leftOf2 rows' + (tysizes x + 1) = μ wr := by rw [← hn, leftOf2_append, leftOf2_single]
      have hE : Calls Try.prog 40 #[.slice a3 x.length c3, .slice a4 y.length c4, .func (.func 56) #[] #[.pointer (some ⟨w0.heap.size + 1 + 1 + 1 + 1 + 1, 0, none⟩)]]
          ((wr.setCell ⟨w0.heap.size + 1 + 1 + 1 + 1 + 1, 0, none⟩ (.slice (some ⟨g, 0, none⟩) vs'.length cap)).alloc (.cells #[.slice a3 x.length c3, .slice a4 y.length c4] 79)) fun e w' => (e = .returned (.bool true) ∧ ∃ m, m < μ wr ∧ SRel w0 W1 #[.int .i64 T.t, .slice a T.args.length c] #[.int .i64 U.t, .slice a2 U.args.length c2] T U m w') ∨
            (e = .returned (.bool false) ∧ sameT T U = false ∧ w0.grownBy w' none) := by
        by_cases hxy : x.length = y.length
        · rw [← hxy] at hI2 ⊢
          refine (equal_any 56 _ x.length a3 a4 c3 c4 V3 V4 (sameAt x y) (fun i w => ∃ v2 vs2, SInv w0 w (w0.heap.size + 1 + 1 + 1 + 1 + 1) (w0.heap.size + 1 + 1) (w0.heap.size + 1 + 1 + 1) #[.int .i64 T.t, .slice a T.args.length c] #[.int .i64 U.t, .slice a2 U.args.length c2] v2 vs2 ∧
              RowsOk2 (fun b => b < w0.heap.size ∨ b = w0.heap.size + 1 + 1 ∨ b = w0.heap.size + 1 + 1 + 1) W1 (rows' ++ ((x.zip y).map argsOf).take i) vs2) (fun w => w0.grownBy w none) hRT.1 ent_same1 ?_ ?_ ?_ ?_ _ ⟨_, vs', hI2, by simpa using hRows'⟩).mono ?_
          · rintro i w hi ⟨v2, vs2, hI3, _⟩
            exact ((hRT.2.1 i hi).same (HSW.out.same hI3)).okMono (fun _ _ _ => trivial)
          · rintro i w hi ⟨v2, vs2, hI3, _⟩
            exact ((hRT2.2.1 i (by omega)).same (HSW.out.same hI3)).okMono (fun _ _ _ => trivial)
          · rintro i w o ⟨v2, vs2, hI3, h4⟩
            exact ⟨v2, vs2, hI3.alloc o, h4⟩
          · rintro i w hi ⟨v2, vs2, hI3, h4⟩
            have hi2 : i < y.length := by omega
            obtain ⟨ax, cx, Vx, hVx, _, hRx⟩ := (hRT.2.2 i hi).inv
            obtain ⟨ay, cy, Vy, hVy, _, hRy⟩ := (hRT2.2.2 i hi2).inv
            have hlen : vs2.length ≤ 100000000 := by
              have h5 := h4.1
              have h6 : (((x.zip y).map argsOf).take i).length ≤ x.length := by simp; omega
              have h7 := tylength_le x
              have h8 := hRows'.1
              rw [List.length_append] at h5
              omega
            rw [hVx, hVy]
            refine (look2_any hI3 hlen).mono ?_
            rintro e w' ⟨rfl, v', hI4⟩
            rw [sameAt_eq hi hi2]
            refine ⟨rfl, fun _ => ⟨v', _, hI4, ?_⟩, fun _ => hI4.grown⟩
            rw [zip_take_succ x y i hi hi2, ← List.append_assoc]
            exact h4.snoc ⟨ax, cx, Vx, ay, cy, Vy, rfl, hRx, hRy⟩
          · rintro e w' (⟨rfl, ⟨v2, vs2, hI3, h4⟩, hb⟩ | ⟨i, hi, hb, rfl, hg⟩)
            · rw [List.take_of_length_le (by simp; omega)] at h4
              have h7 := zip_left x y
              refine .inl ⟨rfl, leftOf2 (rows' ++ (x.zip y).map argsOf), ?_, v2, vs2, _, hI3, h4, rfl, ?_, ?_⟩
              · rw [leftOf2_append]; omega
              · rw [leftOf2_append]; omega
              · rw [← hall, List.all_append, List.all_append, ← sameTs_zip x y hxy (zip_all hxy hb)]; simp [sameRow]
            · refine .inr ⟨rfl, ?_, hg⟩
              have hi2 : i < y.length := by omega
              rw [sameAt_eq hi hi2] at hb
              rw [← hall, List.all_append]
              simp [sameRow, sameTs_no x y i hi hi2 (by simpa using hb)]
        · refine (equal_len _ _ _ _ _ _ _ hxy hRT.1 hRT2.1 _).mono ?_
          rintro e w' ⟨rfl, rfl⟩
          refine .inr ⟨rfl, ?_, hI2.grown⟩
          have : sameTs x y = false := by
            cases h : sameTs x y with
            | false => rfl
            | true => exact absurd (sameTs_len h) hxy
          rw [← hall, List.all_append]
          simp [sameRow, this]
      have HE := Lf.hide hE
      have hvv : (vs'.length : Int) ≤ 4611686018427387904 := by omega
      clear hE hI2 hI hRows hRows' hRT hRT2 hn hle hall hn0 hlv hleft hz hb1 hv hcap hown
      unfold cpV at *
      go_wp2_with fail
      refine HE.out.mono ?_
      rintro e w2 (⟨rfl, hm⟩ | ⟨rfl, hno, hg⟩)
      · have HM2 := Lf.hide hm
        clear hm
        go_wp2_with fail
        obtain ⟨m, h1, h2⟩ := HM2.out
        go_roundw
        case rel => exact ⟨m, h2⟩
        case measure => exact Nat.lt_of_le_of_lt (HM.out _ m h2).2 h1
      · have HN := Lf.hide hno
        have HG := Lf.hide hg
        clear hno hg
        go_wp2_with fail
        go_ret
        exact ⟨by rw [HN.out]; rfl, HG.out⟩

end Go.Proofs.Ytmmgihaoahhkjaa
