/- Lists of values that the reader makes: what they hold, and that it stays. -/
import Derived.Test.YtmmgihaoahhkjaaBasis
namespace Go.Proofs.Ytmmgihaoahhkjaa
set_option maxRecDepth 20000
open Go.ChangeShapes Go.WideShapes Go.ChangeAt Go.RowKit
set_option linter.unusedVariables false

theorem info_va : (Try.prog.info? 28).map (fun i => (i.zero, i.size, i.bytes)) = some (some (.agg #[.int .i64 0, .int .i64 0, .int .i64 0, .string ⟨#[]⟩, .slice none 0 0, .slice none 0 0, .slice none 0 0]), 7, 112) := by kernel_rfl

/-- the slice v is the call's own and holds the values vs -/
def OwnsVa (B : Nat) (w : World) (v : Value) (vs : List Value) : Prop := w.ownsRow B 28 7 v vs.length (flat vs)

/-- one node put behind a list of the call's own -/
theorem appVa {ops : Array Oper} {rest : List Oper} {o : Oper} {a : Act} {Q : Exit → Act → World → Prop} (B : Nat) (vs : List Value) (k n p : Int) (st : ByteArray) (sa : Option Addr) (sl sc : Nat) (ta : Option Addr) (tl tc : Nat) (na : Option Addr) (nl nc : Nat) (w0 : World) (v : Value) (hgd : o.guard = none) (s x : Operand)
    (ho : o.op = .call { callee := .builtin .append, args := #[s, x], argTypes := #[25, 25] }) (hs : a.eval s = v) {H : Nat} (hx : a.eval x = .slice (some ⟨H, 0, none⟩) 1 1) (hH : w0.heap.size = H)
    (hown : OwnsVa B w0 v vs) (hB : B ≤ w0.heap.size) (hlen : vs.length ≤ 100000000000)
    (h : ∀ g cap w', OwnsVa B w' (.slice (some ⟨g, 0, none⟩) (vs.length + 1) cap) (vs ++ [vaV k n p st sa sl sc ta tl tc na nl nc]) → Gr w0 v w' (.slice (some ⟨g, 0, none⟩) (vs.length + 1) cap) → wpList Try.prog ops Q rest (a.put o.dst (.slice (some ⟨g, 0, none⟩) (vs.length + 1) cap)) w') :
    wpList Try.prog ops Q (o :: rest) a (w0.alloc (.cells #[.int .i64 k, .int .i64 n, .int .i64 p, .string st, .slice sa sl sc, .slice ta tl tc, .slice na nl nc] 28)) := by
  obtain ⟨i0, hi, hz0, hz1, hz2⟩ := info_parts info_va
  subst hH
  refine wpList_append_lies _ hgd s x 25 ho B 28 i0 _ 7 112 Try.underlying25 hi hz0 hz1 hz2 rfl (by decide) v vs.length (flat vs) hs (World.ownsRow.alloc hown _) ⟨w0.heap.size, 0, none⟩ 1 1 [.int .i64 k, .int .i64 n, .int .i64 p, .string st, .slice sa sl sc, .slice ta tl tc, .slice na nl nc] hx rfl ?_ ?_ (by decide) ?_ ?_ ?_ _ rfl ?_
  · exact World.news_of_block (w := w0.alloc _) (B := w0.heap.size) (cs := #[.int .i64 k, .int .i64 n, .int .i64 p, .string st, .slice sa sl sc, .slice ta tl tc, .slice na nl nc]) (heap_alloc_new _ _)
  · intro u hu; simp at hu; rcases hu with rfl | rfl | rfl | rfl | rfl | rfl | rfl <;> rfl
  · unfold maxLen; omega
  · omega
  · simp; omega
  · intro g cap w' h1 h2 h3 _
    refine h g cap w' ?_ ?_
    · unfold OwnsVa; rw [flat_append, List.length_append]; exact h1
    · refine Gr.trans (Gr.alloc (Gr.refl w0 v) _) ⟨h2, ?_⟩
      rcases h3 with h3 | h3
      · exact .inl h3.symm
      · exact .inr ⟨g, rfl, by omega⟩

/-- .. at a step of a region that draws its order -/
theorem step_appVa {ops : Array Oper} {o : Oper} {a : Act} {K : Act → World → Prop} {Q : Exit → Act → World → Prop} {E : Prop} (B : Nat) (vs : List Value) (k n p : Int) (st : ByteArray) (sa : Option Addr) (sl sc : Nat) (ta : Option Addr) (tl tc : Nat) (na : Option Addr) (nl nc : Nat) (w0 : World) (v : Value) (hgd : o.guard = none) (s x : Operand)
    (ho : o.op = .call { callee := .builtin .append, args := #[s, x], argTypes := #[25, 25] }) (hs : a.eval s = v) {H : Nat} (hx : a.eval x = .slice (some ⟨H, 0, none⟩) 1 1) (hH : w0.heap.size = H)
    (hown : OwnsVa B w0 v vs) (hB : B ≤ w0.heap.size) (hlen : vs.length ≤ 100000000000)
    (h : ∀ g cap w', OwnsVa B w' (.slice (some ⟨g, 0, none⟩) (vs.length + 1) cap) (vs ++ [vaV k n p st sa sl sc ta tl tc na nl nc]) → Gr w0 v w' (.slice (some ⟨g, 0, none⟩) (vs.length + 1) cap) → K (a.put o.dst (.slice (some ⟨g, 0, none⟩) (vs.length + 1) cap)) w') :
    if Region.wanted o (yielded ops a.tmps) = true then Oper.wp Try.prog o a (w0.alloc (.cells #[.int .i64 k, .int .i64 n, .int .i64 p, .string st, .slice sa sl sc, .slice ta tl tc, .slice na nl nc] 28)) K Q else E := by
  have hw : Region.wanted o (yielded ops a.tmps) = true := by simp [Region.wanted, hgd]
  rw [if_pos hw]
  obtain ⟨i0, hi, hz0, hz1, hz2⟩ := info_parts info_va
  subst hH
  refine wp_append_lies _ s x 25 ho B 28 i0 _ 7 112 Try.underlying25 hi hz0 hz1 hz2 rfl (by decide) v vs.length (flat vs) hs (World.ownsRow.alloc hown _) ⟨w0.heap.size, 0, none⟩ 1 1 [.int .i64 k, .int .i64 n, .int .i64 p, .string st, .slice sa sl sc, .slice ta tl tc, .slice na nl nc] hx rfl ?_ ?_ (by decide) ?_ ?_ ?_ _ rfl ?_
  · exact World.news_of_block (w := w0.alloc _) (B := w0.heap.size) (cs := #[.int .i64 k, .int .i64 n, .int .i64 p, .string st, .slice sa sl sc, .slice ta tl tc, .slice na nl nc]) (heap_alloc_new _ _)
  · intro u hu; simp at hu; rcases hu with rfl | rfl | rfl | rfl | rfl | rfl | rfl <;> rfl
  · unfold maxLen; omega
  · omega
  · simp; omega
  · intro g cap w' h1 h2 h3 _
    refine h g cap w' ?_ ?_
    · unfold OwnsVa; rw [flat_append, List.length_append]; exact h1
    · refine Gr.trans (Gr.alloc (Gr.refl w0 v) _) ⟨h2, ?_⟩
      rcases h3 with h3 | h3
      · exact .inl h3.symm
      · exact .inr ⟨g, rfl, by omega⟩

/-- the list v holds the trees ts, whose own memory is from H on and not the list's -/
structure ListOkV (H : Nat) (w : World) (v : Value) (ts : List Va) (vs : List Value) : Prop where
  own : OwnsVa H w v vs
  len : vs.length = ts.length
  lies : ∀ (i : Nat) (t : Va) (u : Value), ts[i]? = some t → vs[i]? = some u → LiesV (fun b => H ≤ b ∧ some b ≠ v.ownBlock) w t u

theorem ListOkV.nil (H : Nat) (w : World) : ListOkV H w (.slice none 0 0) [] [] := ⟨World.ownsRow_nil _ _ _ _, rfl, fun i t u h => by simp at h⟩

theorem ListOkV.keep {H : Nat} {w w' : World} {v : Value} {ts : List Va} {vs : List Value} {rb : Nat} (h : ListOkV H w v ts vs) (hg : w.grownBy w' (some rb)) (hrb : rb < H) : ListOkV H w' v ts vs := by
  refine ⟨World.ownsRow.kept h.own hg ?_, h.len, fun i t u ht hu => (h.lies i t u ht hu).same ?_⟩
  · cases hv : v.ownBlock with
    | none => exact .inl rfl
    | some k => right; have := (World.ownsRow.lt h.own k hv).1; simp; omega
  · intro b o hb hlt
    exact World.cell?_of_block (hg.block b hlt (by simp; have := hb.1; omega))

theorem ListOkV.push {H : Nat} {w w' : World} {v v' u : Value} {ts : List Va} {vs : List Value} {t : Va} {S : Nat} (h : ListOkV H w v ts vs) (hS : H ≤ S) (hvS : ∀ k, v.ownBlock = some k → k < S) (hL : LiesV (S ≤ ·) w t u) (hg : Gr w v w' v') (ho : OwnsVa H w' v' (vs ++ [u])) : ListOkV H w' v' (ts ++ [t]) (vs ++ [u]) := by
  have key : ∀ t u, LiesV (fun b => H ≤ b ∧ some b ≠ v.ownBlock) w t u → LiesV (fun b => H ≤ b ∧ some b ≠ v'.ownBlock) w' t u := by
    intro t u hl
    have h1 := hl.okMono (ok' := fun b => H ≤ b ∧ some b ≠ v.ownBlock ∧ some b ≠ v'.ownBlock) (fun b hb hk => ⟨hk.1, hk.2, by
      rcases hg.2 with e | ⟨g, e, hge⟩
      · rw [e]; exact hk.2
      · rw [e]; simp; omega⟩)
    refine (h1.same (w' := w') ?_).okMono (fun b _ hb => ⟨hb.1, hb.2.2⟩)
    intro b o hb hlt
    exact World.cell?_of_block (hg.block hlt hb.2.1)
  refine ⟨ho, by simp [h.len], fun i t' u' ht hu => key t' u' ?_⟩
  by_cases hi : i < ts.length
  · rw [List.getElem?_append_left hi] at ht
    rw [List.getElem?_append_left (by rw [h.len]; exact hi)] at hu
    exact h.lies i t' u' ht hu
  · have hi' : i = ts.length := by
      have := (List.getElem?_eq_some_iff.1 ht).1
      simp at this; omega
    subst hi'
    rw [List.getElem?_append_right (Nat.le_refl _)] at ht
    rw [← h.len, List.getElem?_append_right (Nat.le_refl _)] at hu
    simp at ht hu
    subst ht; subst hu
    exact hL.okMono (fun b _ hb => ⟨by have : S ≤ b := hb; omega, fun e => by have h2 := hvS b e.symm; have : S ≤ b := hb; omega⟩)

theorem flatV_get : ∀ (vs : List Value), (∀ u ∈ vs, (nodeCells u).length = 7) → ∀ (i j : Nat) (u : Value), vs[i]? = some u → j < 7 → (flat vs)[i * 7 + j]? = (nodeCells u)[j]?
  | [], _, i, j, u, h, _ => by simp at h
  | x :: vs, hx, 0, j, u, h, hj => by
    simp at h; subst h
    have := hx x (by simp)
    simp only [flat, List.flatMap_cons]
    rw [List.getElem?_append_left (by omega)]; simp
  | x :: vs, hx, i + 1, j, u, h, hj => by
    have h5 := hx x (by simp)
    have := flatV_get vs (fun u hu => hx u (by simp [hu])) i j u (by simpa using h) hj
    simp only [flat, List.flatMap_cons] at this ⊢
    rw [List.getElem?_append_right (by omega), h5, show (i + 1) * 7 + j - 7 = i * 7 + j from by omega]
    exact this

theorem ListOkV.done {H : Nat} {w : World} {v : Value} {ts : List Va} {vs : List Value} (h : ListOkV H w v ts vs) (hm : ts.length ≤ maxLen) :
    ∃ (a : Option Addr) (c : Nat) (V : Nat → Value), v = .slice a ts.length c ∧ ts.length ≤ c ∧ RowVa (H ≤ ·) w ts a V := by
  have hl := h.len
  have each : ∀ i (hi : i < ts.length), ∃ u, vs[i]? = some u ∧ LiesV (H ≤ ·) w ts[i] u := by
    intro i hi
    have hv : i < vs.length := by omega
    exact ⟨vs[i], List.getElem?_eq_getElem hv, (h.lies i ts[i] vs[i] (List.getElem?_eq_getElem hi) (List.getElem?_eq_getElem hv)).okMono (fun b _ hb => hb.1)⟩
  have h5 : ∀ u ∈ vs, (nodeCells u).length = 7 := by
    intro u hu
    obtain ⟨i, hi, rfl⟩ := List.getElem_of_mem hu
    obtain ⟨u, e, hL⟩ := each i (by omega)
    rw [List.getElem?_eq_getElem hi] at e
    simp at e
    obtain ⟨k, n, p, s, aa, al, ac, ta, tl, tc, na, nl, nc, e2⟩ := hL.vaV
    rw [e, e2]; rfl
  have ho := h.own
  unfold OwnsVa at ho
  rcases ho.2 with ⟨rfl, h0⟩ | ⟨g, cap, cur, rfl, hbg, hg, hnc, hcm, hcs, htake⟩
  · have h00 : ts.length = 0 := by omega
    exact ⟨none, 0, fun _ => .int .i64 0, by rw [h00], by omega, by omega, fun i hi => by omega, fun i hi => by omega⟩
  · refine ⟨some ⟨g, 0, none⟩, cap, fun i => (vs[i]?).getD (.int .i64 0), by rw [hl], by omega, hm, fun i hi => ?_, fun i hi => ?_⟩
    · obtain ⟨u, e, hL⟩ := each i hi
      obtain ⟨k, n, p, s, aa, al, ac, ta, tl, tc, na, nl, nc, e2⟩ := hL.vaV
      have hcell : ∀ j x, j < 7 → (nodeCells u)[j]? = some x → w.cell? ⟨g, i * 7 + j, none⟩ = some x := by
        intro j x hj hx
        have := World.ownsRow.cells ho (g := g) rfl (i * 7 + j) x (by rw [flatV_get vs h5 i j u e hj]; exact hx)
        have hadd : (⟨g, 0, none⟩ : Addr).add (i * 7 + j) = ⟨g, i * 7 + j, none⟩ := by unfold Addr.add; split <;> simp_all
        rwa [hadd] at this
      rw [e2] at hcell
      refine ⟨g, 0, rfl, hbg, k, n, p, s, aa, al, ac, ta, tl, tc, na, nl, nc, by show (vs[i]?).getD _ = _; rw [e]; exact e2, ?_, ?_, ?_, ?_, ?_, ?_, ?_⟩
      · have := hcell 0 _ (by omega) rfl; simpa using this
      · have := hcell 1 _ (by omega) rfl; simpa using this
      · have := hcell 2 _ (by omega) rfl; simpa using this
      · have := hcell 3 _ (by omega) rfl; simpa using this
      · have := hcell 4 _ (by omega) rfl; simpa using this
      · have := hcell 5 _ (by omega) rfl; simpa using this
      · have := hcell 6 _ (by omega) rfl; simpa using this
    · obtain ⟨u, e, hL⟩ := each i hi
      show LiesV _ _ _ ((vs[i]?).getD _)
      rw [e]; exact hL

end Go.Proofs.Ytmmgihaoahhkjaa
