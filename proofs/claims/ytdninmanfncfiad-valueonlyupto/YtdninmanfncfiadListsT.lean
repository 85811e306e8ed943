/- Lists of types that a function makes: what they hold, and that it stays. -/
import Derived.Test.YtdninmanfncfiadGoodT2
namespace Go.Proofs.Ytdninmanfncfiad
open Go.ChangeShapes Go.WideShapes Go.ChangeAt Go.RowKit
set_option linter.unusedVariables false

theorem info_ty : (Try.prog.info? 24).map (fun i => (i.zero, i.size, i.bytes)) = some (some (.agg #[.int .i64 0, .slice none 0 0]), 2, 32) := by kernel_rfl

def tyCells : Value → List Value
  | .agg xs => xs.toList
  | _ => []

def flatT (vs : List Value) : List Value := vs.flatMap tyCells

/-- the slice v is the call's own and holds the nodes vs -/
def OwnsT (B : Nat) (w : World) (v : Value) (vs : List Value) : Prop := w.ownsRow B 24 2 v vs.length (flatT vs)

theorem flatT_append (a b : List Value) : flatT (a ++ b) = flatT a ++ flatT b := by simp [flatT]

/-- one node put behind a list of the call's own -/
theorem appT {ops : Array Oper} {rest : List Oper} {o : Oper} {a : Act} {Q : Exit → Act → World → Prop} (B : Nat) (vs : List Value) (k : Int) (sa : Option Addr) (sl sc : Nat) (w0 : World) (v : Value) (hgd : o.guard = none) (s x : Operand)
    (ho : o.op = .call { callee := .builtin .append, args := #[s, x], argTypes := #[22, 22] }) (hs : a.eval s = v) {H : Nat} (hx : a.eval x = .slice (some ⟨H, 0, none⟩) 1 1) (hH : w0.heap.size = H)
    (hown : OwnsT B w0 v vs) (hB : B ≤ w0.heap.size) (hlen : vs.length ≤ 1000000000000)
    (h : ∀ g cap w', OwnsT B w' (.slice (some ⟨g, 0, none⟩) (vs.length + 1) cap) (vs ++ [tyV k sa sl sc]) → Gr w0 v w' (.slice (some ⟨g, 0, none⟩) (vs.length + 1) cap) → wpList Try.prog ops Q rest (a.put o.dst (.slice (some ⟨g, 0, none⟩) (vs.length + 1) cap)) w') :
    wpList Try.prog ops Q (o :: rest) a (w0.alloc (.cells #[.int .i64 k, .slice sa sl sc] 24)) := by
  obtain ⟨i0, hi, hz0, hz1, hz2⟩ := info_parts info_ty
  subst hH
  refine wpList_append_lies _ hgd s x 22 ho B 24 i0 _ 2 32 Try.underlying22 hi hz0 hz1 hz2 rfl (by decide) v vs.length (flatT vs) hs (World.ownsRow.alloc hown _) ⟨w0.heap.size, 0, none⟩ 1 1 [.int .i64 k, .slice sa sl sc] hx rfl ?_ ?_ (by decide) ?_ ?_ ?_ _ rfl ?_
  · exact World.news_of_block (w := w0.alloc _) (B := w0.heap.size) (cs := #[.int .i64 k, .slice sa sl sc]) (heap_alloc_new _ _)
  · intro u hu; simp at hu; rcases hu with rfl | rfl <;> rfl
  · unfold maxLen; omega
  · omega
  · simp; omega
  · intro g cap w' h1 h2 h3 _
    refine h g cap w' ?_ ?_
    · unfold OwnsT; rw [flatT_append, List.length_append]; exact h1
    · refine Gr.trans (Gr.alloc (Gr.refl w0 v) _) ⟨h2, ?_⟩
      rcases h3 with h3 | h3
      · exact .inl h3.symm
      · exact .inr ⟨g, rfl, by omega⟩

/-- .. at a step of a region that draws its order -/
theorem step_appT {ops : Array Oper} {o : Oper} {a : Act} {K : Act → World → Prop} {Q : Exit → Act → World → Prop} {E : Prop} (B : Nat) (vs : List Value) (k : Int) (sa : Option Addr) (sl sc : Nat) (w0 : World) (v : Value) (hgd : o.guard = none) (s x : Operand)
    (ho : o.op = .call { callee := .builtin .append, args := #[s, x], argTypes := #[22, 22] }) (hs : a.eval s = v) {H : Nat} (hx : a.eval x = .slice (some ⟨H, 0, none⟩) 1 1) (hH : w0.heap.size = H)
    (hown : OwnsT B w0 v vs) (hB : B ≤ w0.heap.size) (hlen : vs.length ≤ 1000000000000)
    (h : ∀ g cap w', OwnsT B w' (.slice (some ⟨g, 0, none⟩) (vs.length + 1) cap) (vs ++ [tyV k sa sl sc]) → Gr w0 v w' (.slice (some ⟨g, 0, none⟩) (vs.length + 1) cap) → K (a.put o.dst (.slice (some ⟨g, 0, none⟩) (vs.length + 1) cap)) w') :
    if Region.wanted o (yielded ops a.tmps) = true then Oper.wp Try.prog o a (w0.alloc (.cells #[.int .i64 k, .slice sa sl sc] 24)) K Q else E := by
  have hw : Region.wanted o (yielded ops a.tmps) = true := by simp [Region.wanted, hgd]
  rw [if_pos hw]
  obtain ⟨i0, hi, hz0, hz1, hz2⟩ := info_parts info_ty
  subst hH
  refine wp_append_lies _ s x 22 ho B 24 i0 _ 2 32 Try.underlying22 hi hz0 hz1 hz2 rfl (by decide) v vs.length (flatT vs) hs (World.ownsRow.alloc hown _) ⟨w0.heap.size, 0, none⟩ 1 1 [.int .i64 k, .slice sa sl sc] hx rfl ?_ ?_ (by decide) ?_ ?_ ?_ _ rfl ?_
  · exact World.news_of_block (w := w0.alloc _) (B := w0.heap.size) (cs := #[.int .i64 k, .slice sa sl sc]) (heap_alloc_new _ _)
  · intro u hu; simp at hu; rcases hu with rfl | rfl <;> rfl
  · unfold maxLen; omega
  · omega
  · simp; omega
  · intro g cap w' h1 h2 h3 _
    refine h g cap w' ?_ ?_
    · unfold OwnsT; rw [flatT_append, List.length_append]; exact h1
    · refine Gr.trans (Gr.alloc (Gr.refl w0 v) _) ⟨h2, ?_⟩
      rcases h3 with h3 | h3
      · exact .inl h3.symm
      · exact .inr ⟨g, rfl, by omega⟩

/-- the list v holds the trees ts, whose own memory is from H on and not the list's -/
structure ListOkT (H : Nat) (w : World) (v : Value) (ts : List Ty) (vs : List Value) : Prop where
  own : OwnsT H w v vs
  len : vs.length = ts.length
  lies : ∀ (i : Nat) (t : Ty) (u : Value), ts[i]? = some t → vs[i]? = some u → LiesT (fun b => H ≤ b ∧ some b ≠ v.ownBlock) w t u

theorem ListOkT.nil (H : Nat) (w : World) : ListOkT H w (.slice none 0 0) [] [] := ⟨World.ownsRow_nil _ _ _ _, rfl, fun i t u h => by simp at h⟩

theorem ListOkT.keep {H : Nat} {w w' : World} {v : Value} {ts : List Ty} {vs : List Value} {rb : Nat} (h : ListOkT H w v ts vs) (hg : w.grownBy w' (some rb)) (hrb : rb < H) : ListOkT H w' v ts vs := by
  refine ⟨World.ownsRow.kept h.own hg ?_, h.len, fun i t u ht hu => (h.lies i t u ht hu).same ?_⟩
  · cases hv : v.ownBlock with
    | none => exact .inl rfl
    | some k => right; have := (World.ownsRow.lt h.own k hv).1; simp; omega
  · intro b o hb hlt
    exact World.cell?_of_block (hg.block b hlt (by simp; have := hb.1; omega))

theorem ListOkT.push {H : Nat} {w w' : World} {v v' u : Value} {ts : List Ty} {vs : List Value} {t : Ty} {S : Nat} (h : ListOkT H w v ts vs) (hS : H ≤ S) (hvS : ∀ k, v.ownBlock = some k → k < S) (hL : LiesT (S ≤ ·) w t u) (hg : Gr w v w' v') (ho : OwnsT H w' v' (vs ++ [u])) : ListOkT H w' v' (ts ++ [t]) (vs ++ [u]) := by
  have key : ∀ t u, LiesT (fun b => H ≤ b ∧ some b ≠ v.ownBlock) w t u → LiesT (fun b => H ≤ b ∧ some b ≠ v'.ownBlock) w' t u := by
    intro t u hl
    have h1 := hl.okMono (ok' := fun b => H ≤ b ∧ some b ≠ v.ownBlock ∧ some b ≠ v'.ownBlock) (fun b hb hk => ⟨hk.1, hk.2, by
      rcases hg.2 with e | ⟨g, e, hge⟩
      · rw [e]; exact hk.2
      · rw [e]; simp; omega⟩)
    refine (h1.same (w' := w') ?_).okMono (fun b _ hb => ⟨hb.1, hb.2.2⟩)
    intro b o hb hlt
    exact World.cell?_of_block (hg.block hlt hb.2.1)
  refine ⟨ho, by simp [h.len], fun i t' u' ht hu => key t' u' ?_⟩
  by_cases hi : i < ts.length
  · rw [List.getElem?_append_left hi] at ht
    rw [List.getElem?_append_left (by rw [h.len]; exact hi)] at hu
    exact h.lies i t' u' ht hu
  · have hi' : i = ts.length := by
      have := (List.getElem?_eq_some_iff.1 ht).1
      simp at this; omega
    subst hi'
    rw [List.getElem?_append_right (Nat.le_refl _)] at ht
    rw [← h.len, List.getElem?_append_right (Nat.le_refl _)] at hu
    simp at ht hu
    subst ht; subst hu
    exact hL.okMono (fun b _ hb => ⟨by have : S ≤ b := hb; omega, fun e => by have h2 := hvS b e.symm; have : S ≤ b := hb; omega⟩)

theorem flatT_get : ∀ (vs : List Value), (∀ u ∈ vs, (tyCells u).length = 2) → ∀ (i j : Nat) (u : Value), vs[i]? = some u → j < 2 → (flatT vs)[i * 2 + j]? = (tyCells u)[j]?
  | [], _, i, j, u, h, _ => by simp at h
  | x :: vs, hx, 0, j, u, h, hj => by
    simp at h; subst h
    have := hx x (by simp)
    simp only [flatT, List.flatMap_cons]
    rw [List.getElem?_append_left (by omega)]; simp
  | x :: vs, hx, i + 1, j, u, h, hj => by
    have h2x := hx x (by simp)
    have := flatT_get vs (fun u hu => hx u (by simp [hu])) i j u (by simpa using h) hj
    simp only [flatT, List.flatMap_cons] at this ⊢
    rw [List.getElem?_append_right (by omega), h2x, show (i + 1) * 2 + j - 2 = i * 2 + j from by omega]
    exact this

theorem LiesT.tyV {ok : Nat → Prop} {w : World} {t : Ty} {u : Value} (h : LiesT ok w t u) : ∃ k a l c, u = tyV k a l c := by cases h; exact ⟨_, _, _, _, rfl⟩

theorem ListOkT.done {H : Nat} {w : World} {v : Value} {ts : List Ty} {vs : List Value} (h : ListOkT H w v ts vs) :
    ∃ (a : Option Addr) (c : Nat) (V : Nat → Value), v = .slice a ts.length c ∧ (∀ i, i < ts.length → TyAt (H ≤ ·) w a i (V i)) ∧ (∀ i (hi : i < ts.length), LiesT (H ≤ ·) w ts[i] (V i)) := by
  have hl := h.len
  have each : ∀ i (hi : i < ts.length), ∃ u, vs[i]? = some u ∧ LiesT (H ≤ ·) w ts[i] u := by
    intro i hi
    have hv : i < vs.length := by omega
    exact ⟨vs[i], List.getElem?_eq_getElem hv, (h.lies i ts[i] vs[i] (List.getElem?_eq_getElem hi) (List.getElem?_eq_getElem hv)).okMono (fun b _ hb => hb.1)⟩
  have h2x : ∀ u ∈ vs, (tyCells u).length = 2 := by
    intro u hu
    obtain ⟨i, hi, rfl⟩ := List.getElem_of_mem hu
    obtain ⟨u, e, hL⟩ := each i (by omega)
    rw [List.getElem?_eq_getElem hi] at e
    simp at e
    obtain ⟨k, a, l, c, e2⟩ := hL.tyV
    rw [e, e2]; rfl
  have ho := h.own
  unfold OwnsT at ho
  rcases ho.2 with ⟨rfl, h0⟩ | ⟨g, cap, cur, rfl, hbg, hg, hnc, hcm, hcs, htake⟩
  · have h00 : ts.length = 0 := by omega
    exact ⟨none, 0, fun _ => .int .i64 0, by rw [h00], fun i hi => by omega, fun i hi => by omega⟩
  · refine ⟨some ⟨g, 0, none⟩, cap, fun i => (vs[i]?).getD (.int .i64 0), by rw [hl], fun i hi => ?_, fun i hi => ?_⟩
    · obtain ⟨u, e, hL⟩ := each i hi
      obtain ⟨k, a, l, c, e2⟩ := hL.tyV
      have hcell : ∀ j x, j < 2 → (tyCells u)[j]? = some x → w.cell? ⟨g, i * 2 + j, none⟩ = some x := by
        intro j x hj hx
        have := World.ownsRow.cells ho (g := g) rfl (i * 2 + j) x (by rw [flatT_get vs h2x i j u e hj]; exact hx)
        have hadd : (⟨g, 0, none⟩ : Addr).add (i * 2 + j) = ⟨g, i * 2 + j, none⟩ := by unfold Addr.add; split <;> simp_all
        rwa [hadd] at this
      rw [e2] at hcell
      refine ⟨g, 0, rfl, hbg, k, a, l, c, by show (vs[i]?).getD _ = _; rw [e]; exact e2, ?_, ?_⟩
      · have := hcell 0 _ (by omega) rfl; simpa using this
      · have := hcell 1 _ (by omega) rfl; simpa using this
    · obtain ⟨u, e, hL⟩ := each i hi
      show LiesT _ _ _ ((vs[i]?).getD _)
      rw [e]; exact hL

end Go.Proofs.Ytdninmanfncfiad
