/- Trees written of values: prim, choice, elts, written by their contracts. -/
import Derived.Test.YtmmgihaoahhkjaaTellA
import Derived.Test.YtmmgihaoahhkjaaBasis
import Derived.Test.YtmmgihaoahhkjaaHasAA
namespace Go.Proofs.Ytmmgihaoahhkjaa
set_option maxRecDepth 20000
open Go.ChangeShapes Go.WideShapes Go.ChangeAt Go.RowKit
set_option linter.unusedVariables false

/-- one node put behind a row of the call's own -/
theorem appR {ops : Array Oper} {rest : List Oper} {o : Oper} {a : Act} {Q : Exit → Act → World → Prop} (B : Nat) (vs : List Value) (k n p : Int) (st : ByteArray) (sa : Option Addr) (sl sc : Nat) (w0 : World) (v : Value) (hgd : o.guard = none) (s x : Operand)
    (ho : o.op = .call { callee := .builtin .append, args := #[s, x], argTypes := #[103, 103] }) (hs : a.eval s = v) {H : Nat} (hx : a.eval x = .slice (some ⟨H, 0, none⟩) 1 1) (hH : w0.heap.size = H)
    (hown : OwnsL B w0 v vs) (hB : B ≤ w0.heap.size) (hlen : vs.length ≤ 1000000000000)
    (h : ∀ g cap w', OwnsL B w' (.slice (some ⟨g, 0, none⟩) (vs.length + 1) cap) (vs ++ [nodeV k n p st sa sl sc]) → Gr w0 v w' (.slice (some ⟨g, 0, none⟩) (vs.length + 1) cap) → wpList Try.prog ops Q rest (a.put o.dst (.slice (some ⟨g, 0, none⟩) (vs.length + 1) cap)) w') :
    wpList Try.prog ops Q (o :: rest) a (w0.alloc (.cells #[.int .i64 k, .int .i64 n, .int .i64 p, .string st, .slice sa sl sc] 39)) := by
  obtain ⟨i0, hi, hz0, hz1, hz2⟩ := info_parts info24
  subst hH
  refine wpList_append_lies _ hgd s x 103 ho B 39 i0 _ 5 64 Try.underlying103 hi hz0 hz1 hz2 rfl (by decide) v vs.length (flat vs) hs (World.ownsRow.alloc hown _) ⟨w0.heap.size, 0, none⟩ 1 1 [.int .i64 k, .int .i64 n, .int .i64 p, .string st, .slice sa sl sc] hx rfl ?_ ?_ (by decide) ?_ ?_ ?_ _ rfl ?_
  · exact World.news_of_block (w := w0.alloc _) (B := w0.heap.size) (cs := #[.int .i64 k, .int .i64 n, .int .i64 p, .string st, .slice sa sl sc]) (heap_alloc_new _ _)
  · intro u hu; simp at hu; rcases hu with rfl | rfl | rfl | rfl | rfl <;> rfl
  · unfold maxLen; omega
  · omega
  · simp; omega
  · intro g cap w' h1 h2 h3 _
    refine h g cap w' ?_ ?_
    · unfold OwnsL; rw [flat_append, List.length_append]; exact h1
    · refine Gr.trans (Gr.alloc (Gr.refl w0 v) _) ⟨h2, ?_⟩
      rcases h3 with h3 | h3
      · exact .inl h3.symm
      · exact .inr ⟨g, rfl, by omega⟩

/-- .. at a step of a region that draws its order -/
theorem step_appR {ops : Array Oper} {o : Oper} {a : Act} {K : Act → World → Prop} {Q : Exit → Act → World → Prop} {E : Prop} (B : Nat) (vs : List Value) (k n p : Int) (st : ByteArray) (sa : Option Addr) (sl sc : Nat) (w0 : World) (v : Value) (hgd : o.guard = none) (s x : Operand)
    (ho : o.op = .call { callee := .builtin .append, args := #[s, x], argTypes := #[103, 103] }) (hs : a.eval s = v) {H : Nat} (hx : a.eval x = .slice (some ⟨H, 0, none⟩) 1 1) (hH : w0.heap.size = H)
    (hown : OwnsL B w0 v vs) (hB : B ≤ w0.heap.size) (hlen : vs.length ≤ 1000000000000)
    (h : ∀ g cap w', OwnsL B w' (.slice (some ⟨g, 0, none⟩) (vs.length + 1) cap) (vs ++ [nodeV k n p st sa sl sc]) → Gr w0 v w' (.slice (some ⟨g, 0, none⟩) (vs.length + 1) cap) → K (a.put o.dst (.slice (some ⟨g, 0, none⟩) (vs.length + 1) cap)) w') :
    if Region.wanted o (yielded ops a.tmps) = true then Oper.wp Try.prog o a (w0.alloc (.cells #[.int .i64 k, .int .i64 n, .int .i64 p, .string st, .slice sa sl sc] 39)) K Q else E := by
  have hw : Region.wanted o (yielded ops a.tmps) = true := by simp [Region.wanted, hgd]
  rw [if_pos hw]
  obtain ⟨i0, hi, hz0, hz1, hz2⟩ := info_parts info24
  subst hH
  refine wp_append_lies _ s x 103 ho B 39 i0 _ 5 64 Try.underlying103 hi hz0 hz1 hz2 rfl (by decide) v vs.length (flat vs) hs (World.ownsRow.alloc hown _) ⟨w0.heap.size, 0, none⟩ 1 1 [.int .i64 k, .int .i64 n, .int .i64 p, .string st, .slice sa sl sc] hx rfl ?_ ?_ (by decide) ?_ ?_ ?_ _ rfl ?_
  · exact World.news_of_block (w := w0.alloc _) (B := w0.heap.size) (cs := #[.int .i64 k, .int .i64 n, .int .i64 p, .string st, .slice sa sl sc]) (heap_alloc_new _ _)
  · intro u hu; simp at hu; rcases hu with rfl | rfl | rfl | rfl | rfl <;> rfl
  · unfold maxLen; omega
  · omega
  · simp; omega
  · intro g cap w' h1 h2 h3 _
    refine h g cap w' ?_ ?_
    · unfold OwnsL; rw [flat_append, List.length_append]; exact h1
    · refine Gr.trans (Gr.alloc (Gr.refl w0 v) _) ⟨h2, ?_⟩
      rcases h3 with h3 | h3
      · exact .inl h3.symm
      · exact .inr ⟨g, rfl, by omega⟩


theorem prim_any (p : Int) (a : Option Addr) (l c : Nat) (W : World) : Calls Try.prog 103 #[.int .i64 p, .slice a l c] W fun e w' => e = .returned (nodeV 2 0 p ⟨#[]⟩ a l c) ∧ W.grownBy w' none := by
  go_enter Try.func103, Try.ntmps103
  go_wp2_with fail
  have hb' := heap_alloc_new W (.cells #[.int .i64 2, .int .i64 0, .int .i64 p, .string ⟨#[]⟩, .slice a l c] 39)
  have hg' := Lf.gb (w := W) (.cells #[.int .i64 2, .int .i64 0, .int .i64 p, .string ⟨#[]⟩, .slice a l c] 39)
  generalize W.alloc (.cells #[.int .i64 2, .int .i64 0, .int .i64 p, .string ⟨#[]⟩, .slice a l c] 39) = wf at *
  obtain ⟨z0, z1, z2, z3, z4⟩ := box5 hb'
  exact bodyPost_ret (v := nodeV 2 0 p ⟨#[]⟩ a l c) (by simp [results, Try.results103, go_sem, z0, z1, z2, z3, z4, nodeV]) rfl ⟨rfl, hg'⟩

theorem choice_any (n a b : Int) (W : World) : Calls Try.prog 104 #[.int .i64 n, .int .i64 a, .int .i64 b] W fun e w' => e = .returned (.int .i64 (if n = 0 then a else b)) ∧ w' = W := by
  by_cases h : n = 0
  · subst h
    go_enter Try.func104, Try.ntmps104
    go_wp2_with fail
    go_ret
    exact ⟨rfl, rfl⟩
  · rw [if_neg h]
    have hb : (n == 0) = false := by simpa using h
    go_enter Try.func104, Try.ntmps104
    go_wp2_with fail
    go_ret
    exact ⟨rfl, rfl⟩

def eltV : Value → Value
  | .agg #[k, n, _, s, a] => .agg #[k, n, .int .i64 28, s, a]
  | v => v

theorem lies_elt {ok : Nat → Prop} {w : World} {t : Tr} {u : Value} (h : Lies ok w t u) : Lies ok w (eltT t) (eltV u) := by
  cases h with
  | mk V hl hs ik iN ip hc hr => exact .mk V hl hs ik iN ⟨by omega, by omega⟩ hc hr

theorem lies_row {ok : Nat → Prop} {w : World} {k n p : Int} {s : ByteArray} {l : List Tr} {a : Option Addr} {c : Nat} {V : Nat → Value} (hR : RowN ok w l a V) (hs : s.size ≤ maxLen) (ik : I64 k) (iN : I64 n) (ip : I64 p) :
    Lies ok w (.nd k n p s l) (nodeV k n p s a l.length c) := .mk V hR.1 hs ik iN ip hR.2.1 hR.2.2

/-- the nodes of a slice of the call's own -/
theorem own_nodes {H : Nat} {w : World} {v : Value} {vs : List Value} (ho : OwnsL H w v vs) (hn : ∀ u ∈ vs, ∃ k n p s a l c, u = nodeV k n p s a l c) :
    ∃ (a : Option Addr) (c : Nat), v = .slice a vs.length c ∧ ∀ i u, vs[i]? = some u → NodeAt (H ≤ ·) w a i u := by
  have h5 : ∀ u ∈ vs, (nodeCells u).length = 5 := by
    intro u hu
    obtain ⟨k, n, p, s, a, l, c, e2⟩ := hn u hu
    rw [e2]; rfl
  unfold OwnsL at ho
  rcases ho.2 with ⟨rfl, h0⟩ | ⟨g, cap, cur, rfl, hbg, hg, hnc, hcm, hcs, htake⟩
  · exact ⟨none, 0, by rw [h0], fun i u h => by rw [List.eq_nil_of_length_eq_zero h0] at h; simp at h⟩
  · refine ⟨some ⟨g, 0, none⟩, cap, rfl, fun i u e => ?_⟩
    obtain ⟨k, n, p, s, a, l, c, e2⟩ := hn u (List.mem_of_getElem? e)
    have hcell : ∀ j x, j < 5 → (nodeCells u)[j]? = some x → w.cell? ⟨g, i * 5 + j, none⟩ = some x := by
      intro j x hj hx
      have := World.ownsRow.cells ho (g := g) rfl (i * 5 + j) x (by rw [flat_get vs h5 i j u e hj]; exact hx)
      have hadd : (⟨g, 0, none⟩ : Addr).add (i * 5 + j) = ⟨g, i * 5 + j, none⟩ := by unfold Addr.add; split <;> simp_all
      rwa [hadd] at this
    rw [e2] at hcell
    refine ⟨g, 0, rfl, hbg, k, n, p, s, a, l, c, e2, ?_, ?_, ?_, ?_, ?_⟩
    · have := hcell 0 _ (by omega) rfl; simpa using this
    · have := hcell 1 _ (by omega) rfl; simpa using this
    · have := hcell 2 _ (by omega) rfl; simpa using this
    · have := hcell 3 _ (by omega) rfl; simpa using this
    · have := hcell 4 _ (by omega) rfl; simpa using this

set_option maxRecDepth 100000 in
set_option maxHeartbeats 1000000 in
theorem elts_any {ok : Nat → Prop} {W : World} {l : List Tr} {la : Option Addr} {lc : Nat} {V : Nat → Value} (hR : RowN ok W l la V) (hok : ∀ b, W.heap.size ≤ b → ok b) (hl9 : l.length ≤ 100000000) :
    Calls Try.prog 105 #[.slice la l.length lc] W fun e w' => W.grownBy w' none ∧ ∃ a c V', e = .returned (.slice a l.length c) ∧ RowN ok w' (l.map eltT) a V' ∧ (∀ i, i < l.length → NodeAt (W.heap.size ≤ ·) w' a i (V' i)) := by
  have hlm := hR.1
  unfold maxLen at hlm
  have HR := Lf.hide hR
  have HOK := Lf.hide hok
  clear hR hok
  go_enter Try.func105, Try.ntmps105
  go_wp2_with fail
  go_loopw [3, 8] (fun rv iv wr => ∃ (j : Nat), j ≤ l.length ∧ iv = .int .i64 j ∧ OwnsL W.heap.size wr rv ((List.range j).map fun i => eltV (V i)) ∧ W.grownBy wr none) (fun _ iv _ => l.length - (intOf iv).toNat)
  case atStart => exact ⟨0, Nat.zero_le _, rfl, World.ownsRow_nil _ _ _ _, grow_refl _ _⟩
  case round =>
    obtain ⟨j, hj, rfl, ho, hg⟩ := hrel
    have hvl : ((List.range j).map fun i => eltV (V i)).length = j := by simp
    by_cases hlt : j < l.length
    · have hN := (HR.out.2.1 j hlt).same (w' := wr) (fun b o _ hb => World.cell?_of_block (hg.block b hb (by simp)))
      obtain ⟨b, o, rfl, hb, k, n, p, s, a', l', c', hv, h0, h1, h2, h3, h4⟩ := hN
      have hbl : b < wr.heap.size := World.block_lt_of_cell? wr _ h0
      have HO := Lf.hide (World.ownsRow.alloc ho (.cells #[.int .i64 k, .int .i64 n, .int .i64 28, .string s, .slice a' l' c'] 39))
      have HG := Lf.hide (Lf.gbt hg (Lf.gb (.cells #[.int .i64 k, .int .i64 n, .int .i64 28, .string s, .slice a' l' c'] 39)))
      have HZ : Hid (W.heap.size ≤ (wr.alloc (.cells #[.int .i64 k, .int .i64 n, .int .i64 28, .string s, .slice a' l' c'] 39)).heap.size) := HG.out.size
      have HV : Hid ((List.range (j + 1)).map (fun i => eltV (V i)) = (List.range j).map (fun i => eltV (V i)) ++ [nodeV k n 28 s a' l' c']) := by
        show _ = _
        rw [List.range_succ, List.map_append, List.map_singleton, hv]; rfl
      obtain ⟨rl, rc, hrv⟩ : ∃ ra rc, u3 = .slice ra j rc := by
        rcases ho.2 with ⟨hq, h0⟩ | ⟨g, cap, cur, hq, _⟩
        · exact ⟨none, 0, by rw [hq]; rw [hvl] at h0; rw [h0]⟩
        · exact ⟨_, _, by rw [hq, hvl]⟩
      subst hrv
      clear ho hg hv hb
      go_wp2_with (at_builtin; refine appR W.heap.size ((List.range j).map fun i => eltV (V i)) k n 28 s a' l' c' (wr.alloc (.cells #[.int .i64 k, .int .i64 n, .int .i64 28, .string s, .slice a' l' c'] 39)) (.slice rl j rc) rfl (.tmp 13) (.tmp 15) rfl rfl rfl (by simp) HO.out HZ.out (by rw [hvl]; omega) ?_; intro g cap w5 ho5 hg5; have HO5 := Lf.hide ho5; have HG5 := Lf.hide hg5; clear ho5 hg5)
      refine ⟨⟨j + 1, by omega, by go_num, by rw [HV.out]; have h := HO5.out; rw [hvl] at h; exact h, grow_own HG.out HO.out (Nat.le_refl _) HG5.out.1⟩, by simp [intOf]; omega⟩
    · have hje : j = l.length := by omega
      subst hje
      have HO := Lf.hide ho
      have HG := Lf.hide hg
      clear ho hg
      go_wp2_with fail
      go_ret
      have hN : ∀ i u, ((List.range l.length).map fun i => eltV (V i))[i]? = some u → i < l.length ∧ u = eltV (V i) := by
        intro i u h
        have hi : i < l.length := by have := (List.getElem?_eq_some_iff.1 h).1; simpa using this
        refine ⟨hi, ?_⟩
        simp [hi] at h; exact h.symm
      obtain ⟨a, c, hv, hn⟩ := own_nodes HO.out (fun u hu => by
        obtain ⟨i, hi⟩ := List.getElem?_of_mem hu
        obtain ⟨h1, rfl⟩ := hN i u hi
        exact (lies_elt (HR.out.2.2 i h1)).nodeV)
      rw [hvl] at hv
      refine ⟨HG.out, a, c, fun i => eltV (V i), by rw [hv]; rfl, ⟨by rw [List.length_map]; unfold maxLen; omega, fun i hi => ?_, fun i hi => ?_⟩, fun i hi => hn i _ (by simp [hi])⟩
      · rw [List.length_map] at hi
        exact (hn i _ (by simp [hi])).okMono (fun b _ hb => HOK.out b hb)
      · rw [List.length_map] at hi
        rw [List.getElem_map]
        exact lies_elt ((HR.out.2.2 i hi).same (fun b o _ hb => World.cell?_of_block (HG.out.block b hb (by simp))))

/-- what written leaves -/
def WrPost (ok : Nat → Prop) (W : World) (t : Tr) (e : Ending) (w' : World) : Prop := W.grownBy w' none ∧ ∃ u, e = .returned u ∧ Lies ok w' t u

set_option maxRecDepth 100000 in
set_option maxHeartbeats 1000000 in
theorem wr_unit {ok : Nat → Prop} {W : World} (n a : Int) (s : ByteArray) (xs : List Va) (ty : List Ty) (co : List Tr) (aa : Option Addr) (al ac : Nat) (ta : Option Addr) (tl tc : Nat) (na : Option Addr) (nl nc : Nat) {l : List Tr} {la : Option Addr} {lc : Nat} {V : Nat → Value} (hR : RowN ok W l la V) (hok : ∀ b, W.heap.size ≤ b → ok b) (hl9 : l.length ≤ 100000000) (iN : I64 n) (hs : s.size ≤ maxLen) :
    Calls Try.prog 83 #[vaV 1 n a s aa al ac ta tl tc na nl nc, .slice la l.length lc] W (WrPost ok W (writtenF (.mk 1 n a s xs ty co) l)) := by
  have hw : writtenF (.mk 1 n a s xs ty co) l = primT 20 [] := by rfl
  rw [hw]
  have hR' : RowN (fun b => ok b ∧ b < W.heap.size) W l la V := ⟨hR.1, fun i hi => by
    obtain ⟨b, o, e1, e2, e3⟩ := hR.2.1 i hi
    obtain ⟨k', n', p', s', a', l', c', e4, e5, e6⟩ := e3
    exact ⟨b, o, e1, ⟨e2, World.block_lt_of_cell? W _ e5⟩, k', n', p', s', a', l', c', e4, e5, e6⟩, fun i hi => (hR.2.2 i hi).okMono (fun b hb h => ⟨h, hb⟩)⟩
  have HR := Lf.hide hR'
  have HOK := Lf.hide hok
  have HP := Lf.hide prim_any
  have HG0 := Lf.hide (Lf.gbt (Lf.gb (w := W) (.cells #[.int .i64 1, .int .i64 n, .int .i64 a, .string s, .slice aa al ac, .slice ta tl tc, .slice na nl nc] 28)) (Lf.gb (.cells #[.int .i64 0, .int .i64 0, .int .i64 0, .string ⟨#[]⟩, .slice none 0 0] 39)))
  have HB0 := Lf.hide (res_new W (.cells #[.int .i64 1, .int .i64 n, .int .i64 a, .string s, .slice aa al ac, .slice ta tl tc, .slice na nl nc] 28) (.cells #[.int .i64 0, .int .i64 0, .int .i64 0, .string ⟨#[]⟩, .slice none 0 0] 39))
  have HZ0 := Lf.hide (new_twoI W (.cells #[.int .i64 1, .int .i64 n, .int .i64 a, .string s, .slice aa al ac, .slice ta tl tc, .slice na nl nc] 28) (.cells #[.int .i64 0, .int .i64 0, .int .i64 0, .string ⟨#[]⟩, .slice none 0 0] 39))
  clear hR hok hR' hw
  unfold vaV
  go_enter Try.func83, Try.ntmps83
  go_wp2_with fail
  refine (HP.out _ _ _ _ _).mono ?_; rintro e w1 ⟨rfl, hg1⟩
  have HG1 := Lf.hide (Lf.gbt HG0.out hg1)
  have HZ1 := Lf.hide ((hg1.block _ (lt_of_block HZ0.out) (by simp)).trans HZ0.out)
  clear hg1
  unfold nodeV
  obtain ⟨s0, s1, s2, s3, s4⟩ := box5 HZ1.out
  obtain ⟨p0, p1, p2, p3, p4⟩ := box5f HZ1.out
  go_wp2_with fail
  change bodyPost _ _ _ _ _ (set5 w1 (W.heap.size + 1) (.int .i64 2) (.int .i64 0) (.int .i64 20) (.string ⟨#[]⟩) (.slice none 0 0))
  have hb' := set5_block HZ1.out (.int .i64 2) (.int .i64 0) (.int .i64 20) (.string ⟨#[]⟩) (.slice none 0 0)
  have hgs := set5_grow w1 (W.heap.size + 1) (.int .i64 2) (.int .i64 0) (.int .i64 20) (.string ⟨#[]⟩) (.slice none 0 0)
  have hg' := grow_new HG1.out hgs (by omega)
  generalize set5 w1 (W.heap.size + 1) (.int .i64 2) (.int .i64 0) (.int .i64 20) (.string ⟨#[]⟩) (.slice none 0 0) = wf at *
  obtain ⟨z0, z1, z2, z3, z4⟩ := box5 hb'
  refine bodyPost_ret (v := nodeV 2 0 20 ⟨#[]⟩ none 0 0) (by simp [results, Try.results83, go_sem, z0, z1, z2, z3, z4, nodeV]) rfl ⟨hg', _, rfl, ?_⟩
  exact lies_row (V := fun _ => .int .i64 0) (RowN.nil _ _ _ _) (Nat.zero_le _) ⟨by omega, by omega⟩ ⟨by omega, by omega⟩ ⟨by omega, by omega⟩


set_option maxRecDepth 100000 in
set_option maxHeartbeats 1000000 in
theorem wr_bool {ok : Nat → Prop} {W : World} (n a : Int) (s : ByteArray) (xs : List Va) (ty : List Ty) (co : List Tr) (aa : Option Addr) (al ac : Nat) (ta : Option Addr) (tl tc : Nat) (na : Option Addr) (nl nc : Nat) {l : List Tr} {la : Option Addr} {lc : Nat} {V : Nat → Value} (hR : RowN ok W l la V) (hok : ∀ b, W.heap.size ≤ b → ok b) (hl9 : l.length ≤ 100000000) (iN : I64 n) (hs : s.size ≤ maxLen) :
    Calls Try.prog 83 #[vaV 2 n a s aa al ac ta tl tc na nl nc, .slice la l.length lc] W (WrPost ok W (writtenF (.mk 2 n a s xs ty co) l)) := by
  have hw : writtenF (.mk 2 n a s xs ty co) l = primT (if n = 0 then 22 else 21) [] := by rfl
  rw [hw]
  have hR' : RowN (fun b => ok b ∧ b < W.heap.size) W l la V := ⟨hR.1, fun i hi => by
    obtain ⟨b, o, e1, e2, e3⟩ := hR.2.1 i hi
    obtain ⟨k', n', p', s', a', l', c', e4, e5, e6⟩ := e3
    exact ⟨b, o, e1, ⟨e2, World.block_lt_of_cell? W _ e5⟩, k', n', p', s', a', l', c', e4, e5, e6⟩, fun i hi => (hR.2.2 i hi).okMono (fun b hb h => ⟨h, hb⟩)⟩
  have HR := Lf.hide hR'
  have HOK := Lf.hide hok
  have HP := Lf.hide prim_any
  have HC : Hid (∀ W2, Calls Try.prog 104 #[.int .i64 n, .int .i64 22, .int .i64 21] W2 fun e w' => e = .returned (.int .i64 (if n = 0 then 22 else 21 : Int)) ∧ w' = W2) := fun W2 => choice_any _ _ _ _
  have HQ : Hid (I64 (if n = 0 then 22 else 21 : Int)) := by show I64 _; split <;> exact ⟨by omega, by omega⟩
  generalize (if n = 0 then 22 else 21 : Int) = q at *
  have HG0 := Lf.hide (Lf.gbt (Lf.gb (w := W) (.cells #[.int .i64 2, .int .i64 n, .int .i64 a, .string s, .slice aa al ac, .slice ta tl tc, .slice na nl nc] 28)) (Lf.gb (.cells #[.int .i64 0, .int .i64 0, .int .i64 0, .string ⟨#[]⟩, .slice none 0 0] 39)))
  have HB0 := Lf.hide (res_new W (.cells #[.int .i64 2, .int .i64 n, .int .i64 a, .string s, .slice aa al ac, .slice ta tl tc, .slice na nl nc] 28) (.cells #[.int .i64 0, .int .i64 0, .int .i64 0, .string ⟨#[]⟩, .slice none 0 0] 39))
  have HZ0 := Lf.hide (new_twoI W (.cells #[.int .i64 2, .int .i64 n, .int .i64 a, .string s, .slice aa al ac, .slice ta tl tc, .slice na nl nc] 28) (.cells #[.int .i64 0, .int .i64 0, .int .i64 0, .string ⟨#[]⟩, .slice none 0 0] 39))
  clear hR hok hR' hw
  unfold vaV
  go_enter Try.func83, Try.ntmps83
  go_wp2_with fail
  refine (HC.out _).mono ?_; rintro e wq ⟨rfl, rfl⟩
  go_wp2_with fail
  refine (HP.out _ _ _ _ _).mono ?_; rintro e w1 ⟨rfl, hg1⟩
  have HG1 := Lf.hide (Lf.gbt HG0.out hg1)
  have HZ1 := Lf.hide ((hg1.block _ (lt_of_block HZ0.out) (by simp)).trans HZ0.out)
  clear hg1
  unfold nodeV
  obtain ⟨s0, s1, s2, s3, s4⟩ := box5 HZ1.out
  obtain ⟨p0, p1, p2, p3, p4⟩ := box5f HZ1.out
  go_wp2_with fail
  change bodyPost _ _ _ _ _ (set5 w1 (W.heap.size + 1) (.int .i64 2) (.int .i64 0) (.int .i64 q) (.string ⟨#[]⟩) (.slice none 0 0))
  have hb' := set5_block HZ1.out (.int .i64 2) (.int .i64 0) (.int .i64 q) (.string ⟨#[]⟩) (.slice none 0 0)
  have hgs := set5_grow w1 (W.heap.size + 1) (.int .i64 2) (.int .i64 0) (.int .i64 q) (.string ⟨#[]⟩) (.slice none 0 0)
  have hg' := grow_new HG1.out hgs (by omega)
  generalize set5 w1 (W.heap.size + 1) (.int .i64 2) (.int .i64 0) (.int .i64 q) (.string ⟨#[]⟩) (.slice none 0 0) = wf at *
  obtain ⟨z0, z1, z2, z3, z4⟩ := box5 hb'
  refine bodyPost_ret (v := nodeV 2 0 q ⟨#[]⟩ none 0 0) (by simp [results, Try.results83, go_sem, z0, z1, z2, z3, z4, nodeV]) rfl ⟨hg', _, rfl, ?_⟩
  exact lies_row (V := fun _ => .int .i64 0) (RowN.nil _ _ _ _) (Nat.zero_le _) ⟨by omega, by omega⟩ ⟨by omega, by omega⟩ HQ.out


set_option maxRecDepth 100000 in
set_option maxHeartbeats 1000000 in
theorem wr_int3 {ok : Nat → Prop} {W : World} (n a : Int) (s : ByteArray) (xs : List Va) (ty : List Ty) (co : List Tr) (aa : Option Addr) (al ac : Nat) (ta : Option Addr) (tl tc : Nat) (na : Option Addr) (nl nc : Nat) {l : List Tr} {la : Option Addr} {lc : Nat} {V : Nat → Value} (hR : RowN ok W l la V) (hok : ∀ b, W.heap.size ≤ b → ok b) (hl9 : l.length ≤ 100000000) (iN : I64 n) (hs : s.size ≤ maxLen) :
    Calls Try.prog 83 #[vaV 3 n a s aa al ac ta tl tc na nl nc, .slice la l.length lc] W (WrPost ok W (writtenF (.mk 3 n a s xs ty co) l)) := by
  have hw : writtenF (.mk 3 n a s xs ty co) l = .nd 0 n 0 ⟨#[]⟩ [] := by rfl
  rw [hw]
  have hR' : RowN (fun b => ok b ∧ b < W.heap.size) W l la V := ⟨hR.1, fun i hi => by
    obtain ⟨b, o, e1, e2, e3⟩ := hR.2.1 i hi
    obtain ⟨k', n', p', s', a', l', c', e4, e5, e6⟩ := e3
    exact ⟨b, o, e1, ⟨e2, World.block_lt_of_cell? W _ e5⟩, k', n', p', s', a', l', c', e4, e5, e6⟩, fun i hi => (hR.2.2 i hi).okMono (fun b hb h => ⟨h, hb⟩)⟩
  have HR := Lf.hide hR'
  have HOK := Lf.hide hok
  have HG0 := Lf.hide (Lf.gbt (Lf.gb (w := W) (.cells #[.int .i64 3, .int .i64 n, .int .i64 a, .string s, .slice aa al ac, .slice ta tl tc, .slice na nl nc] 28)) (Lf.gb (.cells #[.int .i64 0, .int .i64 0, .int .i64 0, .string ⟨#[]⟩, .slice none 0 0] 39)))
  have HB0 := Lf.hide (res_new W (.cells #[.int .i64 3, .int .i64 n, .int .i64 a, .string s, .slice aa al ac, .slice ta tl tc, .slice na nl nc] 28) (.cells #[.int .i64 0, .int .i64 0, .int .i64 0, .string ⟨#[]⟩, .slice none 0 0] 39))
  have HZ0 := Lf.hide (new_twoI W (.cells #[.int .i64 3, .int .i64 n, .int .i64 a, .string s, .slice aa al ac, .slice ta tl tc, .slice na nl nc] 28) (.cells #[.int .i64 0, .int .i64 0, .int .i64 0, .string ⟨#[]⟩, .slice none 0 0] 39))
  clear hR hok hR' hw
  unfold vaV
  go_enter Try.func83, Try.ntmps83
  go_wp2_with fail
  have hb' := new_twoI W (.cells #[.int .i64 3, .int .i64 n, .int .i64 a, .string s, .slice aa al ac, .slice ta tl tc, .slice na nl nc] 28) (.cells #[.int .i64 0, .int .i64 n, .int .i64 0, .string ⟨#[]⟩, .slice none 0 0] 39)
  have hg' := Lf.gbt (Lf.gb (w := W) (.cells #[.int .i64 3, .int .i64 n, .int .i64 a, .string s, .slice aa al ac, .slice ta tl tc, .slice na nl nc] 28)) (Lf.gb (.cells #[.int .i64 0, .int .i64 n, .int .i64 0, .string ⟨#[]⟩, .slice none 0 0] 39))
  generalize (W.alloc (.cells #[.int .i64 3, .int .i64 n, .int .i64 a, .string s, .slice aa al ac, .slice ta tl tc, .slice na nl nc] 28)).alloc (.cells #[.int .i64 0, .int .i64 n, .int .i64 0, .string ⟨#[]⟩, .slice none 0 0] 39) = wf at *
  obtain ⟨z0, z1, z2, z3, z4⟩ := box5 hb'
  refine bodyPost_ret (v := nodeV 0 n 0 ⟨#[]⟩ none 0 0) (by simp [results, Try.results83, go_sem, z0, z1, z2, z3, z4, nodeV]) rfl ⟨hg', _, rfl, ?_⟩
  exact lies_row (V := fun _ => .int .i64 0) (RowN.nil _ _ _ _) (Nat.zero_le _) ⟨by omega, by omega⟩ iN ⟨by omega, by omega⟩


set_option maxRecDepth 100000 in
set_option maxHeartbeats 1000000 in
theorem wr_int4 {ok : Nat → Prop} {W : World} (n a : Int) (s : ByteArray) (xs : List Va) (ty : List Ty) (co : List Tr) (aa : Option Addr) (al ac : Nat) (ta : Option Addr) (tl tc : Nat) (na : Option Addr) (nl nc : Nat) {l : List Tr} {la : Option Addr} {lc : Nat} {V : Nat → Value} (hR : RowN ok W l la V) (hok : ∀ b, W.heap.size ≤ b → ok b) (hl9 : l.length ≤ 100000000) (iN : I64 n) (hs : s.size ≤ maxLen) :
    Calls Try.prog 83 #[vaV 4 n a s aa al ac ta tl tc na nl nc, .slice la l.length lc] W (WrPost ok W (writtenF (.mk 4 n a s xs ty co) l)) := by
  have hw : writtenF (.mk 4 n a s xs ty co) l = .nd 0 n 0 ⟨#[]⟩ [] := by rfl
  rw [hw]
  have hR' : RowN (fun b => ok b ∧ b < W.heap.size) W l la V := ⟨hR.1, fun i hi => by
    obtain ⟨b, o, e1, e2, e3⟩ := hR.2.1 i hi
    obtain ⟨k', n', p', s', a', l', c', e4, e5, e6⟩ := e3
    exact ⟨b, o, e1, ⟨e2, World.block_lt_of_cell? W _ e5⟩, k', n', p', s', a', l', c', e4, e5, e6⟩, fun i hi => (hR.2.2 i hi).okMono (fun b hb h => ⟨h, hb⟩)⟩
  have HR := Lf.hide hR'
  have HOK := Lf.hide hok
  have HG0 := Lf.hide (Lf.gbt (Lf.gb (w := W) (.cells #[.int .i64 4, .int .i64 n, .int .i64 a, .string s, .slice aa al ac, .slice ta tl tc, .slice na nl nc] 28)) (Lf.gb (.cells #[.int .i64 0, .int .i64 0, .int .i64 0, .string ⟨#[]⟩, .slice none 0 0] 39)))
  have HB0 := Lf.hide (res_new W (.cells #[.int .i64 4, .int .i64 n, .int .i64 a, .string s, .slice aa al ac, .slice ta tl tc, .slice na nl nc] 28) (.cells #[.int .i64 0, .int .i64 0, .int .i64 0, .string ⟨#[]⟩, .slice none 0 0] 39))
  have HZ0 := Lf.hide (new_twoI W (.cells #[.int .i64 4, .int .i64 n, .int .i64 a, .string s, .slice aa al ac, .slice ta tl tc, .slice na nl nc] 28) (.cells #[.int .i64 0, .int .i64 0, .int .i64 0, .string ⟨#[]⟩, .slice none 0 0] 39))
  clear hR hok hR' hw
  unfold vaV
  go_enter Try.func83, Try.ntmps83
  go_wp2_with fail
  have hb' := new_twoI W (.cells #[.int .i64 4, .int .i64 n, .int .i64 a, .string s, .slice aa al ac, .slice ta tl tc, .slice na nl nc] 28) (.cells #[.int .i64 0, .int .i64 n, .int .i64 0, .string ⟨#[]⟩, .slice none 0 0] 39)
  have hg' := Lf.gbt (Lf.gb (w := W) (.cells #[.int .i64 4, .int .i64 n, .int .i64 a, .string s, .slice aa al ac, .slice ta tl tc, .slice na nl nc] 28)) (Lf.gb (.cells #[.int .i64 0, .int .i64 n, .int .i64 0, .string ⟨#[]⟩, .slice none 0 0] 39))
  generalize (W.alloc (.cells #[.int .i64 4, .int .i64 n, .int .i64 a, .string s, .slice aa al ac, .slice ta tl tc, .slice na nl nc] 28)).alloc (.cells #[.int .i64 0, .int .i64 n, .int .i64 0, .string ⟨#[]⟩, .slice none 0 0] 39) = wf at *
  obtain ⟨z0, z1, z2, z3, z4⟩ := box5 hb'
  refine bodyPost_ret (v := nodeV 0 n 0 ⟨#[]⟩ none 0 0) (by simp [results, Try.results83, go_sem, z0, z1, z2, z3, z4, nodeV]) rfl ⟨hg', _, rfl, ?_⟩
  exact lies_row (V := fun _ => .int .i64 0) (RowN.nil _ _ _ _) (Nat.zero_le _) ⟨by omega, by omega⟩ iN ⟨by omega, by omega⟩


set_option maxRecDepth 100000 in
set_option maxHeartbeats 1000000 in
theorem wr_int5 {ok : Nat → Prop} {W : World} (n a : Int) (s : ByteArray) (xs : List Va) (ty : List Ty) (co : List Tr) (aa : Option Addr) (al ac : Nat) (ta : Option Addr) (tl tc : Nat) (na : Option Addr) (nl nc : Nat) {l : List Tr} {la : Option Addr} {lc : Nat} {V : Nat → Value} (hR : RowN ok W l la V) (hok : ∀ b, W.heap.size ≤ b → ok b) (hl9 : l.length ≤ 100000000) (iN : I64 n) (hs : s.size ≤ maxLen) :
    Calls Try.prog 83 #[vaV 5 n a s aa al ac ta tl tc na nl nc, .slice la l.length lc] W (WrPost ok W (writtenF (.mk 5 n a s xs ty co) l)) := by
  have hw : writtenF (.mk 5 n a s xs ty co) l = .nd 0 n 0 ⟨#[]⟩ [] := by rfl
  rw [hw]
  have hR' : RowN (fun b => ok b ∧ b < W.heap.size) W l la V := ⟨hR.1, fun i hi => by
    obtain ⟨b, o, e1, e2, e3⟩ := hR.2.1 i hi
    obtain ⟨k', n', p', s', a', l', c', e4, e5, e6⟩ := e3
    exact ⟨b, o, e1, ⟨e2, World.block_lt_of_cell? W _ e5⟩, k', n', p', s', a', l', c', e4, e5, e6⟩, fun i hi => (hR.2.2 i hi).okMono (fun b hb h => ⟨h, hb⟩)⟩
  have HR := Lf.hide hR'
  have HOK := Lf.hide hok
  have HG0 := Lf.hide (Lf.gbt (Lf.gb (w := W) (.cells #[.int .i64 5, .int .i64 n, .int .i64 a, .string s, .slice aa al ac, .slice ta tl tc, .slice na nl nc] 28)) (Lf.gb (.cells #[.int .i64 0, .int .i64 0, .int .i64 0, .string ⟨#[]⟩, .slice none 0 0] 39)))
  have HB0 := Lf.hide (res_new W (.cells #[.int .i64 5, .int .i64 n, .int .i64 a, .string s, .slice aa al ac, .slice ta tl tc, .slice na nl nc] 28) (.cells #[.int .i64 0, .int .i64 0, .int .i64 0, .string ⟨#[]⟩, .slice none 0 0] 39))
  have HZ0 := Lf.hide (new_twoI W (.cells #[.int .i64 5, .int .i64 n, .int .i64 a, .string s, .slice aa al ac, .slice ta tl tc, .slice na nl nc] 28) (.cells #[.int .i64 0, .int .i64 0, .int .i64 0, .string ⟨#[]⟩, .slice none 0 0] 39))
  clear hR hok hR' hw
  unfold vaV
  go_enter Try.func83, Try.ntmps83
  go_wp2_with fail
  have hb' := new_twoI W (.cells #[.int .i64 5, .int .i64 n, .int .i64 a, .string s, .slice aa al ac, .slice ta tl tc, .slice na nl nc] 28) (.cells #[.int .i64 0, .int .i64 n, .int .i64 0, .string ⟨#[]⟩, .slice none 0 0] 39)
  have hg' := Lf.gbt (Lf.gb (w := W) (.cells #[.int .i64 5, .int .i64 n, .int .i64 a, .string s, .slice aa al ac, .slice ta tl tc, .slice na nl nc] 28)) (Lf.gb (.cells #[.int .i64 0, .int .i64 n, .int .i64 0, .string ⟨#[]⟩, .slice none 0 0] 39))
  generalize (W.alloc (.cells #[.int .i64 5, .int .i64 n, .int .i64 a, .string s, .slice aa al ac, .slice ta tl tc, .slice na nl nc] 28)).alloc (.cells #[.int .i64 0, .int .i64 n, .int .i64 0, .string ⟨#[]⟩, .slice none 0 0] 39) = wf at *
  obtain ⟨z0, z1, z2, z3, z4⟩ := box5 hb'
  refine bodyPost_ret (v := nodeV 0 n 0 ⟨#[]⟩ none 0 0) (by simp [results, Try.results83, go_sem, z0, z1, z2, z3, z4, nodeV]) rfl ⟨hg', _, rfl, ?_⟩
  exact lies_row (V := fun _ => .int .i64 0) (RowN.nil _ _ _ _) (Nat.zero_le _) ⟨by omega, by omega⟩ iN ⟨by omega, by omega⟩


set_option maxRecDepth 100000 in
set_option maxHeartbeats 1000000 in
theorem wr_int7 {ok : Nat → Prop} {W : World} (n a : Int) (s : ByteArray) (xs : List Va) (ty : List Ty) (co : List Tr) (aa : Option Addr) (al ac : Nat) (ta : Option Addr) (tl tc : Nat) (na : Option Addr) (nl nc : Nat) {l : List Tr} {la : Option Addr} {lc : Nat} {V : Nat → Value} (hR : RowN ok W l la V) (hok : ∀ b, W.heap.size ≤ b → ok b) (hl9 : l.length ≤ 100000000) (iN : I64 n) (hs : s.size ≤ maxLen) :
    Calls Try.prog 83 #[vaV 7 n a s aa al ac ta tl tc na nl nc, .slice la l.length lc] W (WrPost ok W (writtenF (.mk 7 n a s xs ty co) l)) := by
  have hw : writtenF (.mk 7 n a s xs ty co) l = .nd 0 n 0 ⟨#[]⟩ [] := by rfl
  rw [hw]
  have hR' : RowN (fun b => ok b ∧ b < W.heap.size) W l la V := ⟨hR.1, fun i hi => by
    obtain ⟨b, o, e1, e2, e3⟩ := hR.2.1 i hi
    obtain ⟨k', n', p', s', a', l', c', e4, e5, e6⟩ := e3
    exact ⟨b, o, e1, ⟨e2, World.block_lt_of_cell? W _ e5⟩, k', n', p', s', a', l', c', e4, e5, e6⟩, fun i hi => (hR.2.2 i hi).okMono (fun b hb h => ⟨h, hb⟩)⟩
  have HR := Lf.hide hR'
  have HOK := Lf.hide hok
  have HG0 := Lf.hide (Lf.gbt (Lf.gb (w := W) (.cells #[.int .i64 7, .int .i64 n, .int .i64 a, .string s, .slice aa al ac, .slice ta tl tc, .slice na nl nc] 28)) (Lf.gb (.cells #[.int .i64 0, .int .i64 0, .int .i64 0, .string ⟨#[]⟩, .slice none 0 0] 39)))
  have HB0 := Lf.hide (res_new W (.cells #[.int .i64 7, .int .i64 n, .int .i64 a, .string s, .slice aa al ac, .slice ta tl tc, .slice na nl nc] 28) (.cells #[.int .i64 0, .int .i64 0, .int .i64 0, .string ⟨#[]⟩, .slice none 0 0] 39))
  have HZ0 := Lf.hide (new_twoI W (.cells #[.int .i64 7, .int .i64 n, .int .i64 a, .string s, .slice aa al ac, .slice ta tl tc, .slice na nl nc] 28) (.cells #[.int .i64 0, .int .i64 0, .int .i64 0, .string ⟨#[]⟩, .slice none 0 0] 39))
  clear hR hok hR' hw
  unfold vaV
  go_enter Try.func83, Try.ntmps83
  go_wp2_with fail
  have hb' := new_twoI W (.cells #[.int .i64 7, .int .i64 n, .int .i64 a, .string s, .slice aa al ac, .slice ta tl tc, .slice na nl nc] 28) (.cells #[.int .i64 0, .int .i64 n, .int .i64 0, .string ⟨#[]⟩, .slice none 0 0] 39)
  have hg' := Lf.gbt (Lf.gb (w := W) (.cells #[.int .i64 7, .int .i64 n, .int .i64 a, .string s, .slice aa al ac, .slice ta tl tc, .slice na nl nc] 28)) (Lf.gb (.cells #[.int .i64 0, .int .i64 n, .int .i64 0, .string ⟨#[]⟩, .slice none 0 0] 39))
  generalize (W.alloc (.cells #[.int .i64 7, .int .i64 n, .int .i64 a, .string s, .slice aa al ac, .slice ta tl tc, .slice na nl nc] 28)).alloc (.cells #[.int .i64 0, .int .i64 n, .int .i64 0, .string ⟨#[]⟩, .slice none 0 0] 39) = wf at *
  obtain ⟨z0, z1, z2, z3, z4⟩ := box5 hb'
  refine bodyPost_ret (v := nodeV 0 n 0 ⟨#[]⟩ none 0 0) (by simp [results, Try.results83, go_sem, z0, z1, z2, z3, z4, nodeV]) rfl ⟨hg', _, rfl, ?_⟩
  exact lies_row (V := fun _ => .int .i64 0) (RowN.nil _ _ _ _) (Nat.zero_le _) ⟨by omega, by omega⟩ iN ⟨by omega, by omega⟩


set_option maxRecDepth 100000 in
set_option maxHeartbeats 1000000 in
theorem wr_text {ok : Nat → Prop} {W : World} (n a : Int) (s : ByteArray) (xs : List Va) (ty : List Ty) (co : List Tr) (aa : Option Addr) (al ac : Nat) (ta : Option Addr) (tl tc : Nat) (na : Option Addr) (nl nc : Nat) {l : List Tr} {la : Option Addr} {lc : Nat} {V : Nat → Value} (hR : RowN ok W l la V) (hok : ∀ b, W.heap.size ≤ b → ok b) (hl9 : l.length ≤ 100000000) (iN : I64 n) (hs : s.size ≤ maxLen) :
    Calls Try.prog 83 #[vaV 6 n a s aa al ac ta tl tc na nl nc, .slice la l.length lc] W (WrPost ok W (writtenF (.mk 6 n a s xs ty co) l)) := by
  have hw : writtenF (.mk 6 n a s xs ty co) l = .nd 1 0 0 s [] := by rfl
  rw [hw]
  have hR' : RowN (fun b => ok b ∧ b < W.heap.size) W l la V := ⟨hR.1, fun i hi => by
    obtain ⟨b, o, e1, e2, e3⟩ := hR.2.1 i hi
    obtain ⟨k', n', p', s', a', l', c', e4, e5, e6⟩ := e3
    exact ⟨b, o, e1, ⟨e2, World.block_lt_of_cell? W _ e5⟩, k', n', p', s', a', l', c', e4, e5, e6⟩, fun i hi => (hR.2.2 i hi).okMono (fun b hb h => ⟨h, hb⟩)⟩
  have HR := Lf.hide hR'
  have HOK := Lf.hide hok
  have HG0 := Lf.hide (Lf.gbt (Lf.gb (w := W) (.cells #[.int .i64 6, .int .i64 n, .int .i64 a, .string s, .slice aa al ac, .slice ta tl tc, .slice na nl nc] 28)) (Lf.gb (.cells #[.int .i64 0, .int .i64 0, .int .i64 0, .string ⟨#[]⟩, .slice none 0 0] 39)))
  have HB0 := Lf.hide (res_new W (.cells #[.int .i64 6, .int .i64 n, .int .i64 a, .string s, .slice aa al ac, .slice ta tl tc, .slice na nl nc] 28) (.cells #[.int .i64 0, .int .i64 0, .int .i64 0, .string ⟨#[]⟩, .slice none 0 0] 39))
  have HZ0 := Lf.hide (new_twoI W (.cells #[.int .i64 6, .int .i64 n, .int .i64 a, .string s, .slice aa al ac, .slice ta tl tc, .slice na nl nc] 28) (.cells #[.int .i64 0, .int .i64 0, .int .i64 0, .string ⟨#[]⟩, .slice none 0 0] 39))
  clear hR hok hR' hw
  unfold vaV
  go_enter Try.func83, Try.ntmps83
  go_wp2_with fail
  have hb' := new_twoI W (.cells #[.int .i64 6, .int .i64 n, .int .i64 a, .string s, .slice aa al ac, .slice ta tl tc, .slice na nl nc] 28) (.cells #[.int .i64 1, .int .i64 0, .int .i64 0, .string s, .slice none 0 0] 39)
  have hg' := Lf.gbt (Lf.gb (w := W) (.cells #[.int .i64 6, .int .i64 n, .int .i64 a, .string s, .slice aa al ac, .slice ta tl tc, .slice na nl nc] 28)) (Lf.gb (.cells #[.int .i64 1, .int .i64 0, .int .i64 0, .string s, .slice none 0 0] 39))
  generalize (W.alloc (.cells #[.int .i64 6, .int .i64 n, .int .i64 a, .string s, .slice aa al ac, .slice ta tl tc, .slice na nl nc] 28)).alloc (.cells #[.int .i64 1, .int .i64 0, .int .i64 0, .string s, .slice none 0 0] 39) = wf at *
  obtain ⟨z0, z1, z2, z3, z4⟩ := box5 hb'
  refine bodyPost_ret (v := nodeV 1 0 0 s none 0 0) (by simp [results, Try.results83, go_sem, z0, z1, z2, z3, z4, nodeV]) rfl ⟨hg', _, rfl, ?_⟩
  exact lies_row (V := fun _ => .int .i64 0) (RowN.nil _ _ _ _) hs ⟨by omega, by omega⟩ ⟨by omega, by omega⟩ ⟨by omega, by omega⟩


set_option maxRecDepth 100000 in
set_option maxHeartbeats 1000000 in
theorem wr_opt {ok : Nat → Prop} {W : World} (n a : Int) (s : ByteArray) (xs : List Va) (ty : List Ty) (co : List Tr) (aa : Option Addr) (al ac : Nat) (ta : Option Addr) (tl tc : Nat) (na : Option Addr) (nl nc : Nat) {l : List Tr} {la : Option Addr} {lc : Nat} {V : Nat → Value} (hR : RowN ok W l la V) (hok : ∀ b, W.heap.size ≤ b → ok b) (hl9 : l.length ≤ 100000000) (iN : I64 n) (hs : s.size ≤ maxLen) :
    Calls Try.prog 83 #[vaV 9 n a s aa al ac ta tl tc na nl nc, .slice la l.length lc] W (WrPost ok W (writtenF (.mk 9 n a s xs ty co) l)) := by
  have hw : writtenF (.mk 9 n a s xs ty co) l = primT (if (l.length : Int) = 0 then 27 else 26) l := by show primT (if l.length = 0 then 27 else 26) l = _; by_cases h : l.length = 0 <;> simp [h]
  rw [hw]
  have hR' : RowN (fun b => ok b ∧ b < W.heap.size) W l la V := ⟨hR.1, fun i hi => by
    obtain ⟨b, o, e1, e2, e3⟩ := hR.2.1 i hi
    obtain ⟨k', n', p', s', a', l', c', e4, e5, e6⟩ := e3
    exact ⟨b, o, e1, ⟨e2, World.block_lt_of_cell? W _ e5⟩, k', n', p', s', a', l', c', e4, e5, e6⟩, fun i hi => (hR.2.2 i hi).okMono (fun b hb h => ⟨h, hb⟩)⟩
  have HR := Lf.hide hR'
  have HOK := Lf.hide hok
  have HP := Lf.hide prim_any
  have HC : Hid (∀ W2, Calls Try.prog 104 #[.int .i64 (l.length : Int), .int .i64 27, .int .i64 26] W2 fun e w' => e = .returned (.int .i64 (if (l.length : Int) = 0 then 27 else 26 : Int)) ∧ w' = W2) := fun W2 => choice_any _ _ _ _
  have HQ : Hid (I64 (if (l.length : Int) = 0 then 27 else 26 : Int)) := by show I64 _; split <;> exact ⟨by omega, by omega⟩
  generalize (if (l.length : Int) = 0 then 27 else 26 : Int) = q at *
  have HG0 := Lf.hide (Lf.gbt (Lf.gb (w := W) (.cells #[.int .i64 9, .int .i64 n, .int .i64 a, .string s, .slice aa al ac, .slice ta tl tc, .slice na nl nc] 28)) (Lf.gb (.cells #[.int .i64 0, .int .i64 0, .int .i64 0, .string ⟨#[]⟩, .slice none 0 0] 39)))
  have HB0 := Lf.hide (res_new W (.cells #[.int .i64 9, .int .i64 n, .int .i64 a, .string s, .slice aa al ac, .slice ta tl tc, .slice na nl nc] 28) (.cells #[.int .i64 0, .int .i64 0, .int .i64 0, .string ⟨#[]⟩, .slice none 0 0] 39))
  have HZ0 := Lf.hide (new_twoI W (.cells #[.int .i64 9, .int .i64 n, .int .i64 a, .string s, .slice aa al ac, .slice ta tl tc, .slice na nl nc] 28) (.cells #[.int .i64 0, .int .i64 0, .int .i64 0, .string ⟨#[]⟩, .slice none 0 0] 39))
  clear hR hok hR' hw
  unfold vaV
  go_enter Try.func83, Try.ntmps83
  go_wp2_with fail
  refine (HC.out _).mono ?_; rintro e wq ⟨rfl, rfl⟩
  go_wp2_with fail
  refine (HP.out _ _ _ _ _).mono ?_; rintro e w1 ⟨rfl, hg1⟩
  have HG1 := Lf.hide (Lf.gbt HG0.out hg1)
  have HZ1 := Lf.hide ((hg1.block _ (lt_of_block HZ0.out) (by simp)).trans HZ0.out)
  clear hg1
  unfold nodeV
  obtain ⟨s0, s1, s2, s3, s4⟩ := box5 HZ1.out
  obtain ⟨p0, p1, p2, p3, p4⟩ := box5f HZ1.out
  go_wp2_with fail
  change bodyPost _ _ _ _ _ (set5 w1 (W.heap.size + 1) (.int .i64 2) (.int .i64 0) (.int .i64 q) (.string ⟨#[]⟩) (.slice la l.length lc))
  have hb' := set5_block HZ1.out (.int .i64 2) (.int .i64 0) (.int .i64 q) (.string ⟨#[]⟩) (.slice la l.length lc)
  have hgs := set5_grow w1 (W.heap.size + 1) (.int .i64 2) (.int .i64 0) (.int .i64 q) (.string ⟨#[]⟩) (.slice la l.length lc)
  have hg' := grow_new HG1.out hgs (by omega)
  generalize set5 w1 (W.heap.size + 1) (.int .i64 2) (.int .i64 0) (.int .i64 q) (.string ⟨#[]⟩) (.slice la l.length lc) = wf at *
  obtain ⟨z0, z1, z2, z3, z4⟩ := box5 hb'
  refine bodyPost_ret (v := nodeV 2 0 q ⟨#[]⟩ la l.length lc) (by simp [results, Try.results83, go_sem, z0, z1, z2, z3, z4, nodeV]) rfl ⟨hg', _, rfl, ?_⟩
  exact (lies_row (HR.out.same (fun b o hb _ => World.cell?_of_block (hg'.block b hb.2 (by simp)))) (Nat.zero_le _) ⟨by omega, by omega⟩ ⟨by omega, by omega⟩ HQ.out).okMono (fun b _ hb => hb.1)


set_option maxRecDepth 100000 in
set_option maxHeartbeats 1000000 in
theorem wr_pair {ok : Nat → Prop} {W : World} (n a : Int) (s : ByteArray) (xs : List Va) (ty : List Ty) (co : List Tr) (aa : Option Addr) (al ac : Nat) (ta : Option Addr) (tl tc : Nat) (na : Option Addr) (nl nc : Nat) {l : List Tr} {la : Option Addr} {lc : Nat} {V : Nat → Value} (hR : RowN ok W l la V) (hok : ∀ b, W.heap.size ≤ b → ok b) (hl9 : l.length ≤ 100000000) (iN : I64 n) (hs : s.size ≤ maxLen) :
    Calls Try.prog 83 #[vaV 11 n a s aa al ac ta tl tc na nl nc, .slice la l.length lc] W (WrPost ok W (writtenF (.mk 11 n a s xs ty co) l)) := by
  have hw : writtenF (.mk 11 n a s xs ty co) l = primT 23 l := by rfl
  rw [hw]
  have hR' : RowN (fun b => ok b ∧ b < W.heap.size) W l la V := ⟨hR.1, fun i hi => by
    obtain ⟨b, o, e1, e2, e3⟩ := hR.2.1 i hi
    obtain ⟨k', n', p', s', a', l', c', e4, e5, e6⟩ := e3
    exact ⟨b, o, e1, ⟨e2, World.block_lt_of_cell? W _ e5⟩, k', n', p', s', a', l', c', e4, e5, e6⟩, fun i hi => (hR.2.2 i hi).okMono (fun b hb h => ⟨h, hb⟩)⟩
  have HR := Lf.hide hR'
  have HOK := Lf.hide hok
  have HP := Lf.hide prim_any
  have HG0 := Lf.hide (Lf.gbt (Lf.gb (w := W) (.cells #[.int .i64 11, .int .i64 n, .int .i64 a, .string s, .slice aa al ac, .slice ta tl tc, .slice na nl nc] 28)) (Lf.gb (.cells #[.int .i64 0, .int .i64 0, .int .i64 0, .string ⟨#[]⟩, .slice none 0 0] 39)))
  have HB0 := Lf.hide (res_new W (.cells #[.int .i64 11, .int .i64 n, .int .i64 a, .string s, .slice aa al ac, .slice ta tl tc, .slice na nl nc] 28) (.cells #[.int .i64 0, .int .i64 0, .int .i64 0, .string ⟨#[]⟩, .slice none 0 0] 39))
  have HZ0 := Lf.hide (new_twoI W (.cells #[.int .i64 11, .int .i64 n, .int .i64 a, .string s, .slice aa al ac, .slice ta tl tc, .slice na nl nc] 28) (.cells #[.int .i64 0, .int .i64 0, .int .i64 0, .string ⟨#[]⟩, .slice none 0 0] 39))
  clear hR hok hR' hw
  unfold vaV
  go_enter Try.func83, Try.ntmps83
  go_wp2_with fail
  refine (HP.out _ _ _ _ _).mono ?_; rintro e w1 ⟨rfl, hg1⟩
  have HG1 := Lf.hide (Lf.gbt HG0.out hg1)
  have HZ1 := Lf.hide ((hg1.block _ (lt_of_block HZ0.out) (by simp)).trans HZ0.out)
  clear hg1
  unfold nodeV
  obtain ⟨s0, s1, s2, s3, s4⟩ := box5 HZ1.out
  obtain ⟨p0, p1, p2, p3, p4⟩ := box5f HZ1.out
  go_wp2_with fail
  change bodyPost _ _ _ _ _ (set5 w1 (W.heap.size + 1) (.int .i64 2) (.int .i64 0) (.int .i64 23) (.string ⟨#[]⟩) (.slice la l.length lc))
  have hb' := set5_block HZ1.out (.int .i64 2) (.int .i64 0) (.int .i64 23) (.string ⟨#[]⟩) (.slice la l.length lc)
  have hgs := set5_grow w1 (W.heap.size + 1) (.int .i64 2) (.int .i64 0) (.int .i64 23) (.string ⟨#[]⟩) (.slice la l.length lc)
  have hg' := grow_new HG1.out hgs (by omega)
  generalize set5 w1 (W.heap.size + 1) (.int .i64 2) (.int .i64 0) (.int .i64 23) (.string ⟨#[]⟩) (.slice la l.length lc) = wf at *
  obtain ⟨z0, z1, z2, z3, z4⟩ := box5 hb'
  refine bodyPost_ret (v := nodeV 2 0 23 ⟨#[]⟩ la l.length lc) (by simp [results, Try.results83, go_sem, z0, z1, z2, z3, z4, nodeV]) rfl ⟨hg', _, rfl, ?_⟩
  exact (lies_row (HR.out.same (fun b o hb _ => World.cell?_of_block (hg'.block b hb.2 (by simp)))) (Nat.zero_le _) ⟨by omega, by omega⟩ ⟨by omega, by omega⟩ ⟨by omega, by omega⟩).okMono (fun b _ hb => hb.1)


set_option maxRecDepth 100000 in
set_option maxHeartbeats 1000000 in
theorem wr_or {ok : Nat → Prop} {W : World} (n a : Int) (s : ByteArray) (xs : List Va) (ty : List Ty) (co : List Tr) (aa : Option Addr) (al ac : Nat) (ta : Option Addr) (tl tc : Nat) (na : Option Addr) (nl nc : Nat) {l : List Tr} {la : Option Addr} {lc : Nat} {V : Nat → Value} (hR : RowN ok W l la V) (hok : ∀ b, W.heap.size ≤ b → ok b) (hl9 : l.length ≤ 100000000) (iN : I64 n) (hs : s.size ≤ maxLen) :
    Calls Try.prog 83 #[vaV 12 n a s aa al ac ta tl tc na nl nc, .slice la l.length lc] W (WrPost ok W (writtenF (.mk 12 n a s xs ty co) l)) := by
  have hw : writtenF (.mk 12 n a s xs ty co) l = primT (if n = 0 then 24 else 25) l := by rfl
  rw [hw]
  have hR' : RowN (fun b => ok b ∧ b < W.heap.size) W l la V := ⟨hR.1, fun i hi => by
    obtain ⟨b, o, e1, e2, e3⟩ := hR.2.1 i hi
    obtain ⟨k', n', p', s', a', l', c', e4, e5, e6⟩ := e3
    exact ⟨b, o, e1, ⟨e2, World.block_lt_of_cell? W _ e5⟩, k', n', p', s', a', l', c', e4, e5, e6⟩, fun i hi => (hR.2.2 i hi).okMono (fun b hb h => ⟨h, hb⟩)⟩
  have HR := Lf.hide hR'
  have HOK := Lf.hide hok
  have HP := Lf.hide prim_any
  have HC : Hid (∀ W2, Calls Try.prog 104 #[.int .i64 n, .int .i64 24, .int .i64 25] W2 fun e w' => e = .returned (.int .i64 (if n = 0 then 24 else 25 : Int)) ∧ w' = W2) := fun W2 => choice_any _ _ _ _
  have HQ : Hid (I64 (if n = 0 then 24 else 25 : Int)) := by show I64 _; split <;> exact ⟨by omega, by omega⟩
  generalize (if n = 0 then 24 else 25 : Int) = q at *
  have HG0 := Lf.hide (Lf.gbt (Lf.gb (w := W) (.cells #[.int .i64 12, .int .i64 n, .int .i64 a, .string s, .slice aa al ac, .slice ta tl tc, .slice na nl nc] 28)) (Lf.gb (.cells #[.int .i64 0, .int .i64 0, .int .i64 0, .string ⟨#[]⟩, .slice none 0 0] 39)))
  have HB0 := Lf.hide (res_new W (.cells #[.int .i64 12, .int .i64 n, .int .i64 a, .string s, .slice aa al ac, .slice ta tl tc, .slice na nl nc] 28) (.cells #[.int .i64 0, .int .i64 0, .int .i64 0, .string ⟨#[]⟩, .slice none 0 0] 39))
  have HZ0 := Lf.hide (new_twoI W (.cells #[.int .i64 12, .int .i64 n, .int .i64 a, .string s, .slice aa al ac, .slice ta tl tc, .slice na nl nc] 28) (.cells #[.int .i64 0, .int .i64 0, .int .i64 0, .string ⟨#[]⟩, .slice none 0 0] 39))
  clear hR hok hR' hw
  unfold vaV
  go_enter Try.func83, Try.ntmps83
  go_wp2_with fail
  refine (HC.out _).mono ?_; rintro e wq ⟨rfl, rfl⟩
  go_wp2_with fail
  refine (HP.out _ _ _ _ _).mono ?_; rintro e w1 ⟨rfl, hg1⟩
  have HG1 := Lf.hide (Lf.gbt HG0.out hg1)
  have HZ1 := Lf.hide ((hg1.block _ (lt_of_block HZ0.out) (by simp)).trans HZ0.out)
  clear hg1
  unfold nodeV
  obtain ⟨s0, s1, s2, s3, s4⟩ := box5 HZ1.out
  obtain ⟨p0, p1, p2, p3, p4⟩ := box5f HZ1.out
  go_wp2_with fail
  change bodyPost _ _ _ _ _ (set5 w1 (W.heap.size + 1) (.int .i64 2) (.int .i64 0) (.int .i64 q) (.string ⟨#[]⟩) (.slice la l.length lc))
  have hb' := set5_block HZ1.out (.int .i64 2) (.int .i64 0) (.int .i64 q) (.string ⟨#[]⟩) (.slice la l.length lc)
  have hgs := set5_grow w1 (W.heap.size + 1) (.int .i64 2) (.int .i64 0) (.int .i64 q) (.string ⟨#[]⟩) (.slice la l.length lc)
  have hg' := grow_new HG1.out hgs (by omega)
  generalize set5 w1 (W.heap.size + 1) (.int .i64 2) (.int .i64 0) (.int .i64 q) (.string ⟨#[]⟩) (.slice la l.length lc) = wf at *
  obtain ⟨z0, z1, z2, z3, z4⟩ := box5 hb'
  refine bodyPost_ret (v := nodeV 2 0 q ⟨#[]⟩ la l.length lc) (by simp [results, Try.results83, go_sem, z0, z1, z2, z3, z4, nodeV]) rfl ⟨hg', _, rfl, ?_⟩
  exact (lies_row (HR.out.same (fun b o hb _ => World.cell?_of_block (hg'.block b hb.2 (by simp)))) (Nat.zero_le _) ⟨by omega, by omega⟩ ⟨by omega, by omega⟩ HQ.out).okMono (fun b _ hb => hb.1)


set_option maxRecDepth 100000 in
set_option maxHeartbeats 1000000 in
theorem wr_list {ok : Nat → Prop} {W : World} (n a : Int) (s : ByteArray) (xs : List Va) (ty : List Ty) (co : List Tr) (aa : Option Addr) (al ac : Nat) (ta : Option Addr) (tl tc : Nat) (na : Option Addr) (nl nc : Nat) {l : List Tr} {la : Option Addr} {lc : Nat} {V : Nat → Value} (hR : RowN ok W l la V) (hok : ∀ b, W.heap.size ≤ b → ok b) (hl9 : l.length ≤ 100000000) (iN : I64 n) (hs : s.size ≤ maxLen) :
    Calls Try.prog 83 #[vaV 10 n a s aa al ac ta tl tc na nl nc, .slice la l.length lc] W (WrPost ok W (writtenF (.mk 10 n a s xs ty co) l)) := by
  have hw : writtenF (.mk 10 n a s xs ty co) l = .nd 3 0 0 ⟨#[]⟩ l := by rfl
  rw [hw]
  have hR' : RowN (fun b => ok b ∧ b < W.heap.size) W l la V := ⟨hR.1, fun i hi => by
    obtain ⟨b, o, e1, e2, e3⟩ := hR.2.1 i hi
    obtain ⟨k', n', p', s', a', l', c', e4, e5, e6⟩ := e3
    exact ⟨b, o, e1, ⟨e2, World.block_lt_of_cell? W _ e5⟩, k', n', p', s', a', l', c', e4, e5, e6⟩, fun i hi => (hR.2.2 i hi).okMono (fun b hb h => ⟨h, hb⟩)⟩
  have HR := Lf.hide hR'
  have HOK := Lf.hide hok
  have HG0 := Lf.hide (Lf.gbt (Lf.gb (w := W) (.cells #[.int .i64 10, .int .i64 n, .int .i64 a, .string s, .slice aa al ac, .slice ta tl tc, .slice na nl nc] 28)) (Lf.gb (.cells #[.int .i64 0, .int .i64 0, .int .i64 0, .string ⟨#[]⟩, .slice none 0 0] 39)))
  have HB0 := Lf.hide (res_new W (.cells #[.int .i64 10, .int .i64 n, .int .i64 a, .string s, .slice aa al ac, .slice ta tl tc, .slice na nl nc] 28) (.cells #[.int .i64 0, .int .i64 0, .int .i64 0, .string ⟨#[]⟩, .slice none 0 0] 39))
  have HZ0 := Lf.hide (new_twoI W (.cells #[.int .i64 10, .int .i64 n, .int .i64 a, .string s, .slice aa al ac, .slice ta tl tc, .slice na nl nc] 28) (.cells #[.int .i64 0, .int .i64 0, .int .i64 0, .string ⟨#[]⟩, .slice none 0 0] 39))
  clear hR hok hR' hw
  unfold vaV
  go_enter Try.func83, Try.ntmps83
  go_wp2_with fail
  have hb' := new_twoI W (.cells #[.int .i64 10, .int .i64 n, .int .i64 a, .string s, .slice aa al ac, .slice ta tl tc, .slice na nl nc] 28) (.cells #[.int .i64 3, .int .i64 0, .int .i64 0, .string ⟨#[]⟩, .slice la l.length lc] 39)
  have hg' := Lf.gbt (Lf.gb (w := W) (.cells #[.int .i64 10, .int .i64 n, .int .i64 a, .string s, .slice aa al ac, .slice ta tl tc, .slice na nl nc] 28)) (Lf.gb (.cells #[.int .i64 3, .int .i64 0, .int .i64 0, .string ⟨#[]⟩, .slice la l.length lc] 39))
  generalize (W.alloc (.cells #[.int .i64 10, .int .i64 n, .int .i64 a, .string s, .slice aa al ac, .slice ta tl tc, .slice na nl nc] 28)).alloc (.cells #[.int .i64 3, .int .i64 0, .int .i64 0, .string ⟨#[]⟩, .slice la l.length lc] 39) = wf at *
  obtain ⟨z0, z1, z2, z3, z4⟩ := box5 hb'
  refine bodyPost_ret (v := nodeV 3 0 0 ⟨#[]⟩ la l.length lc) (by simp [results, Try.results83, go_sem, z0, z1, z2, z3, z4, nodeV]) rfl ⟨hg', _, rfl, ?_⟩
  exact (lies_row (HR.out.same (fun b o hb _ => World.cell?_of_block (hg'.block b hb.2 (by simp)))) (Nat.zero_le _) ⟨by omega, by omega⟩ ⟨by omega, by omega⟩ ⟨by omega, by omega⟩).okMono (fun b _ hb => hb.1)


set_option maxRecDepth 100000 in
set_option maxHeartbeats 1000000 in
theorem wr_map {ok : Nat → Prop} {W : World} (n a : Int) (s : ByteArray) (xs : List Va) (ty : List Ty) (co : List Tr) (aa : Option Addr) (al ac : Nat) (ta : Option Addr) (tl tc : Nat) (na : Option Addr) (nl nc : Nat) {l : List Tr} {la : Option Addr} {lc : Nat} {V : Nat → Value} (hR : RowN ok W l la V) (hok : ∀ b, W.heap.size ≤ b → ok b) (hl9 : l.length ≤ 100000000) (iN : I64 n) (hs : s.size ≤ maxLen) :
    Calls Try.prog 83 #[vaV 13 n a s aa al ac ta tl tc na nl nc, .slice la l.length lc] W (WrPost ok W (writtenF (.mk 13 n a s xs ty co) l)) := by
  have hw : writtenF (.mk 13 n a s xs ty co) l = .nd 3 0 0 ⟨#[]⟩ (l.map eltT) := by rfl
  rw [hw]
  have hR' : RowN (fun b => ok b ∧ b < W.heap.size) W l la V := ⟨hR.1, fun i hi => by
    obtain ⟨b, o, e1, e2, e3⟩ := hR.2.1 i hi
    obtain ⟨k', n', p', s', a', l', c', e4, e5, e6⟩ := e3
    exact ⟨b, o, e1, ⟨e2, World.block_lt_of_cell? W _ e5⟩, k', n', p', s', a', l', c', e4, e5, e6⟩, fun i hi => (hR.2.2 i hi).okMono (fun b hb h => ⟨h, hb⟩)⟩
  have HR := Lf.hide hR'
  have HOK := Lf.hide hok
  have HE : Hid (∀ W2, W.grownBy W2 none → W.heap.size + 1 + 1 ≤ W2.heap.size → Calls Try.prog 105 #[.slice la l.length lc] W2 fun e w' => W2.grownBy w' none ∧ ∃ a c V', e = .returned (.slice a l.length c) ∧ RowN (fun b => ok b ∧ b ≠ W.heap.size + 1) w' (l.map eltT) a V' ∧ (∀ i, i < l.length → NodeAt (W2.heap.size ≤ ·) w' a i (V' i))) := fun W2 hg hz2 => elts_any (ok := fun b => ok b ∧ b ≠ W.heap.size + 1) ((hR'.same (fun b o hb _ => World.cell?_of_block (hg.block b hb.2 (by simp)))).okMono (fun b _ hb => ⟨hb.1, by omega⟩)) (fun b hb => ⟨hok b (by have := hg.size; omega), by omega⟩) hl9
  have HG0 := Lf.hide (Lf.gbt (Lf.gb (w := W) (.cells #[.int .i64 13, .int .i64 n, .int .i64 a, .string s, .slice aa al ac, .slice ta tl tc, .slice na nl nc] 28)) (Lf.gb (.cells #[.int .i64 0, .int .i64 0, .int .i64 0, .string ⟨#[]⟩, .slice none 0 0] 39)))
  have HB0 := Lf.hide (res_new W (.cells #[.int .i64 13, .int .i64 n, .int .i64 a, .string s, .slice aa al ac, .slice ta tl tc, .slice na nl nc] 28) (.cells #[.int .i64 0, .int .i64 0, .int .i64 0, .string ⟨#[]⟩, .slice none 0 0] 39))
  have HZ0 := Lf.hide (new_twoI W (.cells #[.int .i64 13, .int .i64 n, .int .i64 a, .string s, .slice aa al ac, .slice ta tl tc, .slice na nl nc] 28) (.cells #[.int .i64 0, .int .i64 0, .int .i64 0, .string ⟨#[]⟩, .slice none 0 0] 39))
  clear hR hok hR' hw
  unfold vaV
  go_enter Try.func83, Try.ntmps83
  go_wp2_with fail
  refine (HE.out _ HG0.out (by simp)).mono ?_; rintro e w1 ⟨hg1, ra, rc, V', rfl, hrow, hnew⟩
  have HG1 := Lf.hide (Lf.gbt HG0.out hg1)
  have HZ1 := Lf.hide ((hg1.block _ (lt_of_block HZ0.out) (by simp)).trans HZ0.out)
  clear hg1
  have HROW := Lf.hide hrow
  have HNEW := Lf.hide hnew
  clear hrow hnew
  obtain ⟨s0, s1, s2, s3, s4⟩ := box5 HZ1.out
  obtain ⟨p0, p1, p2, p3, p4⟩ := box5f HZ1.out
  go_wp2_with fail
  change bodyPost _ _ _ _ _ (set5 w1 (W.heap.size + 1) (.int .i64 3) (.int .i64 0) (.int .i64 0) (.string ⟨#[]⟩) (.slice ra l.length rc))
  have hb' := set5_block HZ1.out (.int .i64 3) (.int .i64 0) (.int .i64 0) (.string ⟨#[]⟩) (.slice ra l.length rc)
  have hgs := set5_grow w1 (W.heap.size + 1) (.int .i64 3) (.int .i64 0) (.int .i64 0) (.string ⟨#[]⟩) (.slice ra l.length rc)
  have hg' := grow_new HG1.out hgs (by omega)
  generalize set5 w1 (W.heap.size + 1) (.int .i64 3) (.int .i64 0) (.int .i64 0) (.string ⟨#[]⟩) (.slice ra l.length rc) = wf at *
  obtain ⟨z0, z1, z2, z3, z4⟩ := box5 hb'
  refine bodyPost_ret (v := nodeV 3 0 0 ⟨#[]⟩ ra l.length rc) (by simp [results, Try.results83, go_sem, z0, z1, z2, z3, z4, nodeV]) rfl ⟨hg', _, rfl, ?_⟩
  have hrow2 : RowN ok wf (l.map eltT) ra V' := by
    refine ⟨HROW.out.1, fun i hi => ?_, fun i hi => ?_⟩
    · rw [List.length_map] at hi
      refine ((HNEW.out i hi).same (w' := wf) (fun b o hb hlt => World.cell?_of_block (hgs.block b hlt ?_))).okMono (fun b _ hb => ?_)
      · have : W.heap.size + 1 + 1 ≤ b := by simpa using hb
        simp; omega
      · have : W.heap.size + 1 + 1 ≤ b := by simpa using hb
        exact HOK.out b (by omega)
    · exact ((HROW.out.2.2 i hi).same (w' := wf) (fun b o hb hlt => World.cell?_of_block (hgs.block b hlt (by simp; have := hb.2; omega)))).okMono (fun b _ hb => hb.1)
  have hlr := lies_row (k := 3) (n := 0) (p := 0) (s := ⟨#[]⟩) (c := rc) hrow2 (Nat.zero_le _) ⟨by omega, by omega⟩ ⟨by omega, by omega⟩ ⟨by omega, by omega⟩
  rw [List.length_map] at hlr
  exact hlr


set_option maxRecDepth 100000 in
set_option maxHeartbeats 1000000 in
theorem wr_none {ok : Nat → Prop} {W : World} {k : Int} (h1 : k ≠ 1) (h2 : k ≠ 2) (h3 : k ≠ 3) (h4 : k ≠ 4) (h5 : k ≠ 5) (h6 : k ≠ 6) (h7 : k ≠ 7) (h9 : k ≠ 9) (h10 : k ≠ 10) (h11 : k ≠ 11) (h12 : k ≠ 12) (h13 : k ≠ 13) (n a : Int) (s : ByteArray) (xs : List Va) (ty : List Ty) (co : List Tr) (aa : Option Addr) (al ac : Nat) (ta : Option Addr) (tl tc : Nat) (na : Option Addr) (nl nc : Nat) {l : List Tr} {la : Option Addr} {lc : Nat} {V : Nat → Value} (hR : RowN ok W l la V) (hok : ∀ b, W.heap.size ≤ b → ok b) (hl9 : l.length ≤ 100000000) (iN : I64 n) (hs : s.size ≤ maxLen) :
    Calls Try.prog 83 #[vaV k n a s aa al ac ta tl tc na nl nc, .slice la l.length lc] W (WrPost ok W (writtenF (.mk k n a s xs ty co) l)) := by
  have hw : writtenF (.mk k n a s xs ty co) l = .nd (-1) 0 0 ⟨#[]⟩ [] := by unfold writtenF; rw [if_neg (show ¬ (Va.mk k n a s xs ty co).k = 1 from h1), if_neg (show ¬ (Va.mk k n a s xs ty co).k = 2 from h2), if_neg (show ¬ ((Va.mk k n a s xs ty co).k = 3 ∨ (Va.mk k n a s xs ty co).k = 4 ∨ (Va.mk k n a s xs ty co).k = 5 ∨ (Va.mk k n a s xs ty co).k = 7) from fun h => by rcases h with h | h | h | h <;> contradiction), if_neg (show ¬ (Va.mk k n a s xs ty co).k = 6 from h6), if_neg (show ¬ (Va.mk k n a s xs ty co).k = 9 from h9), if_neg (show ¬ (Va.mk k n a s xs ty co).k = 11 from h11), if_neg (show ¬ (Va.mk k n a s xs ty co).k = 12 from h12), if_neg (show ¬ (Va.mk k n a s xs ty co).k = 10 from h10), if_neg (show ¬ (Va.mk k n a s xs ty co).k = 13 from h13)]
  rw [hw]
  have hR' : RowN (fun b => ok b ∧ b < W.heap.size) W l la V := ⟨hR.1, fun i hi => by
    obtain ⟨b, o, e1, e2, e3⟩ := hR.2.1 i hi
    obtain ⟨k', n', p', s', a', l', c', e4, e5, e6⟩ := e3
    exact ⟨b, o, e1, ⟨e2, World.block_lt_of_cell? W _ e5⟩, k', n', p', s', a', l', c', e4, e5, e6⟩, fun i hi => (hR.2.2 i hi).okMono (fun b hb h => ⟨h, hb⟩)⟩
  have HR := Lf.hide hR'
  have HOK := Lf.hide hok
  have b1 : (k == 1) = false := by simpa using h1
  have b2 : (k == 2) = false := by simpa using h2
  have b3 : (k == 3) = false := by simpa using h3
  have b4 : (k == 4) = false := by simpa using h4
  have b5 : (k == 5) = false := by simpa using h5
  have b6 : (k == 6) = false := by simpa using h6
  have b7 : (k == 7) = false := by simpa using h7
  have b9 : (k == 9) = false := by simpa using h9
  have b10 : (k == 10) = false := by simpa using h10
  have b11 : (k == 11) = false := by simpa using h11
  have b12 : (k == 12) = false := by simpa using h12
  have b13 : (k == 13) = false := by simpa using h13
  clear h1 h2 h3 h4 h5 h6 h7 h9 h10 h11 h12 h13
  have HG0 := Lf.hide (Lf.gbt (Lf.gb (w := W) (.cells #[.int .i64 k, .int .i64 n, .int .i64 a, .string s, .slice aa al ac, .slice ta tl tc, .slice na nl nc] 28)) (Lf.gb (.cells #[.int .i64 0, .int .i64 0, .int .i64 0, .string ⟨#[]⟩, .slice none 0 0] 39)))
  have HB0 := Lf.hide (res_new W (.cells #[.int .i64 k, .int .i64 n, .int .i64 a, .string s, .slice aa al ac, .slice ta tl tc, .slice na nl nc] 28) (.cells #[.int .i64 0, .int .i64 0, .int .i64 0, .string ⟨#[]⟩, .slice none 0 0] 39))
  have HZ0 := Lf.hide (new_twoI W (.cells #[.int .i64 k, .int .i64 n, .int .i64 a, .string s, .slice aa al ac, .slice ta tl tc, .slice na nl nc] 28) (.cells #[.int .i64 0, .int .i64 0, .int .i64 0, .string ⟨#[]⟩, .slice none 0 0] 39))
  clear hR hok hR' hw
  unfold vaV
  go_enter Try.func83, Try.ntmps83
  go_wp2_with fail
  have hb' := new_twoI W (.cells #[.int .i64 k, .int .i64 n, .int .i64 a, .string s, .slice aa al ac, .slice ta tl tc, .slice na nl nc] 28) (.cells #[.int .i64 (-1), .int .i64 0, .int .i64 0, .string ⟨#[]⟩, .slice none 0 0] 39)
  have hg' := Lf.gbt (Lf.gb (w := W) (.cells #[.int .i64 k, .int .i64 n, .int .i64 a, .string s, .slice aa al ac, .slice ta tl tc, .slice na nl nc] 28)) (Lf.gb (.cells #[.int .i64 (-1), .int .i64 0, .int .i64 0, .string ⟨#[]⟩, .slice none 0 0] 39))
  generalize (W.alloc (.cells #[.int .i64 k, .int .i64 n, .int .i64 a, .string s, .slice aa al ac, .slice ta tl tc, .slice na nl nc] 28)).alloc (.cells #[.int .i64 (-1), .int .i64 0, .int .i64 0, .string ⟨#[]⟩, .slice none 0 0] 39) = wf at *
  obtain ⟨z0, z1, z2, z3, z4⟩ := box5 hb'
  refine bodyPost_ret (v := nodeV (-1) 0 0 ⟨#[]⟩ none 0 0) (by simp [results, Try.results83, go_sem, z0, z1, z2, z3, z4, nodeV]) rfl ⟨hg', _, rfl, ?_⟩
  exact lies_row (V := fun _ => .int .i64 0) (RowN.nil _ _ _ _) (Nat.zero_le _) ⟨by omega, by omega⟩ ⟨by omega, by omega⟩ ⟨by omega, by omega⟩


/-- written, whatever value and trees -/
theorem writ_any {ok : Nat → Prop} {W : World} (x : Va) (aa : Option Addr) (al ac : Nat) (ta : Option Addr) (tl tc : Nat) (na : Option Addr) (nl nc : Nat) {l : List Tr} {la : Option Addr} {lc : Nat} {V : Nat → Value} (hR : RowN ok W l la V) (hok : ∀ b, W.heap.size ≤ b → ok b) (hl9 : l.length ≤ 100000000) (iN : I64 x.n) (hs : x.s.size ≤ maxLen) :
    Calls Try.prog 83 #[vaV x.k x.n x.a x.s aa al ac ta tl tc na nl nc, .slice la l.length lc] W (WrPost ok W (writtenF x l)) := by
  obtain ⟨k, n, a, s, xs, ty, co⟩ := x
  simp only [Va.k, Va.n, Va.a, Va.s] at *
  by_cases h1 : k = 1
  · subst h1; exact wr_unit n a s xs ty co aa al ac ta tl tc na nl nc hR hok hl9 iN hs
  by_cases h2 : k = 2
  · subst h2; exact wr_bool n a s xs ty co aa al ac ta tl tc na nl nc hR hok hl9 iN hs
  by_cases h3 : k = 3
  · subst h3; exact wr_int3 n a s xs ty co aa al ac ta tl tc na nl nc hR hok hl9 iN hs
  by_cases h4 : k = 4
  · subst h4; exact wr_int4 n a s xs ty co aa al ac ta tl tc na nl nc hR hok hl9 iN hs
  by_cases h5 : k = 5
  · subst h5; exact wr_int5 n a s xs ty co aa al ac ta tl tc na nl nc hR hok hl9 iN hs
  by_cases h6 : k = 6
  · subst h6; exact wr_text n a s xs ty co aa al ac ta tl tc na nl nc hR hok hl9 iN hs
  by_cases h7 : k = 7
  · subst h7; exact wr_int7 n a s xs ty co aa al ac ta tl tc na nl nc hR hok hl9 iN hs
  by_cases h9 : k = 9
  · subst h9; exact wr_opt n a s xs ty co aa al ac ta tl tc na nl nc hR hok hl9 iN hs
  by_cases h10 : k = 10
  · subst h10; exact wr_list n a s xs ty co aa al ac ta tl tc na nl nc hR hok hl9 iN hs
  by_cases h11 : k = 11
  · subst h11; exact wr_pair n a s xs ty co aa al ac ta tl tc na nl nc hR hok hl9 iN hs
  by_cases h12 : k = 12
  · subst h12; exact wr_or n a s xs ty co aa al ac ta tl tc na nl nc hR hok hl9 iN hs
  by_cases h13 : k = 13
  · subst h13; exact wr_map n a s xs ty co aa al ac ta tl tc na nl nc hR hok hl9 iN hs
  exact wr_none h1 h2 h3 h4 h5 h6 h7 h9 h10 h11 h12 h13 n a s xs ty co aa al ac ta tl tc na nl nc hR hok hl9 iN hs

end Go.Proofs.Ytmmgihaoahhkjaa
