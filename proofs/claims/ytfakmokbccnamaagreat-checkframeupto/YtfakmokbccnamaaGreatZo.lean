import Derived.Test.YtfakmokbccnamaaGreatZa
import Derived.Deep.Slices
import Derived.Lib.SmallJoins
import Derived.Test.YtfakmokbccnamaaGreatZb
namespace Go.Proofs.YtfakmokbccnamaaGreat
set_option maxRecDepth 100000
set_option maxHeartbeats 4000000
open Go.ChangeShapes Go.WideShapes Go.ChangeAt Go.RowKit
set_option linter.unusedVariables false
theorem cells_ty : Tryz.prog.cellsOf 42 = 2 := by kernel_rfl
theorem cells_int : Tryz.prog.cellsOf 3 = 1 := by kernel_rfl
theorem cells_tys : Tryz.prog.cellsOf 25 = 1 := by kernel_rfl
theorem i64_ofT {n : Int} (h : (Lit.int .i64 n).wf = true) : I64 n := by
 simpa [Lit.wf, IntKind.min, IntKind.max, IntKind.signed, IntKind.bits, I64] using h
theorem bulk_snoc {H : Type} : ∀ (l : List (DataW H)) (x : DataW H), Rows.uptoBulkAll (l ++ [x]) = Rows.uptoBulkAll l + Rows.uptoBulk x := by
 intro l x
 induction l with
 | nil => simp [Rows.uptoBulkAll]
 | cons y l ihl => simp [Rows.uptoBulkAll, ihl]; omega
theorem tysizes_range {H : Type} (T : Nat -> Ty) (D : Nat -> DataW H) : ∀ (n : Nat), (∀ i, i < n -> (T i).size <= Rows.uptoBulk (D i)) -> tysizes ((List.range n).map T) <= Rows.uptoBulkAll ((List.range n).map D)
 | 0, _ => by simp [tysizes, Rows.uptoBulkAll]
 | n + 1, h => by
  have ih := tysizes_range T D n (fun i hi => h i (by omega))
  have hn := h n (by omega)
  rw [List.range_succ, List.map_append, List.map_append, tysizes_append, List.map_singleton, List.map_singleton, bulk_snoc]
  simp only [tysizes]
  omega
theorem bulk_elemT {H : Type} (D : Nat -> DataW H) (n i : Nat) (h : i < n) : Rows.uptoBulk (D i) <= Rows.uptoBulkAll ((List.range n).map D) := by
 induction n with
 | zero => omega
 | succ n ih =>
  rw [List.range_succ, List.map_append, List.map_singleton, bulk_snoc]
  by_cases hi : i = n
  ·subst hi; omega
  ·have := ih (by omega); omega
theorem liesT_leaf {ok : Nat -> Prop} {w : World} {t : Int} {c : Nat} (it : I64 t) : LiesT ok w (.nd t []) (tyV t none 0 c) := LiesT.of (V := fun _ => .int .i64 0) it (RowT.nil _ _ _ _) (Nat.zero_le _)
theorem open_type {H : Type} {enc : TypeId × Value -> H} {W : World} (N : Nat) : ∀ (fuel : Nat) (cs : List Value) (d : DataW H) (ps : List MemPlace), Rows.uptoBulk d <= N -> DataW.trod enc Tryz.prog W 0 (fun _ => true) true fuel 42 cs = some (d, ps) ->
 ∃ k a l c t, cs = [.int .i64 k, .slice a l c] /\ LiesT (fun _ => True) W t (tyV k a l c) /\ t.size <= Rows.uptoBulk d := by
 haveI : Inhabited Ty := ⟨.nd 0 []⟩
 induction N with
 | zero =>
  intro fuel cs d ps hN h
  obtain ⟨xs, n, _, hx, _⟩ := DataW.trod_struct Tryz.underlying42 h
  simp only [Prod.mk.injEq] at hx
  rw [hx.1] at hN
  simp [Rows.uptoBulk] at hN
 | succ N ih =>
  intro fuel cs d ps hN h
  obtain ⟨xs, f, _, hx, hlen, hxl, hf⟩ := DataW.trod_struct Tryz.underlying42 h
  rw [cells_ty] at hlen
  match xs, hxl, cs, hlen with
  | [y0, y1], _, [v0, v1], _ =>
   have g0 := hf 0 _ rfl
   have g1 := hf 1 _ rfl
   simp [cells_int, cells_tys] at g0 g1
   obtain ⟨k, e0, x0, i0⟩ := DataW.trod_int Tryz.underlying3 g0
   simp only [List.cons.injEq, and_true] at e0
   subst e0; subst x0
   simp only [Prod.mk.injEq] at hx
   obtain ⟨rfl, _⟩ := hx
   rcases Go.Deep.open_slice Tryz.underlying25 g1 with ⟨e4, x4⟩ | ⟨a, len, cap, m, nf, D, Pl, e4, _, hl, hm, hmm, x4, hel⟩
   ·simp only [List.cons.injEq, and_true] at e4
    subst e4
    refine ⟨k, none, 0, 0, .nd k [], rfl, liesT_leaf (i64_ofT i0), ?_⟩
    simp [Ty.size, tysizes, Rows.uptoBulk]
   ·simp only [List.cons.injEq, and_true] at e4
    subst e4; subst x4
    simp only [if_true] at hmm
    subst hmm
    rw [cells_ty] at hel
    simp only [List.map_cons, List.map_nil, Rows.uptoBulk, Rows.uptoBulkAll] at hN ⊢
    have hbk : ∀ i, i < len -> Rows.uptoBulk (D i) <= N := fun i hi => by have := bulk_elemT D len i hi; omega
    obtain ⟨q, hq⟩ := Go.Deep.choose_lt (α := Ty × Value) (n := len) (p := fun i x => LiesT (fun _ => True) W x.1 x.2 /\ x.1.size <= Rows.uptoBulk (D i) /\
     ∃ k a' l c, x.2 = tyV k a' l c /\ W.cells? 0 (a.add (i * 2)) 2 = some [.int .i64 k, .slice a' l c]) (fun i hi => by
     obtain ⟨cs', h1, h2⟩ := hel i (by omega)
     obtain ⟨k, a', l, c, t, rfl, hL, hs⟩ := ih nf cs' (D i) (Pl i) (hbk i hi) h2
     exact ⟨(t, tyV k a' l c), hL, hs, k, a', l, c, rfl, h1⟩)
    have hargs : ((List.range len).map fun i => (q i).1).length = len := by simp
    have hL := LiesT.mk (ok := fun _ => True) (w := W) (t := k) (args := (List.range len).map fun i => (q i).1) (a := some a) (c := m) (fun i => (q i).2) (by rw [hargs]; omega) (by rw [hargs]; omega) (i64_ofT i0)
     (fun i hi => by
      rw [hargs] at hi
      obtain ⟨_, _, k', a', l', c', hv, hcs⟩ := hq i hi
      obtain ⟨_, _, hcell⟩ := World.cells?_some hcs
      obtain ⟨b, o, sp⟩ := a
      have h0 : sp = none := by
       obtain ⟨_, _, k0, a0, l0, c0, _, hcs0⟩ := hq 0 (by omega)
       obtain ⟨_, _, hcell0⟩ := World.cells?_some hcs0
       have := hcell0 0 (by omega)
       simp [Addr.add] at this
       exact World.cell?_spot this
      subst h0
      have hadd : ∀ x, (⟨b, o, none⟩ : Addr).add x = ⟨b, o + x, none⟩ := fun x => by unfold Addr.add; split <;> simp_all
      rw [hadd] at hcell
      refine ⟨b, o, rfl, trivial, k', a', l', c', hv, ?_, ?_⟩
      ·have := hcell 0 (by omega); simpa [Addr.add] using this
      ·have := hcell 1 (by omega); simpa [Addr.add] using this)
     (fun i hi => by
      rw [hargs] at hi
      simpa using (hq i hi).1)
    rw [hargs] at hL
    refine ⟨k, some a, len, m, _, rfl, hL, ?_⟩
    have hsz := tysizes_range (fun i => (q i).1) D len (fun i hi => (hq i hi).2.1)
    rw [Ty.size]
    omega
theorem cells24 : Tryz.prog.cellsOf 24 = 5 := by kernel_rfl
theorem cells3 : Tryz.prog.cellsOf 3 = 1 := by kernel_rfl
theorem cells9 : Tryz.prog.cellsOf 9 = 1 := by kernel_rfl
theorem cells22 : Tryz.prog.cellsOf 22 = 1 := by kernel_rfl
theorem i64_of {n : Int} (h : (Lit.int .i64 n).wf = true) : I64 n := by
 simpa [Lit.wf, IntKind.min, IntKind.max, IntKind.signed, IntKind.bits, I64] using h
theorem sizes_range {H : Type} (T : Nat -> Tr) (D : Nat -> DataW H) : ∀ (n : Nat), (∀ i, i < n -> (T i).size <= Rows.uptoBulk (D i)) -> sizes ((List.range n).map T) <= Rows.uptoBulkAll ((List.range n).map D)
 | 0, _ => by simp [sizes, Rows.uptoBulkAll]
 | n + 1, h => by
  have ih := sizes_range T D n (fun i hi => h i (by omega))
  have hn := h n (by omega)
  have e : ∀ (l : List (DataW H)) (x : DataW H), Rows.uptoBulkAll (l ++ [x]) = Rows.uptoBulkAll l + Rows.uptoBulk x := by
   intro l x
   induction l with
   | nil => simp [Rows.uptoBulkAll]
   | cons y l ihl => simp [Rows.uptoBulkAll, ihl]; omega
  rw [List.range_succ, List.map_append, List.map_append, sizes_append, List.map_singleton, List.map_singleton, e]
  simp only [sizes]
  omega
theorem bulk_elem {H : Type} (D : Nat -> DataW H) (n i : Nat) (h : i < n) : Rows.uptoBulk (D i) <= Rows.uptoBulkAll ((List.range n).map D) := by
 induction n with
 | zero => omega
 | succ n ih =>
  have e : ∀ (l : List (DataW H)) (x : DataW H), Rows.uptoBulkAll (l ++ [x]) = Rows.uptoBulkAll l + Rows.uptoBulk x := by
   intro l x
   induction l with
   | nil => simp [Rows.uptoBulkAll]
   | cons y l ihl => simp [Rows.uptoBulkAll, ihl]; omega
  rw [List.range_succ, List.map_append, List.map_singleton, e]
  by_cases hi : i = n
  ·subst hi; omega
  ·have := ih (by omega); omega
theorem lies_leafO {ok : Nat -> Prop} {w : World} {k n p : Int} {s : ByteArray} (hs : s.size <= maxLen) (hk : I64 k) (hn : I64 n) (hp : I64 p) : Lies ok w (.nd k n p s []) (nodeV k n p s none 0 0) :=
 Lies.mk (args := []) (fun _ => .int .i64 0) (by simp) hs hk hn hp (fun i hi => by simp at hi) (fun i hi => by simp at hi)
theorem open_node {H : Type} {enc : TypeId × Value -> H} {W : World} (N : Nat) : ∀ (fuel : Nat) (cs : List Value) (d : DataW H) (ps : List MemPlace), Rows.uptoBulk d <= N -> DataW.trod enc Tryz.prog W 0 (fun _ => true) true fuel 24 cs = some (d, ps) ->
 ∃ k n p s a l c t, cs = [.int .i64 k, .int .i64 n, .int .i64 p, .string s, .slice a l c] /\ Lies (fun _ => True) W t (nodeV k n p s a l c) /\ t.size <= Rows.uptoBulk d := by
 haveI : Inhabited Tr := ⟨.nd 0 0 0 ⟨#[]⟩ []⟩
 induction N with
 | zero =>
  intro fuel cs d ps hN h
  obtain ⟨xs, n, _, hx, _⟩ := DataW.trod_struct Tryz.underlying24 h
  simp only [Prod.mk.injEq] at hx
  rw [hx.1] at hN
  simp [Rows.uptoBulk] at hN
 | succ N ih =>
  intro fuel cs d ps hN h
  obtain ⟨xs, f, _, hx, hlen, hxl, hf⟩ := DataW.trod_struct Tryz.underlying24 h
  rw [cells24] at hlen
  match xs, hxl, cs, hlen with
  | [y0, y1, y2, y3, y4], _, [v0, v1, v2, v3, v4], _ =>
   have g0 := hf 0 _ rfl
   have g1 := hf 1 _ rfl
   have g2 := hf 2 _ rfl
   have g3 := hf 3 _ rfl
   have g4 := hf 4 _ rfl
   simp [cells3, cells9, cells22] at g0 g1 g2 g3 g4
   obtain ⟨k, e0, x0, i0⟩ := DataW.trod_int Tryz.underlying3 g0
   obtain ⟨n, e1, x1, i1⟩ := DataW.trod_int Tryz.underlying3 g1
   obtain ⟨p, e2, x2, i2⟩ := DataW.trod_int Tryz.underlying3 g2
   obtain ⟨s, e3, x3, i3⟩ := DataW.trod_string Tryz.underlying9 g3
   simp only [List.cons.injEq, and_true] at e0 e1 e2 e3
   subst e0; subst e1; subst e2; subst e3; subst x0; subst x1; subst x2; subst x3
   simp only [Prod.mk.injEq] at hx
   obtain ⟨rfl, _⟩ := hx
   rcases Go.Deep.open_slice Tryz.underlying22 g4 with ⟨e4, x4⟩ | ⟨a, len, cap, m, nf, D, Pl, e4, _, hl, hm, hmm, x4, hel⟩
   ·simp only [List.cons.injEq, and_true] at e4
    subst e4
    refine ⟨k, n, p, s, none, 0, 0, .nd k n p s [], rfl, lies_leafO i3 (i64_of i0) (i64_of i1) (i64_of i2), ?_⟩
    simp [Tr.size, sizes, Rows.uptoBulk]
   ·simp only [List.cons.injEq, and_true] at e4
    subst e4; subst x4
    simp only [if_true] at hmm
    subst hmm
    rw [cells24] at hel
    simp only [List.map_cons, List.map_nil, Rows.uptoBulk, Rows.uptoBulkAll] at hN ⊢
    have hbk : ∀ i, i < len -> Rows.uptoBulk (D i) <= N := fun i hi => by have := bulk_elem D len i hi; omega
    obtain ⟨q, hq⟩ := Go.Deep.choose_lt (α := Tr × Value) (n := len) (p := fun i x => Lies (fun _ => True) W x.1 x.2 /\ x.1.size <= Rows.uptoBulk (D i) /\
     ∃ k n p s a' l c, x.2 = nodeV k n p s a' l c /\ W.cells? 0 (a.add (i * 5)) 5 = some [.int .i64 k, .int .i64 n, .int .i64 p, .string s, .slice a' l c]) (fun i hi => by
     obtain ⟨cs', h1, h2⟩ := hel i (by omega)
     obtain ⟨k, n, p, s, a', l, c, t, rfl, hL, hs⟩ := ih nf cs' (D i) (Pl i) (hbk i hi) h2
     exact ⟨(t, nodeV k n p s a' l c), hL, hs, k, n, p, s, a', l, c, rfl, h1⟩)
    have hargs : ((List.range len).map fun i => (q i).1).length = len := by simp
    have hL := Lies.mk (ok := fun _ => True) (w := W) (k := k) (n := n) (p := p) (s := s) (args := (List.range len).map fun i => (q i).1) (a := some a) (c := m) (fun i => (q i).2) (by rw [hargs]; omega) i3 (i64_of i0) (i64_of i1) (i64_of i2)
     (fun i hi => by
      rw [hargs] at hi
      obtain ⟨_, _, k', n', p', s', a', l', c', hv, hcs⟩ := hq i hi
      obtain ⟨_, _, hcell⟩ := World.cells?_some hcs
      obtain ⟨b, o, sp⟩ := a
      have h0 : sp = none := by
       obtain ⟨_, _, k0, n0, p0, s0, a0, l0, c0, _, hcs0⟩ := hq 0 (by omega)
       obtain ⟨_, _, hcell0⟩ := World.cells?_some hcs0
       have := hcell0 0 (by omega)
       simp [Addr.add] at this
       exact World.cell?_spot this
      subst h0
      have hadd : ∀ x, (⟨b, o, none⟩ : Addr).add x = ⟨b, o + x, none⟩ := fun x => by unfold Addr.add; split <;> simp_all
      rw [hadd] at hcell
      refine ⟨b, o, rfl, trivial, k', n', p', s', a', l', c', hv, ?_, ?_, ?_, ?_, ?_⟩
      ·have := hcell 0 (by omega); simpa [Addr.add] using this
      ·have := hcell 1 (by omega); simpa [Addr.add] using this
      ·have := hcell 2 (by omega); simpa [Addr.add] using this
      ·have := hcell 3 (by omega); simpa [Addr.add] using this
      ·have := hcell 4 (by omega); simpa [Addr.add] using this)
     (fun i hi => by
      rw [hargs] at hi
      simpa using (hq i hi).1)
    rw [hargs] at hL
    refine ⟨k, n, p, s, some a, len, m, _, rfl, hL, ?_⟩
    have hsz := sizes_range (fun i => (q i).1) D len (fun i hi => (hq i hi).2.1)
    rw [Tr.size]
    omega
theorem open_arg {H : Type} {enc : TypeId × Value -> H} {W : World} {r : Reach} {b0 : Nat} {v : Value} {d : DataW H} {p : List MemPlace} (hv : Value.okWide Tryz.prog W r b0 24 v) (h : DataW.Trod enc Tryz.prog W 0 (fun _ => true) true 24 v d p) :
 ∃ t, Lies (· < W.heap.size) W t v /\ t.size <= Rows.uptoBulk d := by
 obtain ⟨cs, rfl, hsz⟩ := okWide_struct Tryz.underlying24 hv
 obtain ⟨fuel, hf⟩ := h
 obtain ⟨k, n, q, s, a, l, c, t, e, hL, hs⟩ := open_node _ fuel _ d p (Nat.le_refl _) hf
 have e2 : cs = #[.int .i64 k, .int .i64 n, .int .i64 q, .string s, .slice a l c] := by
  have : cs.toList = [.int .i64 k, .int .i64 n, .int .i64 q, .string s, .slice a l c] := by simpa [Value.cells] using e
  apply Array.ext'
  rw [this]
 subst e2
 exact ⟨t, hL.okMono (fun b hb _ => hb), hs⟩
theorem open_rowT {H : Type} {enc : TypeId × Value -> H} {W : World} {fuel : Nat} {v : Value} {d : DataW H} {ps : List MemPlace} (h : DataW.trod enc Tryz.prog W 0 (fun _ => true) true fuel 25 [v] = some (d, ps)) :
 ∃ a l c ts V, v = .slice a l c /\ ts.length = l /\ RowT (fun _ => True) W ts a V /\ tysizes ts <= Rows.uptoBulk d := by
 haveI : Inhabited Ty := ⟨.nd 0 []⟩
 rcases Go.Deep.open_slice Tryz.underlying25 h with ⟨e4, x4⟩ | ⟨a, len, cap, m, nf, D, Pl, e4, _, hl, hm, hmm, x4, hel⟩
 ·simp only [List.cons.injEq, and_true] at e4
  subst e4
  exact ⟨none, 0, 0, [], fun _ => .int .i64 0, rfl, rfl, RowT.nil _ _ _ _, by simp [tysizes]⟩
 ·simp only [List.cons.injEq, and_true] at e4
  simp only [Prod.mk.injEq] at x4
  subst e4
  obtain ⟨rfl, _⟩ := x4
  simp only [if_true] at hmm
  subst hmm
  rw [cells_ty] at hel
  obtain ⟨q, hq⟩ := Go.Deep.choose_lt (α := Ty × Value) (n := len) (p := fun i x => LiesT (fun _ => True) W x.1 x.2 /\ x.1.size <= Rows.uptoBulk (D i) /\
   ∃ k a' l c, x.2 = tyV k a' l c /\ W.cells? 0 (a.add (i * 2)) 2 = some [.int .i64 k, .slice a' l c]) (fun i hi => by
   obtain ⟨cs', h1, h2⟩ := hel i (by omega)
   obtain ⟨k, a', l, c, t, rfl, hL, hs⟩ := open_type _ nf cs' (D i) (Pl i) (Nat.le_refl _) h2
   exact ⟨(t, tyV k a' l c), hL, hs, k, a', l, c, rfl, h1⟩)
  have hargs : ((List.range len).map fun i => (q i).1).length = len := by simp
  refine ⟨some a, len, m, (List.range len).map fun i => (q i).1, fun i => (q i).2, rfl, hargs, ⟨by rw [hargs]; omega, fun i hi => ?_, fun i hi => ?_⟩, ?_⟩
  ·rw [hargs] at hi
   obtain ⟨_, _, k, a', l, c, hv, hcs⟩ := hq i hi
   obtain ⟨_, _, hcell⟩ := World.cells?_some hcs
   obtain ⟨bb, oo, sp⟩ := a
   have h0 : sp = none := by
    obtain ⟨_, _, h00⟩ := hq 0 (by omega)
    obtain ⟨_, _, _, _, _, hcs0⟩ := h00
    obtain ⟨_, _, hcell0⟩ := World.cells?_some hcs0
    have := hcell0 0 (by omega)
    simp [Addr.add] at this
    exact World.cell?_spot this
   subst h0
   have hadd : ∀ x, (⟨bb, oo, none⟩ : Addr).add x = ⟨bb, oo + x, none⟩ := fun x => by unfold Addr.add; split <;> simp_all
   rw [hadd] at hcell
   refine ⟨bb, oo, rfl, trivial, k, a', l, c, hv, ?_, ?_⟩
   ·have := hcell 0 (by omega); simpa [Addr.add] using this
   ·have := hcell 1 (by omega); simpa [Addr.add] using this
  ·rw [hargs] at hi
   simpa using (hq i hi).1
  ·have hsz := tysizes_range (fun i => (q i).1) D len (fun i hi => (hq i hi).2.1)
   simp only [Rows.uptoBulk]
   omega
theorem open_argTs {H : Type} {enc : TypeId × Value -> H} {W : World} {r : Reach} {b0 : Nat} {v : Value} {d : DataW H} {p : List MemPlace} (hv : Value.okWide Tryz.prog W r b0 25 v) (h : DataW.Trod enc Tryz.prog W 0 (fun _ => true) true 25 v d p) :
 ∃ ts a l c, v = .slice a l c /\ RowC W ts (.slice a l c) /\ tysizes ts <= Rows.uptoBulk d := by
 obtain ⟨a, l, c, rfl⟩ := okWide_slice Tryz.underlying25 hv
 obtain ⟨fuel, hf⟩ := h
 have hf' : DataW.trod enc Tryz.prog W 0 (fun _ => true) true fuel 25 [.slice a l c] = some (d, p) := hf
 obtain ⟨a', l', c', ts, V, e, hl, hr, hz⟩ := open_rowT hf'
 simp only [Value.slice.injEq] at e
 obtain ⟨rfl, rfl, rfl⟩ := e
 have hc : l <= c := by
  rcases Go.Deep.open_slice Tryz.underlying25 hf' with ⟨e4, x4⟩ | ⟨a, len, cap, m, nf, D, Pl, e4, _, hl, hm, hmm, x4, hel⟩
  ·simp only [List.cons.injEq, and_true, Value.slice.injEq] at e4
   omega
  ·simp only [List.cons.injEq, and_true, Value.slice.injEq] at e4
   simp only [if_true] at hmm
   omega
 subst hl
 exact ⟨ts, a, _, c, rfl, ⟨a, c, V, rfl, hc, hr⟩, hz⟩
end Go.Proofs.YtfakmokbccnamaaGreat
