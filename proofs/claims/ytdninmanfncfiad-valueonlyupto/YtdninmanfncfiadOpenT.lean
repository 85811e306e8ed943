/- A type that came in as an argument: it is a type that lies in memory, of no more types than its reading holds values. -/
import Derived.Test.YtdninmanfncfiadTyMem
import Derived.Deep.Slices
import Derived.Lib.SmallJoins
namespace Go.Proofs.Ytdninmanfncfiad
open Go.ChangeShapes Go.WideShapes Go.ChangeAt Go.RowKit
set_option linter.unusedVariables false

theorem cells_ty : Try.prog.cellsOf 24 = 2 := by kernel_rfl
theorem cells_int : Try.prog.cellsOf 3 = 1 := by kernel_rfl
theorem cells_tys : Try.prog.cellsOf 22 = 1 := by kernel_rfl

theorem i64_ofT {n : Int} (h : (Lit.int .i64 n).wf = true) : I64 n := by
  simpa [Lit.wf, IntKind.min, IntKind.max, IntKind.signed, IntKind.bits, I64] using h

theorem bulk_snoc {H : Type} : ∀ (l : List (DataW H)) (x : DataW H), Rows.uptoBulkAll (l ++ [x]) = Rows.uptoBulkAll l + Rows.uptoBulk x := by
  intro l x
  induction l with
  | nil => simp [Rows.uptoBulkAll]
  | cons y l ihl => simp [Rows.uptoBulkAll, ihl]; omega

theorem tysizes_range {H : Type} (T : Nat → Ty) (D : Nat → DataW H) : ∀ (n : Nat), (∀ i, i < n → (T i).size ≤ Rows.uptoBulk (D i)) → tysizes ((List.range n).map T) ≤ Rows.uptoBulkAll ((List.range n).map D)
  | 0, _ => by simp [tysizes, Rows.uptoBulkAll]
  | n + 1, h => by
    have ih := tysizes_range T D n (fun i hi => h i (by omega))
    have hn := h n (by omega)
    rw [List.range_succ, List.map_append, List.map_append, tysizes_append, List.map_singleton, List.map_singleton, bulk_snoc]
    simp only [tysizes]
    omega

theorem bulk_elemT {H : Type} (D : Nat → DataW H) (n i : Nat) (h : i < n) : Rows.uptoBulk (D i) ≤ Rows.uptoBulkAll ((List.range n).map D) := by
  induction n with
  | zero => omega
  | succ n ih =>
    rw [List.range_succ, List.map_append, List.map_singleton, bulk_snoc]
    by_cases hi : i = n
    · subst hi; omega
    · have := ih (by omega); omega

theorem liesT_leaf {ok : Nat → Prop} {w : World} {t : Int} {c : Nat} (it : I64 t) : LiesT ok w (.nd t []) (tyV t none 0 c) := LiesT.of (V := fun _ => .int .i64 0) it (RowT.nil _ _ _ _) (Nat.zero_le _)

set_option maxRecDepth 100000 in
theorem open_type {H : Type} {enc : TypeId × Value → H} {W : World} (N : Nat) : ∀ (fuel : Nat) (cs : List Value) (d : DataW H) (ps : List MemPlace), Rows.uptoBulk d ≤ N → DataW.trod enc Try.prog W 0 (fun _ => true) true fuel 24 cs = some (d, ps) →
    ∃ k a l c t, cs = [.int .i64 k, .slice a l c] ∧ LiesT (fun _ => True) W t (tyV k a l c) ∧ t.size ≤ Rows.uptoBulk d := by
  haveI : Inhabited Ty := ⟨.nd 0 []⟩
  induction N with
  | zero =>
    intro fuel cs d ps hN h
    obtain ⟨xs, n, _, hx, _⟩ := DataW.trod_struct Try.underlying24 h
    simp only [Prod.mk.injEq] at hx
    rw [hx.1] at hN
    simp [Rows.uptoBulk] at hN
  | succ N ih =>
    intro fuel cs d ps hN h
    obtain ⟨xs, f, _, hx, hlen, hxl, hf⟩ := DataW.trod_struct Try.underlying24 h
    rw [cells_ty] at hlen
    match xs, hxl, cs, hlen with
    | [y0, y1], _, [v0, v1], _ =>
      have g0 := hf 0 _ rfl
      have g1 := hf 1 _ rfl
      simp [cells_int, cells_tys] at g0 g1
      obtain ⟨k, e0, x0, i0⟩ := DataW.trod_int Try.underlying3 g0
      simp only [List.cons.injEq, and_true] at e0
      subst e0; subst x0
      simp only [Prod.mk.injEq] at hx
      obtain ⟨rfl, _⟩ := hx
      rcases Go.Deep.open_slice Try.underlying22 g1 with ⟨e4, x4⟩ | ⟨a, len, cap, m, nf, D, Pl, e4, _, hl, hm, hmm, x4, hel⟩
      · simp only [List.cons.injEq, and_true] at e4
        subst e4
        refine ⟨k, none, 0, 0, .nd k [], rfl, liesT_leaf (i64_ofT i0), ?_⟩
        simp [Ty.size, tysizes, Rows.uptoBulk]
      · simp only [List.cons.injEq, and_true] at e4
        subst e4; subst x4
        simp only [if_true] at hmm
        subst hmm
        rw [cells_ty] at hel
        simp only [List.map_cons, List.map_nil, Rows.uptoBulk, Rows.uptoBulkAll] at hN ⊢
        have hbk : ∀ i, i < len → Rows.uptoBulk (D i) ≤ N := fun i hi => by have := bulk_elemT D len i hi; omega
        obtain ⟨q, hq⟩ := Go.Deep.choose_lt (α := Ty × Value) (n := len) (p := fun i x => LiesT (fun _ => True) W x.1 x.2 ∧ x.1.size ≤ Rows.uptoBulk (D i) ∧
            ∃ k a' l c, x.2 = tyV k a' l c ∧ W.cells? 0 (a.add (i * 2)) 2 = some [.int .i64 k, .slice a' l c]) (fun i hi => by
          obtain ⟨cs', h1, h2⟩ := hel i (by omega)
          obtain ⟨k, a', l, c, t, rfl, hL, hs⟩ := ih nf cs' (D i) (Pl i) (hbk i hi) h2
          exact ⟨(t, tyV k a' l c), hL, hs, k, a', l, c, rfl, h1⟩)
        have hargs : ((List.range len).map fun i => (q i).1).length = len := by simp
        have hL := LiesT.mk (ok := fun _ => True) (w := W) (t := k) (args := (List.range len).map fun i => (q i).1) (a := some a) (c := m) (fun i => (q i).2) (by rw [hargs]; omega) (by rw [hargs]; omega) (i64_ofT i0)
          (fun i hi => by
            rw [hargs] at hi
            obtain ⟨_, _, k', a', l', c', hv, hcs⟩ := hq i hi
            obtain ⟨_, _, hcell⟩ := World.cells?_some hcs
            obtain ⟨b, o, sp⟩ := a
            have h0 : sp = none := by
              obtain ⟨_, _, k0, a0, l0, c0, _, hcs0⟩ := hq 0 (by omega)
              obtain ⟨_, _, hcell0⟩ := World.cells?_some hcs0
              have := hcell0 0 (by omega)
              simp [Addr.add] at this
              exact World.cell?_spot this
            subst h0
            have hadd : ∀ x, (⟨b, o, none⟩ : Addr).add x = ⟨b, o + x, none⟩ := fun x => by unfold Addr.add; split <;> simp_all
            rw [hadd] at hcell
            refine ⟨b, o, rfl, trivial, k', a', l', c', hv, ?_, ?_⟩
            · have := hcell 0 (by omega); simpa [Addr.add] using this
            · have := hcell 1 (by omega); simpa [Addr.add] using this)
          (fun i hi => by
            rw [hargs] at hi
            simpa using (hq i hi).1)
        rw [hargs] at hL
        refine ⟨k, some a, len, m, _, rfl, hL, ?_⟩
        have hsz := tysizes_range (fun i => (q i).1) D len (fun i hi => (hq i hi).2.1)
        rw [Ty.size]
        omega

set_option maxRecDepth 100000 in
/-- the argument itself -/
theorem open_argT {H : Type} {enc : TypeId × Value → H} {W : World} {r : Reach} {b0 : Nat} {v : Value} {d : DataW H} {p : List MemPlace} (hv : Value.okWide Try.prog W r b0 24 v) (h : DataW.Trod enc Try.prog W 0 (fun _ => true) true 24 v d p) :
    ∃ t, LiesT (· < W.heap.size) W t v ∧ t.size ≤ Rows.uptoBulk d := by
  obtain ⟨cs, rfl, hsz⟩ := okWide_struct Try.underlying24 hv
  obtain ⟨fuel, hf⟩ := h
  obtain ⟨k, a, l, c, t, e, hL, hs⟩ := open_type _ fuel _ d p (Nat.le_refl _) hf
  have e2 : cs = #[.int .i64 k, .slice a l c] := by
    have : cs.toList = [.int .i64 k, .slice a l c] := by simpa [Value.cells] using e
    apply Array.ext'
    rw [this]
  subst e2
  exact ⟨t, hL.okMono (fun b hb _ => hb), hs⟩

end Go.Proofs.Ytdninmanfncfiad
