/- The row of nodes with depths that the document's own GoodNode keeps: what it holds, and how it is put behind, read and cut. -/
import Derived.Test.YtdninmanfncfiaaLists
import Derived.Laws.OwnMore
namespace Go.Proofs.Ytdninmanfncfiaa
open Go.ChangeShapes Go.WideShapes Go.ChangeAt Go.RowKit
set_option linter.unusedVariables false

theorem info_deep : (Try.prog.info? 54).map (fun i => (i.zero, i.size, i.bytes)) = some (some (.agg #[.int .i64 0, .int .i64 0, .int .i64 0, .string ⟨#[]⟩, .slice none 0 0, .int .i64 0]), 6, 72) := by kernel_rfl

/-- a node with its depth, as it lies in the row -/
structure Dp where
  k : Int
  n : Int
  p : Int
  s : ByteArray
  a : Option Addr
  l : Nat
  c : Nat
  d : Nat

def Dp.cells (x : Dp) : List Value := [.int .i64 x.k, .int .i64 x.n, .int .i64 x.p, .string x.s, .slice x.a x.l x.c, .int .i64 x.d]
def dflat (xs : List Dp) : List Value := xs.flatMap Dp.cells

/-- the slice v is the call's own and holds the nodes xs -/
def OwnsD (B : Nat) (w : World) (v : Value) (xs : List Dp) : Prop := w.ownsRow B 54 6 v xs.length (dflat xs)

theorem dflat_append (a b : List Dp) : dflat (a ++ b) = dflat a ++ dflat b := by simp [dflat]
theorem dflat_cons (x : Dp) (l : List Dp) : dflat (x :: l) = x.cells ++ dflat l := by simp [dflat]

theorem dflat_len : ∀ xs : List Dp, (dflat xs).length = xs.length * 6
  | [] => by simp [dflat]
  | x :: xs => by rw [dflat_cons, List.length_append, dflat_len xs]; simp [Dp.cells]; omega

theorem dflat_one (xs : List Dp) : ∀ u ∈ dflat xs, u.oneCell' = true := by
  intro u hu
  obtain ⟨x, _, hx⟩ := List.mem_flatMap.1 hu
  simp [Dp.cells] at hx
  rcases hx with rfl | rfl | rfl | rfl | rfl | rfl <;> rfl

theorem dflat_get : ∀ (xs : List Dp) (i j : Nat) (x : Dp), xs[i]? = some x → j < 6 → (dflat xs)[i * 6 + j]? = x.cells[j]?
  | [], i, j, x, h, _ => by simp at h
  | y :: xs, 0, j, x, h, hj => by
    simp at h; subst h
    rw [dflat_cons, List.getElem?_append_left (by simp [Dp.cells]; omega)]
    simp
  | y :: xs, i + 1, j, x, h, hj => by
    simp at h
    rw [dflat_cons, List.getElem?_append_right (by simp [Dp.cells]; omega)]
    have e : (i + 1) * 6 + j - y.cells.length = i * 6 + j := by simp [Dp.cells]; omega
    rw [e]
    exact dflat_get xs i j x h hj

/-- an element's cells -/
theorem OwnsD.cell {B : Nat} {w : World} {g n cap : Nat} {xs : List Dp} (h : OwnsD B w (.slice (some ⟨g, 0, none⟩) n cap) xs) (hn : xs.length = n) {i : Nat} {x : Dp} (hx : xs[i]? = some x) :
    w.cell? ⟨g, i * 6, none⟩ = some (.int .i64 x.k) ∧ w.cell? ⟨g, i * 6 + 1, none⟩ = some (.int .i64 x.n) ∧ w.cell? ⟨g, i * 6 + 2, none⟩ = some (.int .i64 x.p) ∧ w.cell? ⟨g, i * 6 + 3, none⟩ = some (.string x.s) ∧ w.cell? ⟨g, i * 6 + 4, none⟩ = some (.slice x.a x.l x.c) ∧ w.cell? ⟨g, i * 6 + 5, none⟩ = some (.int .i64 x.d) := by
  subst hn
  have hi := (List.getElem?_eq_some_iff.1 hx).1
  have key : ∀ j, j < 6 → w.cell? ⟨g, i * 6 + j, none⟩ = x.cells[j]? := fun j hj => by
    rw [World.ownsRow.cellAt h (i * 6 + j) (by omega), dflat_get xs i j x hx hj]
  exact ⟨key 0 (by omega), key 1 (by omega), key 2 (by omega), key 3 (by omega), key 4 (by omega), key 5 (by omega)⟩

/-- a row cut shorter -/
theorem OwnsD.cut {B : Nat} {w : World} {g n cap : Nat} {xs ys : List Dp} (h : OwnsD B w (.slice (some ⟨g, 0, none⟩) n cap) (xs ++ ys)) : OwnsD B w (.slice (some ⟨g, 0, none⟩) xs.length cap) xs := by
  refine ⟨dflat_len xs, ?_⟩
  rcases h.2 with ⟨hx, _⟩ | ⟨g', cap', cur, hx, h1, h2, h3, h4, h5, h6⟩
  · simp at hx
  · simp only [Value.slice.injEq, Option.some.injEq, Addr.mk.injEq, and_true] at hx
    obtain ⟨rfl, hn, rfl⟩ := hx
    rw [List.length_append] at h3 h6
    refine .inr ⟨g, cap, cur, rfl, h1, h2, by omega, h4, h5, ?_⟩
    have h7 := congrArg (List.take (xs.length * 6)) h6
    rw [List.take_take, show min (xs.length * 6) ((xs.length + ys.length) * 6) = xs.length * 6 from by omega, dflat_append, List.take_append_of_le_length (by rw [dflat_len]; exact Nat.le_refl _)] at h7
    rw [h7, List.take_of_length_le (by rw [dflat_len]; exact Nat.le_refl _)]

/-- what is put behind a row of the call's own: the elements ys, which lie at ad -/
theorem appDs {ops : Array Oper} {rest : List Oper} {o : Oper} {a : Act} {Q : Exit → Act → World → Prop} (B : Nat) (xs ys : List Dp) (w0 : World) (v : Value) (hgd : o.guard = none) (s x : Operand)
    (ho : o.op = .call { callee := .builtin .append, args := #[s, x], argTypes := #[55, 55] }) (hs : a.eval s = v) (ad : Addr) (m c : Nat) (hx : a.eval x = .slice (some ad) m c) (hm : ys.length = m) (hm0 : 0 < m)
    (hnews : ∀ j u, (dflat ys)[j]? = some u → w0.cell? (ad.add j) = some u) (hown : OwnsD B w0 v xs) (hB : B ≤ w0.heap.size) (hlen : xs.length + ys.length ≤ 100000000)
    (h : ∀ g cap w', OwnsD B w' (.slice (some ⟨g, 0, none⟩) (xs.length + m) cap) (xs ++ ys) → Gr w0 v w' (.slice (some ⟨g, 0, none⟩) (xs.length + m) cap) → wpList Try.prog ops Q rest (a.put o.dst (.slice (some ⟨g, 0, none⟩) (xs.length + m) cap)) w') :
    wpList Try.prog ops Q (o :: rest) a w0 := by
  obtain ⟨i0, hi, hz0, hz1, hz2⟩ := info_parts info_deep
  subst hm
  refine wpList_append_lies _ hgd s x 55 ho B 54 i0 _ 6 72 Try.underlying55 hi hz0 hz1 hz2 rfl (by decide) v xs.length (dflat xs) hs hown ad ys.length c (dflat ys) hx (dflat_len ys) hnews (dflat_one ys) hm0 ?_ ?_ hB _ rfl ?_
  · unfold maxLen; omega
  · omega
  · intro g cap w' h1 h2 h3 _
    refine h g cap w' ?_ ⟨h2, ?_⟩
    · unfold OwnsD; rw [dflat_append, List.length_append]; exact h1
    · rcases h3 with h3 | h3
      · exact .inl h3.symm
      · exact .inr ⟨g, rfl, by omega⟩

end Go.Proofs.Ytdninmanfncfiaa
