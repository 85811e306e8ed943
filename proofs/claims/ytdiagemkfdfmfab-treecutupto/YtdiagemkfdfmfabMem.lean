/- Trees as plain data, and what it is that a tree lies in memory. -/
import Derived.Test.YtdiagemkfdfmfabLeaf
namespace Go.Proofs.Ytdiagemkfdfmfab
open Go.ChangeShapes Go.WideShapes Go.ChangeAt Go.RowKit

/-- a tree -/
inductive Tr where
  | nd (k n p : Int) (s : ByteArray) (args : List Tr)

mutual
def Tr.size : Tr → Nat
  | .nd _ _ _ _ args => sizes args + 1
def sizes : List Tr → Nat
  | [] => 0
  | t :: ts => t.size + sizes ts
end

mutual
/-- what is wrong with the first node that something is wrong with, the first node being d deep -/
def firstW (d : Nat) : Tr → Int
  | .nd k n p s args => if 24 < d then 4 else if Lf.wrongF k n p s args.length ≠ 0 then Lf.wrongF k n p s args.length else firstWs (d + 1) args
def firstWs (d : Nat) : List Tr → Int
  | [] => 0
  | t :: ts => if firstW d t ≠ 0 then firstW d t else firstWs d ts
end

def goodF (t : Tr) : Int := if firstW 1 t ≠ 0 then firstW 1 t else if 300 < t.size then 4 else 0

theorem sizes_append (a b : List Tr) : sizes (a ++ b) = sizes a + sizes b := by
  induction a with
  | nil => simp [sizes]
  | cons t ts ih => simp [sizes, ih]; omega

theorem size_pos (t : Tr) : 1 ≤ t.size := by cases t; simp [Tr.size]

theorem sizes_take_succ (l : List Tr) (i : Nat) (h : i < l.length) : sizes (l.take (i + 1)) = sizes (l.take i) + (l[i]).size := by
  rw [List.take_succ_eq_append_getElem h, sizes_append]; simp [sizes]

theorem sizes_take_le (l : List Tr) (i : Nat) : sizes (l.take i) ≤ sizes l := by
  have h := sizes_append (l.take i) (l.drop i)
  rw [List.take_append_drop] at h; omega

theorem length_le_sizes (l : List Tr) : l.length ≤ sizes l := by
  induction l with
  | nil => simp
  | cons t ts ih => have := size_pos t; simp [sizes]; omega

theorem firstWs_take_succ {d : Nat} {l : List Tr} {i : Nat} (h : i < l.length) (h0 : firstWs d (l.take i) = 0) : firstWs d (l.take (i + 1)) = firstW d l[i] := by
  induction l generalizing i with
  | nil => simp at h
  | cons t ts ih =>
    cases i with
    | zero => simp [firstWs]; exact fun h => h.symm
    | succ i =>
      simp only [List.take_succ_cons, firstWs] at h0 ⊢
      by_cases ht : firstW d t = 0
      · simp [ht] at h0 ⊢; exact ih (by simpa using h) h0
      · simp [ht] at h0

theorem firstWs_of_take {d : Nat} {l : List Tr} {i : Nat} (h : firstWs d (l.take i) ≠ 0) : firstWs d l = firstWs d (l.take i) := by
  induction l generalizing i with
  | nil => simp
  | cons t ts ih =>
    cases i with
    | zero => simp [firstWs] at h
    | succ i =>
      simp only [List.take_succ_cons, firstWs] at h ⊢
      by_cases ht : firstW d t = 0
      · simp [ht] at h ⊢; exact ih h
      · simp [ht]

/-- a node's value -/
def nodeV (k n p : Int) (s : ByteArray) (a : Option Addr) (l c : Nat) : Value := .agg #[.int .i64 k, .int .i64 n, .int .i64 p, .string s, .slice a l c]

/-- element i of the slice at a holds the node's value v -/
def NodeAt (ok : Nat → Prop) (w : World) (a : Option Addr) (i : Nat) (v : Value) : Prop :=
  ∃ b o, a = some ⟨b, o, none⟩ ∧ ok b ∧ ∃ k n p s a' l c, v = nodeV k n p s a' l c ∧ w.cell? ⟨b, o + i * 5, none⟩ = some (.int .i64 k) ∧ w.cell? ⟨b, o + i * 5 + 1, none⟩ = some (.int .i64 n) ∧
    w.cell? ⟨b, o + i * 5 + 2, none⟩ = some (.int .i64 p) ∧ w.cell? ⟨b, o + i * 5 + 3, none⟩ = some (.string s) ∧ w.cell? ⟨b, o + i * 5 + 4, none⟩ = some (.slice a' l c)

/-- numbers of 64 bits -/
def I64 (n : Int) : Prop := -9223372036854775808 ≤ n ∧ n ≤ 9223372036854775807

inductive Lies (ok : Nat → Prop) (w : World) : Tr → Value → Prop
  | mk {k n p : Int} {s : ByteArray} {args : List Tr} {a : Option Addr} {c : Nat} (V : Nat → Value) (hl : args.length ≤ maxLen) (hs : s.size ≤ maxLen) (ik : I64 k) (iN : I64 n) (ip : I64 p)
      (hc : ∀ i, i < args.length → NodeAt ok w a i (V i)) (hr : ∀ i (h : i < args.length), Lies ok w args[i] (V i)) : Lies ok w (.nd k n p s args) (nodeV k n p s a args.length c)

/-- the cells that count are as they were -/
def Same (ok : Nat → Prop) (w w' : World) : Prop := ∀ b o, ok b → b < w.heap.size → w'.cell? ⟨b, o, none⟩ = w.cell? ⟨b, o, none⟩

theorem Same.refl (ok : Nat → Prop) (w : World) : Same ok w w := fun _ _ _ _ => rfl

theorem Same.grown {ok : Nat → Prop} {w w1 w2 : World} {row : Option Nat} (h : Same ok w w1) (hz : w.heap.size ≤ w1.heap.size) (g : w1.grownBy w2 row) (hr : ∀ b, ok b → some b ≠ row) : Same ok w w2 :=
  fun b o hb hw => (World.cell?_of_block (w := w1) (g.block b (by show b < _; omega) (hr b hb))).trans (h b o hb hw)

theorem Same.below {B : Nat} {w w1 : World} (h : Below B w w1) : Same (· < B) w w1 := fun b o hb _ => h.cell (p := ⟨b, o, none⟩) hb

theorem NodeAt.same {ok : Nat → Prop} {w w' : World} {a : Option Addr} {i : Nat} {v : Value} (h : NodeAt ok w a i v) (hs : Same ok w w') : NodeAt ok w' a i v := by
  obtain ⟨b, o, ha, hb, k, n, p, s, a', l, c, hv, h0, h1, h2, h3, h4⟩ := h
  have hlt : b < w.heap.size := World.block_lt_of_cell? w _ h0
  exact ⟨b, o, ha, hb, k, n, p, s, a', l, c, hv, (hs _ _ hb hlt).trans h0, (hs _ _ hb hlt).trans h1, (hs _ _ hb hlt).trans h2, (hs _ _ hb hlt).trans h3, (hs _ _ hb hlt).trans h4⟩

theorem Lies.same {ok : Nat → Prop} {w w' : World} {t : Tr} {v : Value} (h : Lies ok w t v) (hs : Same ok w w') : Lies ok w' t v := by
  induction h with
  | mk V hl hS ik iN ip hc _ ih => exact .mk V hl hS ik iN ip (fun i hi => (hc i hi).same hs) ih

theorem Lies.okMono {ok ok' : Nat → Prop} {w : World} {t : Tr} {v : Value} (h : Lies ok w t v) (hm : ∀ b, b < w.heap.size → ok b → ok' b) : Lies ok' w t v := by
  induction h with
  | mk V hl hS ik iN ip hc _ ih =>
    refine .mk V hl hS ik iN ip (fun i hi => ?_) ih
    obtain ⟨b, o, ha, hb, k, n, p, s, a', l, c, hv, h0, h1⟩ := hc i hi
    exact ⟨b, o, ha, hm b (World.block_lt_of_cell? w _ h0) hb, k, n, p, s, a', l, c, hv, h0, h1⟩

end Go.Proofs.Ytdiagemkfdfmfab
