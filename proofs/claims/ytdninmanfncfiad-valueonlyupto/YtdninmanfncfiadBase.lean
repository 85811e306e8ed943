/- What lies in memory: frames, trees; nothing of any one function. -/
import Derived.Test.YtdninmanfncfiadRows
import Derived.WalkKit
import Derived.ProofKit
import Derived.OpenShut
import Derived.Deep.QuietTactic
import Derived.BigQuiet
import Derived.Deep.AppendLies
import Derived.Deep.RegionLaw
namespace Go.Proofs.Ytdninmanfncfiad.Lf
open Go.ChangeShapes Go.WideShapes Go.ChangeAt Go.RowKit

theorem nil_iff (s : ByteArray) : s.toList = [] ↔ s.size = 0 := by
  rw [ByteArray.toList_eq]; exact (List.length_eq_zero_iff (l := s.data.toList)).symm.trans (by rw [Array.length_toList]; rfl)

theorem retb {a b : Bool} {p : Prop} (h : a = b) (hw : p) : Ending.returned (.bool a) = .returned (.bool b) ∧ p := by
  rw [h]; exact ⟨rfl, hw⟩
theorem reti {k : IntKind} {a b : Int} {p : Prop} (h : a = b) (hw : p) : Ending.returned (.int k a) = .returned (.int k b) ∧ p := by
  rw [h]; exact ⟨rfl, hw⟩

theorem hide {p : Prop} (h : p) : Hid p := h

theorem gb {w : World} (o : Obj) : w.grownBy (w.alloc o) none := World.grownBy_alloc w o none

theorem gbt {a b c : World} (h : a.grownBy b none) (k : b.grownBy c none) : a.grownBy c none :=
  ⟨k.os.trans h.os, k.tape.trans h.tape, k.output.trans h.output, Nat.le_trans h.size k.size, fun i hi _ => (k.block i (Nat.lt_of_lt_of_le hi h.size) (by simp)).trans (h.block i hi (by simp))⟩

/-- behind a call that leaves what was there: its cells read as before -/
theorem gcell {w w' : World} (h : w.grownBy w' none) : ∀ b o, b < w.heap.size → w'.cell? ⟨b, o, none⟩ = w.cell? ⟨b, o, none⟩ :=
  fun b o hb => World.cell?_of_block (h.block b hb (by simp))

end Go.Proofs.Ytdninmanfncfiad.Lf

namespace Go.Proofs.Ytdninmanfncfiad
open Go.ChangeShapes Go.WideShapes Go.ChangeAt Go.RowKit

theorem grow_any {a b : World} {r : Option Nat} (h : a.grownBy b none) : a.grownBy b r := ⟨h.os, h.tape, h.output, h.size, fun k hk _ => h.block k hk (by simp)⟩
theorem grow_trans {a b c : World} {r : Option Nat} (h : a.grownBy b r) (k : b.grownBy c r) : a.grownBy c r :=
  ⟨k.os.trans h.os, k.tape.trans h.tape, k.output.trans h.output, Nat.le_trans h.size k.size, fun i hi hr => (k.block i (Nat.lt_of_lt_of_le hi h.size) hr).trans (h.block i hi hr)⟩
theorem grow_refl (a : World) (r : Option Nat) : a.grownBy a r := ⟨rfl, rfl, rfl, Nat.le_refl _, fun _ _ _ => rfl⟩
theorem grow_set {a b : World} {g : Nat} (h : a.grownBy b (some g)) (o : Nat) (sp : Option Nat) (v : Value) : a.grownBy (b.setCell ⟨g, o, sp⟩ v) (some g) :=
  grow_trans h ⟨rfl, rfl, rfl, by simp [World.setCell], fun k hk hr => Below.heap_setCell _ _ _ _ (by simpa using hr)⟩

theorem blk_eq {x : Option Obj} {a b : Int} {T : TypeId} (hx : x = some (.cells #[.int .i64 a] T (0, 0))) (h : a = b) : x = some (.cells #[.int .i64 b] T (0, 0)) := by rw [hx, h]

/-- a tree -/
inductive Tr where
  | nd (k n p : Int) (s : ByteArray) (args : List Tr)

mutual
def Tr.size : Tr → Nat
  | .nd _ _ _ _ args => sizes args + 1
def sizes : List Tr → Nat
  | [] => 0
  | t :: ts => t.size + sizes ts
end

theorem sizes_append (a b : List Tr) : sizes (a ++ b) = sizes a + sizes b := by
  induction a with
  | nil => simp [sizes]
  | cons t ts ih => simp [sizes, ih]; omega

theorem size_pos (t : Tr) : 1 ≤ t.size := by cases t; simp [Tr.size]

theorem sizes_take_succ (l : List Tr) (i : Nat) (h : i < l.length) : sizes (l.take (i + 1)) = sizes (l.take i) + (l[i]).size := by
  rw [List.take_succ_eq_append_getElem h, sizes_append]; simp [sizes]

theorem sizes_take_le (l : List Tr) (i : Nat) : sizes (l.take i) ≤ sizes l := by
  have h := sizes_append (l.take i) (l.drop i)
  rw [List.take_append_drop] at h; omega

theorem length_le_sizes (l : List Tr) : l.length ≤ sizes l := by
  induction l with
  | nil => simp
  | cons t ts ih => have := size_pos t; simp [sizes]; omega

/-- a node's value -/
def nodeV (k n p : Int) (s : ByteArray) (a : Option Addr) (l c : Nat) : Value := .agg #[.int .i64 k, .int .i64 n, .int .i64 p, .string s, .slice a l c]

/-- element i of the slice at a holds the node's value v -/
def NodeAt (ok : Nat → Prop) (w : World) (a : Option Addr) (i : Nat) (v : Value) : Prop :=
  ∃ b o, a = some ⟨b, o, none⟩ ∧ ok b ∧ ∃ k n p s a' l c, v = nodeV k n p s a' l c ∧ w.cell? ⟨b, o + i * 5, none⟩ = some (.int .i64 k) ∧ w.cell? ⟨b, o + i * 5 + 1, none⟩ = some (.int .i64 n) ∧
    w.cell? ⟨b, o + i * 5 + 2, none⟩ = some (.int .i64 p) ∧ w.cell? ⟨b, o + i * 5 + 3, none⟩ = some (.string s) ∧ w.cell? ⟨b, o + i * 5 + 4, none⟩ = some (.slice a' l c)

/-- numbers of 64 bits -/
def I64 (n : Int) : Prop := -9223372036854775808 ≤ n ∧ n ≤ 9223372036854775807

inductive Lies (ok : Nat → Prop) (w : World) : Tr → Value → Prop
  | mk {k n p : Int} {s : ByteArray} {args : List Tr} {a : Option Addr} {c : Nat} (V : Nat → Value) (hl : args.length ≤ maxLen) (hs : s.size ≤ maxLen) (ik : I64 k) (iN : I64 n) (ip : I64 p)
      (hc : ∀ i, i < args.length → NodeAt ok w a i (V i)) (hr : ∀ i (h : i < args.length), Lies ok w args[i] (V i)) : Lies ok w (.nd k n p s args) (nodeV k n p s a args.length c)

/-- the cells that count are as they were -/
def Same (ok : Nat → Prop) (w w' : World) : Prop := ∀ b o, ok b → b < w.heap.size → w'.cell? ⟨b, o, none⟩ = w.cell? ⟨b, o, none⟩

theorem Same.refl (ok : Nat → Prop) (w : World) : Same ok w w := fun _ _ _ _ => rfl

theorem Same.grown {ok : Nat → Prop} {w w1 w2 : World} {row : Option Nat} (h : Same ok w w1) (hz : w.heap.size ≤ w1.heap.size) (g : w1.grownBy w2 row) (hr : ∀ b, ok b → some b ≠ row) : Same ok w w2 :=
  fun b o hb hw => (World.cell?_of_block (w := w1) (g.block b (by show b < _; omega) (hr b hb))).trans (h b o hb hw)

theorem Same.below {B : Nat} {w w1 : World} (h : Below B w w1) : Same (· < B) w w1 := fun b o hb _ => h.cell (p := ⟨b, o, none⟩) hb

theorem NodeAt.same {ok : Nat → Prop} {w w' : World} {a : Option Addr} {i : Nat} {v : Value} (h : NodeAt ok w a i v) (hs : Same ok w w') : NodeAt ok w' a i v := by
  obtain ⟨b, o, ha, hb, k, n, p, s, a', l, c, hv, h0, h1, h2, h3, h4⟩ := h
  have hlt : b < w.heap.size := World.block_lt_of_cell? w _ h0
  exact ⟨b, o, ha, hb, k, n, p, s, a', l, c, hv, (hs _ _ hb hlt).trans h0, (hs _ _ hb hlt).trans h1, (hs _ _ hb hlt).trans h2, (hs _ _ hb hlt).trans h3, (hs _ _ hb hlt).trans h4⟩

theorem Lies.same {ok : Nat → Prop} {w w' : World} {t : Tr} {v : Value} (h : Lies ok w t v) (hs : Same ok w w') : Lies ok w' t v := by
  induction h with
  | mk V hl hS ik iN ip hc _ ih => exact .mk V hl hS ik iN ip (fun i hi => (hc i hi).same hs) ih

theorem Lies.okMono {ok ok' : Nat → Prop} {w : World} {t : Tr} {v : Value} (h : Lies ok w t v) (hm : ∀ b, b < w.heap.size → ok b → ok' b) : Lies ok' w t v := by
  induction h with
  | mk V hl hS ik iN ip hc _ ih =>
    refine .mk V hl hS ik iN ip (fun i hi => ?_) ih
    obtain ⟨b, o, ha, hb, k, n, p, s, a', l, c, hv, h0, h1⟩ := hc i hi
    exact ⟨b, o, ha, hm b (World.block_lt_of_cell? w _ h0) hb, k, n, p, s, a', l, c, hv, h0, h1⟩


/-- what putting something behind vb leaves: nothing old has turned but vb's own row -/
def Gr (w : World) (vb : Value) (w' : World) (v' : Value) : Prop := w.grownBy w' vb.ownBlock ∧ (v'.ownBlock = vb.ownBlock ∨ ∃ g, v'.ownBlock = some g ∧ w.heap.size ≤ g)

theorem Gr.refl (w : World) (v : Value) : Gr w v w v := ⟨grow_refl _ _, .inl rfl⟩

theorem Gr.trans {w w1 w2 : World} {v v1 v2 : Value} (h : Gr w v w1 v1) (k : Gr w1 v1 w2 v2) : Gr w v w2 v2 := by
  obtain ⟨h1, h2⟩ := h
  obtain ⟨k1, k2⟩ := k
  refine ⟨⟨k1.os.trans h1.os, k1.tape.trans h1.tape, k1.output.trans h1.output, Nat.le_trans h1.size k1.size, fun i hi hr => ?_⟩, ?_⟩
  · refine (k1.block i (Nat.lt_of_lt_of_le hi h1.size) ?_).trans (h1.block i hi hr)
    rcases h2 with h2 | ⟨g, h2, hg⟩
    · rw [h2]; exact hr
    · rw [h2]; simp; omega
  · rcases k2 with k2 | ⟨g, k2, hg⟩
    · rcases h2 with h2 | ⟨g, h2, hg⟩
      · exact .inl (k2.trans h2)
      · exact .inr ⟨g, k2.trans h2, hg⟩
    · exact .inr ⟨g, k2, Nat.le_trans h1.size hg⟩

theorem Gr.ofDrew {w w1 : World} {v v1 : Value} (h : Gr w.drew v w1 v1) : Gr w v w1 v1 := ⟨⟨h.1.os, h.1.tape, h.1.output, h.1.size, h.1.block⟩, h.2⟩

theorem Gr.alloc {w w1 : World} {v v1 : Value} (h : Gr w v w1 v1) (o : Obj) : Gr w v (w1.alloc o) v1 := h.trans ⟨World.grownBy_alloc _ _ _, .inl rfl⟩

theorem Gr.block {w w1 : World} {v v1 : Value} (h : Gr w v w1 v1) {k : Nat} (hk : k < w.heap.size) (hne : some k ≠ v.ownBlock) : w1.heap[k]? = w.heap[k]? := h.1.block k hk hne


theorem box5 {w : World} {g : Nat} {T : TypeId} {x0 x1 x2 x3 x4 : Value} (h : w.heap[g]? = some (.cells #[x0, x1, x2, x3, x4] T (0, 0))) :
    w.cell? ⟨g, 0, none⟩ = some x0 ∧ w.cell? ⟨g, 1, none⟩ = some x1 ∧ w.cell? ⟨g, 2, none⟩ = some x2 ∧ w.cell? ⟨g, 3, none⟩ = some x3 ∧ w.cell? ⟨g, 4, none⟩ = some x4 := by
  simp [World.cell?, h]

theorem box5f {w : World} {g : Nat} {T : TypeId} {x0 x1 x2 x3 x4 : Value} (h : w.heap[g]? = some (.cells #[x0, x1, x2, x3, x4] T (0, 0))) :
    w.frozen? ⟨g, 0, none⟩ = false ∧ w.frozen? ⟨g, 1, none⟩ = false ∧ w.frozen? ⟨g, 2, none⟩ = false ∧ w.frozen? ⟨g, 3, none⟩ = false ∧ w.frozen? ⟨g, 4, none⟩ = false := by
  simp [World.frozen?, h]

def set5 (w : World) (g : Nat) (y0 y1 y2 y3 y4 : Value) : World := ((((w.setCell ⟨g, 0, none⟩ y0).setCell ⟨g, 1, none⟩ y1).setCell ⟨g, 2, none⟩ y2).setCell ⟨g, 3, none⟩ y3).setCell ⟨g, 4, none⟩ y4

theorem set5_block {w : World} {g : Nat} {T : TypeId} {x0 x1 x2 x3 x4 : Value} (h : w.heap[g]? = some (.cells #[x0, x1, x2, x3, x4] T (0, 0))) (y0 y1 y2 y3 y4 : Value) :
    (set5 w g y0 y1 y2 y3 y4).heap[g]? = some (.cells #[y0, y1, y2, y3, y4] T (0, 0)) := by
  simp [set5, World.setCell, Array.getElem?_modify, h]

theorem set5_grow (w : World) (g : Nat) (y0 y1 y2 y3 y4 : Value) : w.grownBy (set5 w g y0 y1 y2 y3 y4) (some g) :=
  grow_set (grow_set (grow_set (grow_set (grow_set (grow_refl _ _) _ _ _) _ _ _) _ _ _) _ _ _) _ _ _

theorem set_far {w : World} {g N o : Nat} {ob : Obj} (h : w.heap[g]? = some ob) (hne : g ≠ N) (u : Value) : (w.setCell ⟨N, o, none⟩ u).heap[g]? = some ob := by
  rw [Below.heap_setCell _ _ _ _ hne]; exact h

theorem set_one {w : World} {g : Nat} {T : TypeId} {x0 x1 x2 x3 x4 : Value} (h : w.heap[g]? = some (.cells #[x0, x1, x2, x3, x4] T (0, 0))) (u : Value) :
    (w.setCell ⟨g, 1, none⟩ u).heap[g]? = some (.cells #[x0, u, x2, x3, x4] T (0, 0)) ∧ (w.setCell ⟨g, 2, none⟩ u).heap[g]? = some (.cells #[x0, x1, u, x3, x4] T (0, 0)) ∧
    (w.setCell ⟨g, 3, none⟩ u).heap[g]? = some (.cells #[x0, x1, x2, u, x4] T (0, 0)) ∧ (w.setCell ⟨g, 4, none⟩ u).heap[g]? = some (.cells #[x0, x1, x2, x3, u] T (0, 0)) := by
  simp [World.setCell, Array.getElem?_modify, h]

/-- a block that was not there ahead of the call counts for nothing -/
theorem grow_new {w w2 w3 : World} {r : Option Nat} {g : Nat} (h : w.grownBy w2 r) (k : w2.grownBy w3 (some g)) (hg : w.heap.size ≤ g) : w.grownBy w3 r :=
  ⟨k.os.trans h.os, k.tape.trans h.tape, k.output.trans h.output, Nat.le_trans h.size k.size, fun i hi hr => (k.block i (Nat.lt_of_lt_of_le hi h.size) (by simp; omega)).trans (h.block i hi hr)⟩

theorem res_new (w : World) (o o' : Obj) : ((w.alloc o).alloc o').heap[w.heap.size]? = some o := by
  rw [heap_alloc_old (h := by simp)]; exact heap_alloc_new _ _

theorem grow_drew {w w' : World} {r : Option Nat} (h : w.grownBy w' r) : w.grownBy w'.drew r := ⟨h.os, h.tape, h.output, h.size, h.block⟩

theorem grow_drewN {w w' : World} {r : Option Nat} {n : Nat} (h : w.grownBy w' r) : w.grownBy (w'.drewN n) r := ⟨h.os, h.tape, h.output, h.size, h.block⟩

theorem cell0_of {w : World} {b : Nat} {x y : Value} {t : TypeId} (h : w.heap[b]? = some (.cells #[x, y] t (0, 0))) : w.cell? ⟨b, 0, none⟩ = some x := by simp [World.cell?, h]

theorem cell1_of {w : World} {b : Nat} {x y : Value} {t : TypeId} (h : w.heap[b]? = some (.cells #[x, y] t (0, 0))) : w.cell? ⟨b, 1, none⟩ = some y := by simp [World.cell?, h]

theorem free2_of {w : World} {b : Nat} {x y : Value} {T : TypeId} (h : w.heap[b]? = some (.cells #[x, y] T (0, 0))) : ∀ o, w.frozen? ⟨b, o, none⟩ = false := by intro o; simp [World.frozen?, h]

theorem heap_keep {w : World} {k : Nat} {o x : Obj} (h : w.heap[k]? = some x) : (w.alloc o).heap[k]? = some x := by
  rw [heap_alloc_old (h := (Array.getElem?_eq_some_iff.1 h).1)]; exact h

theorem set_size (w : World) (p : Addr) (v : Value) : (w.setCell p v).heap.size = w.heap.size := by simp

end Go.Proofs.Ytdninmanfncfiad
