/- What lies in memory: frames, trees; nothing of any one function. -/
import Derived.Test.YtmmgihaoahhkjaaRows
import Derived.WalkKit
import Derived.ProofKit
import Derived.OpenShut
import Derived.Deep.QuietTactic
import Derived.BigQuiet
import Derived.Deep.AppendLies
import Derived.Deep.RegionLaw
import Derived.Maps.AppendAt
import Derived.Lib.Mul64
import Derived.Laws.Bits64b
import Derived.Laws.CopyRow
import Derived.Laws.MakeOwn
import Derived.Laws.OwnMore
import Derived.Deep.RegionHeld3
import Derived.Deep.DeepCutAuto
namespace Go.Proofs.Ytmmgihaoahhkjaa.Lf
open Go.ChangeShapes Go.WideShapes Go.ChangeAt Go.RowKit

theorem nil_iff (s : ByteArray) : s.toList = [] ↔ s.size = 0 := by
  rw [ByteArray.toList_eq]; exact (List.length_eq_zero_iff (l := s.data.toList)).symm.trans (by rw [Array.length_toList]; rfl)

theorem retb {a b : Bool} {p : Prop} (h : a = b) (hw : p) : Ending.returned (.bool a) = .returned (.bool b) ∧ p := by
  rw [h]; exact ⟨rfl, hw⟩
theorem reti {k : IntKind} {a b : Int} {p : Prop} (h : a = b) (hw : p) : Ending.returned (.int k a) = .returned (.int k b) ∧ p := by
  rw [h]; exact ⟨rfl, hw⟩

theorem hide {p : Prop} (h : p) : Hid p := h

theorem gb {w : World} (o : Obj) : w.grownBy (w.alloc o) none := World.grownBy_alloc w o none

theorem gbt {a b c : World} (h : a.grownBy b none) (k : b.grownBy c none) : a.grownBy c none :=
  ⟨k.os.trans h.os, k.tape.trans h.tape, k.output.trans h.output, Nat.le_trans h.size k.size, fun i hi _ => (k.block i (Nat.lt_of_lt_of_le hi h.size) (by simp)).trans (h.block i hi (by simp))⟩

/-- behind a call that leaves what was there: its cells read as before -/
theorem gcell {w w' : World} (h : w.grownBy w' none) : ∀ b o, b < w.heap.size → w'.cell? ⟨b, o, none⟩ = w.cell? ⟨b, o, none⟩ :=
  fun b o hb => World.cell?_of_block (h.block b hb (by simp))

end Go.Proofs.Ytmmgihaoahhkjaa.Lf

namespace Go.Proofs.Ytmmgihaoahhkjaa
open Go.ChangeShapes Go.WideShapes Go.ChangeAt Go.RowKit

theorem grow_any {a b : World} {r : Option Nat} (h : a.grownBy b none) : a.grownBy b r := ⟨h.os, h.tape, h.output, h.size, fun k hk _ => h.block k hk (by simp)⟩
theorem grow_trans {a b c : World} {r : Option Nat} (h : a.grownBy b r) (k : b.grownBy c r) : a.grownBy c r :=
  ⟨k.os.trans h.os, k.tape.trans h.tape, k.output.trans h.output, Nat.le_trans h.size k.size, fun i hi hr => (k.block i (Nat.lt_of_lt_of_le hi h.size) hr).trans (h.block i hi hr)⟩
theorem grow_refl (a : World) (r : Option Nat) : a.grownBy a r := ⟨rfl, rfl, rfl, Nat.le_refl _, fun _ _ _ => rfl⟩
theorem grow_set {a b : World} {g : Nat} (h : a.grownBy b (some g)) (o : Nat) (sp : Option Nat) (v : Value) : a.grownBy (b.setCell ⟨g, o, sp⟩ v) (some g) :=
  grow_trans h ⟨rfl, rfl, rfl, by simp [World.setCell], fun k hk hr => Below.heap_setCell _ _ _ _ (by simpa using hr)⟩

theorem blk_eq {x : Option Obj} {a b : Int} {T : TypeId} (hx : x = some (.cells #[.int .i64 a] T (0, 0))) (h : a = b) : x = some (.cells #[.int .i64 b] T (0, 0)) := by rw [hx, h]

/-- a tree -/
inductive Tr where
  | nd (k n p : Int) (s : ByteArray) (args : List Tr)

mutual
def Tr.size : Tr → Nat
  | .nd _ _ _ _ args => sizes args + 1
def sizes : List Tr → Nat
  | [] => 0
  | t :: ts => t.size + sizes ts
end

theorem sizes_append (a b : List Tr) : sizes (a ++ b) = sizes a + sizes b := by
  induction a with
  | nil => simp [sizes]
  | cons t ts ih => simp [sizes, ih]; omega

theorem size_pos (t : Tr) : 1 ≤ t.size := by cases t; simp [Tr.size]

theorem sizes_take_succ (l : List Tr) (i : Nat) (h : i < l.length) : sizes (l.take (i + 1)) = sizes (l.take i) + (l[i]).size := by
  rw [List.take_succ_eq_append_getElem h, sizes_append]; simp [sizes]

theorem sizes_take_le (l : List Tr) (i : Nat) : sizes (l.take i) ≤ sizes l := by
  have h := sizes_append (l.take i) (l.drop i)
  rw [List.take_append_drop] at h; omega

theorem length_le_sizes (l : List Tr) : l.length ≤ sizes l := by
  induction l with
  | nil => simp
  | cons t ts ih => have := size_pos t; simp [sizes]; omega

/-- a node's value -/
def nodeV (k n p : Int) (s : ByteArray) (a : Option Addr) (l c : Nat) : Value := .agg #[.int .i64 k, .int .i64 n, .int .i64 p, .string s, .slice a l c]

/-- element i of the slice at a holds the node's value v -/
def NodeAt (ok : Nat → Prop) (w : World) (a : Option Addr) (i : Nat) (v : Value) : Prop :=
  ∃ b o, a = some ⟨b, o, none⟩ ∧ ok b ∧ ∃ k n p s a' l c, v = nodeV k n p s a' l c ∧ w.cell? ⟨b, o + i * 5, none⟩ = some (.int .i64 k) ∧ w.cell? ⟨b, o + i * 5 + 1, none⟩ = some (.int .i64 n) ∧
    w.cell? ⟨b, o + i * 5 + 2, none⟩ = some (.int .i64 p) ∧ w.cell? ⟨b, o + i * 5 + 3, none⟩ = some (.string s) ∧ w.cell? ⟨b, o + i * 5 + 4, none⟩ = some (.slice a' l c)

/-- numbers of 64 bits -/
def I64 (n : Int) : Prop := -9223372036854775808 ≤ n ∧ n ≤ 9223372036854775807

inductive Lies (ok : Nat → Prop) (w : World) : Tr → Value → Prop
  | mk {k n p : Int} {s : ByteArray} {args : List Tr} {a : Option Addr} {c : Nat} (V : Nat → Value) (hl : args.length ≤ maxLen) (hs : s.size ≤ maxLen) (ik : I64 k) (iN : I64 n) (ip : I64 p)
      (hc : ∀ i, i < args.length → NodeAt ok w a i (V i)) (hr : ∀ i (h : i < args.length), Lies ok w args[i] (V i)) : Lies ok w (.nd k n p s args) (nodeV k n p s a args.length c)

/-- the cells that count are as they were -/
def Same (ok : Nat → Prop) (w w' : World) : Prop := ∀ b o, ok b → b < w.heap.size → w'.cell? ⟨b, o, none⟩ = w.cell? ⟨b, o, none⟩

theorem Same.refl (ok : Nat → Prop) (w : World) : Same ok w w := fun _ _ _ _ => rfl

theorem Same.grown {ok : Nat → Prop} {w w1 w2 : World} {row : Option Nat} (h : Same ok w w1) (hz : w.heap.size ≤ w1.heap.size) (g : w1.grownBy w2 row) (hr : ∀ b, ok b → some b ≠ row) : Same ok w w2 :=
  fun b o hb hw => (World.cell?_of_block (w := w1) (g.block b (by show b < _; omega) (hr b hb))).trans (h b o hb hw)

theorem Same.below {B : Nat} {w w1 : World} (h : Below B w w1) : Same (· < B) w w1 := fun b o hb _ => h.cell (p := ⟨b, o, none⟩) hb

theorem NodeAt.same {ok : Nat → Prop} {w w' : World} {a : Option Addr} {i : Nat} {v : Value} (h : NodeAt ok w a i v) (hs : Same ok w w') : NodeAt ok w' a i v := by
  obtain ⟨b, o, ha, hb, k, n, p, s, a', l, c, hv, h0, h1, h2, h3, h4⟩ := h
  have hlt : b < w.heap.size := World.block_lt_of_cell? w _ h0
  exact ⟨b, o, ha, hb, k, n, p, s, a', l, c, hv, (hs _ _ hb hlt).trans h0, (hs _ _ hb hlt).trans h1, (hs _ _ hb hlt).trans h2, (hs _ _ hb hlt).trans h3, (hs _ _ hb hlt).trans h4⟩

theorem Lies.same {ok : Nat → Prop} {w w' : World} {t : Tr} {v : Value} (h : Lies ok w t v) (hs : Same ok w w') : Lies ok w' t v := by
  induction h with
  | mk V hl hS ik iN ip hc _ ih => exact .mk V hl hS ik iN ip (fun i hi => (hc i hi).same hs) ih

theorem Lies.okMono {ok ok' : Nat → Prop} {w : World} {t : Tr} {v : Value} (h : Lies ok w t v) (hm : ∀ b, b < w.heap.size → ok b → ok' b) : Lies ok' w t v := by
  induction h with
  | mk V hl hS ik iN ip hc _ ih =>
    refine .mk V hl hS ik iN ip (fun i hi => ?_) ih
    obtain ⟨b, o, ha, hb, k, n, p, s, a', l, c, hv, h0, h1⟩ := hc i hi
    exact ⟨b, o, ha, hm b (World.block_lt_of_cell? w _ h0) hb, k, n, p, s, a', l, c, hv, h0, h1⟩


/-- what putting something behind vb leaves: nothing old has turned but vb's own row -/
def Gr (w : World) (vb : Value) (w' : World) (v' : Value) : Prop := w.grownBy w' vb.ownBlock ∧ (v'.ownBlock = vb.ownBlock ∨ ∃ g, v'.ownBlock = some g ∧ w.heap.size ≤ g)

theorem Gr.refl (w : World) (v : Value) : Gr w v w v := ⟨grow_refl _ _, .inl rfl⟩

theorem Gr.trans {w w1 w2 : World} {v v1 v2 : Value} (h : Gr w v w1 v1) (k : Gr w1 v1 w2 v2) : Gr w v w2 v2 := by
  obtain ⟨h1, h2⟩ := h
  obtain ⟨k1, k2⟩ := k
  refine ⟨⟨k1.os.trans h1.os, k1.tape.trans h1.tape, k1.output.trans h1.output, Nat.le_trans h1.size k1.size, fun i hi hr => ?_⟩, ?_⟩
  · refine (k1.block i (Nat.lt_of_lt_of_le hi h1.size) ?_).trans (h1.block i hi hr)
    rcases h2 with h2 | ⟨g, h2, hg⟩
    · rw [h2]; exact hr
    · rw [h2]; simp; omega
  · rcases k2 with k2 | ⟨g, k2, hg⟩
    · rcases h2 with h2 | ⟨g, h2, hg⟩
      · exact .inl (k2.trans h2)
      · exact .inr ⟨g, k2.trans h2, hg⟩
    · exact .inr ⟨g, k2, Nat.le_trans h1.size hg⟩

theorem Gr.ofDrew {w w1 : World} {v v1 : Value} (h : Gr w.drew v w1 v1) : Gr w v w1 v1 := ⟨⟨h.1.os, h.1.tape, h.1.output, h.1.size, h.1.block⟩, h.2⟩

theorem Gr.alloc {w w1 : World} {v v1 : Value} (h : Gr w v w1 v1) (o : Obj) : Gr w v (w1.alloc o) v1 := h.trans ⟨World.grownBy_alloc _ _ _, .inl rfl⟩

theorem Gr.block {w w1 : World} {v v1 : Value} (h : Gr w v w1 v1) {k : Nat} (hk : k < w.heap.size) (hne : some k ≠ v.ownBlock) : w1.heap[k]? = w.heap[k]? := h.1.block k hk hne


theorem box5 {w : World} {g : Nat} {T : TypeId} {x0 x1 x2 x3 x4 : Value} (h : w.heap[g]? = some (.cells #[x0, x1, x2, x3, x4] T (0, 0))) :
    w.cell? ⟨g, 0, none⟩ = some x0 ∧ w.cell? ⟨g, 1, none⟩ = some x1 ∧ w.cell? ⟨g, 2, none⟩ = some x2 ∧ w.cell? ⟨g, 3, none⟩ = some x3 ∧ w.cell? ⟨g, 4, none⟩ = some x4 := by
  simp [World.cell?, h]

theorem box5f {w : World} {g : Nat} {T : TypeId} {x0 x1 x2 x3 x4 : Value} (h : w.heap[g]? = some (.cells #[x0, x1, x2, x3, x4] T (0, 0))) :
    w.frozen? ⟨g, 0, none⟩ = false ∧ w.frozen? ⟨g, 1, none⟩ = false ∧ w.frozen? ⟨g, 2, none⟩ = false ∧ w.frozen? ⟨g, 3, none⟩ = false ∧ w.frozen? ⟨g, 4, none⟩ = false := by
  simp [World.frozen?, h]

def set5 (w : World) (g : Nat) (y0 y1 y2 y3 y4 : Value) : World := ((((w.setCell ⟨g, 0, none⟩ y0).setCell ⟨g, 1, none⟩ y1).setCell ⟨g, 2, none⟩ y2).setCell ⟨g, 3, none⟩ y3).setCell ⟨g, 4, none⟩ y4

theorem set5_block {w : World} {g : Nat} {T : TypeId} {x0 x1 x2 x3 x4 : Value} (h : w.heap[g]? = some (.cells #[x0, x1, x2, x3, x4] T (0, 0))) (y0 y1 y2 y3 y4 : Value) :
    (set5 w g y0 y1 y2 y3 y4).heap[g]? = some (.cells #[y0, y1, y2, y3, y4] T (0, 0)) := by
  simp [set5, World.setCell, Array.getElem?_modify, h]

theorem set5_grow (w : World) (g : Nat) (y0 y1 y2 y3 y4 : Value) : w.grownBy (set5 w g y0 y1 y2 y3 y4) (some g) :=
  grow_set (grow_set (grow_set (grow_set (grow_set (grow_refl _ _) _ _ _) _ _ _) _ _ _) _ _ _) _ _ _

theorem set_far {w : World} {g N o : Nat} {ob : Obj} (h : w.heap[g]? = some ob) (hne : g ≠ N) (u : Value) : (w.setCell ⟨N, o, none⟩ u).heap[g]? = some ob := by
  rw [Below.heap_setCell _ _ _ _ hne]; exact h

theorem set_one {w : World} {g : Nat} {T : TypeId} {x0 x1 x2 x3 x4 : Value} (h : w.heap[g]? = some (.cells #[x0, x1, x2, x3, x4] T (0, 0))) (u : Value) :
    (w.setCell ⟨g, 1, none⟩ u).heap[g]? = some (.cells #[x0, u, x2, x3, x4] T (0, 0)) ∧ (w.setCell ⟨g, 2, none⟩ u).heap[g]? = some (.cells #[x0, x1, u, x3, x4] T (0, 0)) ∧
    (w.setCell ⟨g, 3, none⟩ u).heap[g]? = some (.cells #[x0, x1, x2, u, x4] T (0, 0)) ∧ (w.setCell ⟨g, 4, none⟩ u).heap[g]? = some (.cells #[x0, x1, x2, x3, u] T (0, 0)) := by
  simp [World.setCell, Array.getElem?_modify, h]

/-- a block that was not there ahead of the call counts for nothing -/
theorem grow_new {w w2 w3 : World} {r : Option Nat} {g : Nat} (h : w.grownBy w2 r) (k : w2.grownBy w3 (some g)) (hg : w.heap.size ≤ g) : w.grownBy w3 r :=
  ⟨k.os.trans h.os, k.tape.trans h.tape, k.output.trans h.output, Nat.le_trans h.size k.size, fun i hi hr => (k.block i (Nat.lt_of_lt_of_le hi h.size) (by simp; omega)).trans (h.block i hi hr)⟩

theorem res_new (w : World) (o o' : Obj) : ((w.alloc o).alloc o').heap[w.heap.size]? = some o := by
  rw [heap_alloc_old (h := by simp)]; exact heap_alloc_new _ _

theorem grow_drew {w w' : World} {r : Option Nat} (h : w.grownBy w' r) : w.grownBy w'.drew r := ⟨h.os, h.tape, h.output, h.size, h.block⟩

theorem grow_drewN {w w' : World} {r : Option Nat} {n : Nat} (h : w.grownBy w' r) : w.grownBy (w'.drewN n) r := ⟨h.os, h.tape, h.output, h.size, h.block⟩

theorem cell0_of {w : World} {b : Nat} {x y : Value} {t : TypeId} (h : w.heap[b]? = some (.cells #[x, y] t (0, 0))) : w.cell? ⟨b, 0, none⟩ = some x := by simp [World.cell?, h]

theorem cell1_of {w : World} {b : Nat} {x y : Value} {t : TypeId} (h : w.heap[b]? = some (.cells #[x, y] t (0, 0))) : w.cell? ⟨b, 1, none⟩ = some y := by simp [World.cell?, h]

theorem free2_of {w : World} {b : Nat} {x y : Value} {T : TypeId} (h : w.heap[b]? = some (.cells #[x, y] T (0, 0))) : ∀ o, w.frozen? ⟨b, o, none⟩ = false := by intro o; simp [World.frozen?, h]

theorem heap_keep {w : World} {k : Nat} {o x : Obj} (h : w.heap[k]? = some x) : (w.alloc o).heap[k]? = some x := by
  rw [heap_alloc_old (h := (Array.getElem?_eq_some_iff.1 h).1)]; exact h

theorem set_size (w : World) (p : Addr) (v : Value) : (w.setCell p v).heap.size = w.heap.size := by simp

end Go.Proofs.Ytmmgihaoahhkjaa

/- Types as plain data, and what it is that a type lies in memory. -/
namespace Go.Proofs.Ytmmgihaoahhkjaa
open Go.ChangeShapes Go.WideShapes Go.ChangeAt Go.RowKit

/-- a type -/
inductive Ty where
  | nd (t : Int) (args : List Ty)

def Ty.t : Ty → Int
  | .nd t _ => t
def Ty.args : Ty → List Ty
  | .nd _ l => l

mutual
def Ty.size : Ty → Nat
  | .nd _ args => tysizes args + 1
def tysizes : List Ty → Nat
  | [] => 0
  | t :: ts => t.size + tysizes ts
end

theorem tysizes_append (a b : List Ty) : tysizes (a ++ b) = tysizes a + tysizes b := by
  induction a with
  | nil => simp [tysizes]
  | cons t ts ih => simp [tysizes, ih]; omega

theorem tysize_pos (t : Ty) : 1 ≤ t.size := by cases t; simp [Ty.size]

theorem tysizes_take_succ (l : List Ty) (i : Nat) (h : i < l.length) : tysizes (l.take (i + 1)) = tysizes (l.take i) + (l[i]).size := by
  rw [List.take_succ_eq_append_getElem h, tysizes_append]; simp [tysizes]

theorem tysizes_take_le (l : List Ty) (i : Nat) : tysizes (l.take i) ≤ tysizes l := by
  have h := tysizes_append (l.take i) (l.drop i)
  rw [List.take_append_drop] at h; omega

theorem tylength_le (l : List Ty) : l.length ≤ tysizes l := by
  induction l with
  | nil => simp
  | cons t ts ih => have := tysize_pos t; simp [tysizes]; omega

theorem tysize_mem {l : List Ty} {x : Ty} (h : x ∈ l) : x.size ≤ tysizes l := by
  induction l with
  | nil => simp at h
  | cons t ts ih =>
    simp [tysizes]
    rcases List.mem_cons.1 h with rfl | h
    · omega
    · have := ih h; omega

/-- a type's value -/
def tyV (t : Int) (a : Option Addr) (l c : Nat) : Value := .agg #[.int .i64 t, .slice a l c]

/-- element i of the slice at a holds the type's value v -/
def TyAt (ok : Nat → Prop) (w : World) (a : Option Addr) (i : Nat) (v : Value) : Prop :=
  ∃ b o, a = some ⟨b, o, none⟩ ∧ ok b ∧ ∃ t a' l c, v = tyV t a' l c ∧ w.cell? ⟨b, o + i * 2, none⟩ = some (.int .i64 t) ∧ w.cell? ⟨b, o + i * 2 + 1, none⟩ = some (.slice a' l c)

inductive LiesT (ok : Nat → Prop) (w : World) : Ty → Value → Prop
  | mk {t : Int} {args : List Ty} {a : Option Addr} {c : Nat} (V : Nat → Value) (hl : args.length ≤ maxLen) (hlc : args.length ≤ c) (it : I64 t)
      (hc : ∀ i, i < args.length → TyAt ok w a i (V i)) (hr : ∀ i (h : i < args.length), LiesT ok w args[i] (V i)) : LiesT ok w (.nd t args) (tyV t a args.length c)

/-- a list of types lies in memory -/
def RowT (ok : Nat → Prop) (w : World) (ts : List Ty) (a : Option Addr) (V : Nat → Value) : Prop :=
  ts.length ≤ maxLen ∧ (∀ i, i < ts.length → TyAt ok w a i (V i)) ∧ ∀ i (h : i < ts.length), LiesT ok w ts[i] (V i)

theorem TyAt.same {ok : Nat → Prop} {w w' : World} {a : Option Addr} {i : Nat} {v : Value} (h : TyAt ok w a i v) (hs : Same ok w w') : TyAt ok w' a i v := by
  obtain ⟨b, o, ha, hb, t, a', l, c, hv, h0, h1⟩ := h
  have hlt : b < w.heap.size := World.block_lt_of_cell? w _ h0
  exact ⟨b, o, ha, hb, t, a', l, c, hv, (hs _ _ hb hlt).trans h0, (hs _ _ hb hlt).trans h1⟩

theorem TyAt.okMono {ok ok' : Nat → Prop} {w : World} {a : Option Addr} {i : Nat} {v : Value} (h : TyAt ok w a i v) (hm : ∀ b, b < w.heap.size → ok b → ok' b) : TyAt ok' w a i v := by
  obtain ⟨b, o, ha, hb, t, a', l, c, hv, h0, h1⟩ := h
  exact ⟨b, o, ha, hm b (World.block_lt_of_cell? w _ h0) hb, t, a', l, c, hv, h0, h1⟩

theorem LiesT.same {ok : Nat → Prop} {w w' : World} {t : Ty} {v : Value} (h : LiesT ok w t v) (hs : Same ok w w') : LiesT ok w' t v := by
  induction h with
  | mk V hl hlc it hc _ ih => exact .mk V hl hlc it (fun i hi => (hc i hi).same hs) ih

theorem LiesT.okMono {ok ok' : Nat → Prop} {w : World} {t : Ty} {v : Value} (h : LiesT ok w t v) (hm : ∀ b, b < w.heap.size → ok b → ok' b) : LiesT ok' w t v := by
  induction h with
  | mk V hl hlc it hc _ ih => exact .mk V hl hlc it (fun i hi => (hc i hi).okMono hm) ih

theorem RowT.same {ok : Nat → Prop} {w w' : World} {ts : List Ty} {a : Option Addr} {V : Nat → Value} (h : RowT ok w ts a V) (hs : Same ok w w') : RowT ok w' ts a V :=
  ⟨h.1, fun i hi => (h.2.1 i hi).same hs, fun i hi => (h.2.2 i hi).same hs⟩

theorem RowT.okMono {ok ok' : Nat → Prop} {w : World} {ts : List Ty} {a : Option Addr} {V : Nat → Value} (h : RowT ok w ts a V) (hm : ∀ b, b < w.heap.size → ok b → ok' b) : RowT ok' w ts a V :=
  ⟨h.1, fun i hi => (h.2.1 i hi).okMono hm, fun i hi => (h.2.2 i hi).okMono hm⟩

theorem RowT.nil (ok : Nat → Prop) (w : World) (a : Option Addr) (V : Nat → Value) : RowT ok w [] a V :=
  ⟨by simp [maxLen], fun i hi => by simp at hi, fun i hi => by simp at hi⟩

/-- what lies as a type, opened -/
theorem LiesT.inv {ok : Nat → Prop} {w : World} {t : Ty} {v : Value} (h : LiesT ok w t v) : ∃ a c V, v = tyV t.t a t.args.length c ∧ I64 t.t ∧ RowT ok w t.args a V := by
  cases h with
  | mk V hl hlc it hc hr => exact ⟨_, _, V, rfl, it, hl, hc, hr⟩

theorem LiesT.cap {ok : Nat → Prop} {w : World} {T : Ty} {t : Int} {a : Option Addr} {l c : Nat} (h : LiesT ok w T (Go.Proofs.Ytmmgihaoahhkjaa.tyV t a l c)) : l ≤ c := by
  generalize hv : Go.Proofs.Ytmmgihaoahhkjaa.tyV t a l c = v at h
  cases h with
  | mk V hl hlc it hc hr =>
    unfold Go.Proofs.Ytmmgihaoahhkjaa.tyV at hv
    simp only [Value.agg.injEq, Array.mk.injEq, List.cons.injEq, Value.slice.injEq, and_true] at hv
    omega

/-- an owned slice's capacity -/
theorem own_capT {w : World} {B : Nat} {e : TypeId} {size n : Nat} {v : Value} {xs : List Value} (h : w.ownsRow B e size v n xs) {a : Option Addr} {l c : Nat} (hv : v = .slice a l c) : l ≤ c := by
  subst hv
  rcases h.2 with ⟨hq, _⟩ | ⟨g, cap, cur, hq, _, _, hnc, _⟩
  · simp only [Value.slice.injEq] at hq; omega
  · simp only [Value.slice.injEq] at hq; omega

theorem LiesT.of {ok : Nat → Prop} {w : World} {t : Int} {ts : List Ty} {a : Option Addr} {c : Nat} {V : Nat → Value} (it : I64 t) (h : RowT ok w ts a V) (hlc : ts.length ≤ c) : LiesT ok w (.nd t ts) (tyV t a ts.length c) :=
  .mk V h.1 hlc it h.2.1 h.2.2

/-- cells of an element -/
theorem TyAt.cells {ok : Nat → Prop} {w : World} {a : Option Addr} {i : Nat} {v : Value} (h : TyAt ok w a i v) :
    ∃ b o t a' l c, a = some ⟨b, o, none⟩ ∧ ok b ∧ v = tyV t a' l c ∧ w.cell? ⟨b, o + i * 2, none⟩ = some (.int .i64 t) ∧ w.cell? ⟨b, o + i * 2 + 1, none⟩ = some (.slice a' l c) := by
  obtain ⟨b, o, ha, hb, t, a', l, c, hv, h0, h1⟩ := h
  exact ⟨b, o, t, a', l, c, ha, hb, hv, h0, h1⟩

end Go.Proofs.Ytmmgihaoahhkjaa

/- Values as plain data, and what it is that a value lies in memory. -/
namespace Go.Proofs.Ytmmgihaoahhkjaa
open Go.ChangeShapes Go.WideShapes Go.ChangeAt Go.RowKit

/-- a value -/
inductive Va where
  | mk (k n a : Int) (s : ByteArray) (args : List Va) (types : List Ty) (code : List Tr)

def Va.k : Va → Int
  | .mk k _ _ _ _ _ _ => k
def Va.n : Va → Int
  | .mk _ n _ _ _ _ _ => n
def Va.a : Va → Int
  | .mk _ _ a _ _ _ _ => a
def Va.s : Va → ByteArray
  | .mk _ _ _ s _ _ _ => s
def Va.args : Va → List Va
  | .mk _ _ _ _ l _ _ => l
def Va.types : Va → List Ty
  | .mk _ _ _ _ _ t _ => t
def Va.code : Va → List Tr
  | .mk _ _ _ _ _ _ c => c

mutual
def Va.size : Va → Nat
  | .mk _ _ _ _ args types code => vsizes args + tysizes types + sizes code + 1
def vsizes : List Va → Nat
  | [] => 0
  | t :: ts => t.size + vsizes ts
end

theorem vsizes_append (a b : List Va) : vsizes (a ++ b) = vsizes a + vsizes b := by
  induction a with
  | nil => simp [vsizes]
  | cons t ts ih => simp [vsizes, ih]; omega

theorem vsize_pos (t : Va) : 1 ≤ t.size := by cases t; simp [Va.size]

theorem vsize_eq (v : Va) : v.size = vsizes v.args + tysizes v.types + sizes v.code + 1 := by cases v; simp [Va.size, Va.args, Va.types, Va.code]

theorem vsizes_take_succ (l : List Va) (i : Nat) (h : i < l.length) : vsizes (l.take (i + 1)) = vsizes (l.take i) + (l[i]).size := by
  rw [List.take_succ_eq_append_getElem h, vsizes_append]; simp [vsizes]

theorem vsizes_take_le (l : List Va) (i : Nat) : vsizes (l.take i) ≤ vsizes l := by
  have h := vsizes_append (l.take i) (l.drop i)
  rw [List.take_append_drop] at h; omega

theorem vlength_le (l : List Va) : l.length ≤ vsizes l := by
  induction l with
  | nil => simp
  | cons t ts ih => have := vsize_pos t; simp [vsizes]; omega

theorem vsize_mem {l : List Va} {x : Va} (h : x ∈ l) : x.size ≤ vsizes l := by
  induction l with
  | nil => simp at h
  | cons t ts ih =>
    simp [vsizes]
    rcases List.mem_cons.1 h with rfl | h
    · omega
    · have := ih h; omega

/-- a list of nodes lies in memory -/
def RowN (ok : Nat → Prop) (w : World) (ts : List Tr) (a : Option Addr) (V : Nat → Value) : Prop :=
  ts.length ≤ maxLen ∧ (∀ i, i < ts.length → NodeAt ok w a i (V i)) ∧ ∀ i (h : i < ts.length), Lies ok w ts[i] (V i)

theorem NodeAt.okMono {ok ok' : Nat → Prop} {w : World} {a : Option Addr} {i : Nat} {v : Value} (h : NodeAt ok w a i v) (hm : ∀ b, b < w.heap.size → ok b → ok' b) : NodeAt ok' w a i v := by
  obtain ⟨b, o, ha, hb, k, n, p, s, a', l, c, hv, h0, h1⟩ := h
  exact ⟨b, o, ha, hm b (World.block_lt_of_cell? w _ h0) hb, k, n, p, s, a', l, c, hv, h0, h1⟩

theorem RowN.same {ok : Nat → Prop} {w w' : World} {ts : List Tr} {a : Option Addr} {V : Nat → Value} (h : RowN ok w ts a V) (hs : Same ok w w') : RowN ok w' ts a V :=
  ⟨h.1, fun i hi => (h.2.1 i hi).same hs, fun i hi => (h.2.2 i hi).same hs⟩

theorem RowN.okMono {ok ok' : Nat → Prop} {w : World} {ts : List Tr} {a : Option Addr} {V : Nat → Value} (h : RowN ok w ts a V) (hm : ∀ b, b < w.heap.size → ok b → ok' b) : RowN ok' w ts a V :=
  ⟨h.1, fun i hi => (h.2.1 i hi).okMono hm, fun i hi => (h.2.2 i hi).okMono hm⟩

theorem RowN.nil (ok : Nat → Prop) (w : World) (a : Option Addr) (V : Nat → Value) : RowN ok w [] a V :=
  ⟨by simp [maxLen], fun i hi => by simp at hi, fun i hi => by simp at hi⟩

/-- a value's value -/
def vaV (k n a : Int) (s : ByteArray) (aa : Option Addr) (al ac : Nat) (ta : Option Addr) (tl tc : Nat) (na : Option Addr) (nl nc : Nat) : Value :=
  .agg #[.int .i64 k, .int .i64 n, .int .i64 a, .string s, .slice aa al ac, .slice ta tl tc, .slice na nl nc]

/-- element i of the slice at a holds the value v -/
def VaAt (ok : Nat → Prop) (w : World) (p : Option Addr) (i : Nat) (v : Value) : Prop :=
  ∃ b o, p = some ⟨b, o, none⟩ ∧ ok b ∧ ∃ k n a s aa al ac ta tl tc na nl nc, v = vaV k n a s aa al ac ta tl tc na nl nc ∧ w.cell? ⟨b, o + i * 7, none⟩ = some (.int .i64 k) ∧ w.cell? ⟨b, o + i * 7 + 1, none⟩ = some (.int .i64 n) ∧
    w.cell? ⟨b, o + i * 7 + 2, none⟩ = some (.int .i64 a) ∧ w.cell? ⟨b, o + i * 7 + 3, none⟩ = some (.string s) ∧ w.cell? ⟨b, o + i * 7 + 4, none⟩ = some (.slice aa al ac) ∧ w.cell? ⟨b, o + i * 7 + 5, none⟩ = some (.slice ta tl tc) ∧ w.cell? ⟨b, o + i * 7 + 6, none⟩ = some (.slice na nl nc)

inductive LiesV (ok : Nat → Prop) (w : World) : Va → Value → Prop
  | mk {k n a : Int} {s : ByteArray} {args : List Va} {types : List Ty} {code : List Tr} {aa ta na : Option Addr} {ac tc nc : Nat} (V VT VN : Nat → Value) (hl : args.length ≤ maxLen) (hlc : args.length ≤ ac) (hs : s.size ≤ maxLen) (ik : I64 k) (iN : I64 n) (ia : I64 a)
      (hT : RowT ok w types ta VT) (hN : RowN ok w code na VN)
      (hc : ∀ i, i < args.length → VaAt ok w aa i (V i)) (hr : ∀ i (h : i < args.length), LiesV ok w args[i] (V i)) : LiesV ok w (.mk k n a s args types code) (vaV k n a s aa args.length ac ta types.length tc na code.length nc)

/-- a list of values lies in memory -/
def RowVa (ok : Nat → Prop) (w : World) (ts : List Va) (a : Option Addr) (V : Nat → Value) : Prop :=
  ts.length ≤ maxLen ∧ (∀ i, i < ts.length → VaAt ok w a i (V i)) ∧ ∀ i (h : i < ts.length), LiesV ok w ts[i] (V i)

theorem VaAt.same {ok : Nat → Prop} {w w' : World} {p : Option Addr} {i : Nat} {v : Value} (h : VaAt ok w p i v) (hs : Same ok w w') : VaAt ok w' p i v := by
  obtain ⟨b, o, hp, hb, k, n, a, s, aa, al, ac, ta, tl, tc, na, nl, nc, hv, h0, h1, h2, h3, h4, h5, h6⟩ := h
  have hlt : b < w.heap.size := World.block_lt_of_cell? w _ h0
  exact ⟨b, o, hp, hb, k, n, a, s, aa, al, ac, ta, tl, tc, na, nl, nc, hv, (hs _ _ hb hlt).trans h0, (hs _ _ hb hlt).trans h1, (hs _ _ hb hlt).trans h2, (hs _ _ hb hlt).trans h3, (hs _ _ hb hlt).trans h4, (hs _ _ hb hlt).trans h5, (hs _ _ hb hlt).trans h6⟩

theorem VaAt.okMono {ok ok' : Nat → Prop} {w : World} {p : Option Addr} {i : Nat} {v : Value} (h : VaAt ok w p i v) (hm : ∀ b, b < w.heap.size → ok b → ok' b) : VaAt ok' w p i v := by
  obtain ⟨b, o, hp, hb, k, n, a, s, aa, al, ac, ta, tl, tc, na, nl, nc, hv, h0, h1⟩ := h
  exact ⟨b, o, hp, hm b (World.block_lt_of_cell? w _ h0) hb, k, n, a, s, aa, al, ac, ta, tl, tc, na, nl, nc, hv, h0, h1⟩

theorem LiesV.same {ok : Nat → Prop} {w w' : World} {t : Va} {v : Value} (h : LiesV ok w t v) (hs : Same ok w w') : LiesV ok w' t v := by
  induction h with
  | mk V VT VN hl hlc hS ik iN ia hT hN hc _ ih => exact .mk V VT VN hl hlc hS ik iN ia (hT.same hs) (hN.same hs) (fun i hi => (hc i hi).same hs) ih

theorem LiesV.okMono {ok ok' : Nat → Prop} {w : World} {t : Va} {v : Value} (h : LiesV ok w t v) (hm : ∀ b, b < w.heap.size → ok b → ok' b) : LiesV ok' w t v := by
  induction h with
  | mk V VT VN hl hlc hS ik iN ia hT hN hc _ ih => exact .mk V VT VN hl hlc hS ik iN ia (hT.okMono hm) (hN.okMono hm) (fun i hi => (hc i hi).okMono hm) ih

theorem RowVa.same {ok : Nat → Prop} {w w' : World} {ts : List Va} {a : Option Addr} {V : Nat → Value} (h : RowVa ok w ts a V) (hs : Same ok w w') : RowVa ok w' ts a V :=
  ⟨h.1, fun i hi => (h.2.1 i hi).same hs, fun i hi => (h.2.2 i hi).same hs⟩

theorem RowVa.okMono {ok ok' : Nat → Prop} {w : World} {ts : List Va} {a : Option Addr} {V : Nat → Value} (h : RowVa ok w ts a V) (hm : ∀ b, b < w.heap.size → ok b → ok' b) : RowVa ok' w ts a V :=
  ⟨h.1, fun i hi => (h.2.1 i hi).okMono hm, fun i hi => (h.2.2 i hi).okMono hm⟩

theorem RowVa.nil (ok : Nat → Prop) (w : World) (a : Option Addr) (V : Nat → Value) : RowVa ok w [] a V :=
  ⟨by simp [maxLen], fun i hi => by simp at hi, fun i hi => by simp at hi⟩

/-- what lies as a value, opened -/
theorem LiesV.inv {ok : Nat → Prop} {w : World} {x : Va} {v : Value} (h : LiesV ok w x v) : ∃ aa ac ta tc na nc V VT VN, v = vaV x.k x.n x.a x.s aa x.args.length ac ta x.types.length tc na x.code.length nc ∧ (I64 x.k ∧ I64 x.n ∧ I64 x.a ∧ x.s.size ≤ maxLen ∧ x.args.length ≤ ac) ∧ RowVa ok w x.args aa V ∧ RowT ok w x.types ta VT ∧ RowN ok w x.code na VN := by
  cases h with
  | mk V VT VN hl hlc hs ik iN ia hT hN hc hr => exact ⟨_, _, _, _, _, _, V, VT, VN, rfl, ⟨ik, iN, ia, hs, hlc⟩, ⟨hl, hc, hr⟩, hT, hN⟩

theorem LiesV.of {ok : Nat → Prop} {w : World} {k n a : Int} {s : ByteArray} {args : List Va} {types : List Ty} {code : List Tr} {aa ta na : Option Addr} {ac tc nc : Nat} {V VT VN : Nat → Value} (hlc : args.length ≤ ac) (hs : s.size ≤ maxLen) (ik : I64 k) (iN : I64 n) (ia : I64 a)
    (h : RowVa ok w args aa V) (hT : RowT ok w types ta VT) (hN : RowN ok w code na VN) : LiesV ok w (.mk k n a s args types code) (vaV k n a s aa args.length ac ta types.length tc na code.length nc) :=
  .mk V VT VN h.1 hlc hs ik iN ia hT hN h.2.1 h.2.2

theorem LiesV.vaV {ok : Nat → Prop} {w : World} {t : Va} {u : Value} (h : LiesV ok w t u) : ∃ k n a s aa al ac ta tl tc na nl nc, u = vaV k n a s aa al ac ta tl tc na nl nc := by cases h; exact ⟨_, _, _, _, _, _, _, _, _, _, _, _, _, rfl⟩

/-- the cells of a block of seven -/
theorem box7 {w : World} {g : Nat} {T : TypeId} {x0 x1 x2 x3 x4 x5 x6 : Value} (h : w.heap[g]? = some (.cells #[x0, x1, x2, x3, x4, x5, x6] T (0, 0))) :
    w.cell? ⟨g, 0, none⟩ = some x0 ∧ w.cell? ⟨g, 1, none⟩ = some x1 ∧ w.cell? ⟨g, 2, none⟩ = some x2 ∧ w.cell? ⟨g, 3, none⟩ = some x3 ∧ w.cell? ⟨g, 4, none⟩ = some x4 ∧ w.cell? ⟨g, 5, none⟩ = some x5 ∧ w.cell? ⟨g, 6, none⟩ = some x6 := by
  simp [World.cell?, h]

theorem sameAll {w w' : World} (h : w.grownBy w' none) : Same (fun _ => True) w w' := fun b o _ hlt => World.cell?_of_block (h.block b hlt (by simp))

end Go.Proofs.Ytmmgihaoahhkjaa

/- append onto a slice of the call's own, whatever is put behind it: elements that lie somewhere, or none. -/
namespace Go.Proofs.Ytmmgihaoahhkjaa
open Go.ChangeShapes Go.WideShapes Go.ChangeAt Go.RowKit
set_option linter.unusedVariables false

/-- the slice xv holds m elements, whose cells are news -/
def SrcAt (w : World) (xv : Value) (m : Nat) (news : List Value) : Prop :=
  (∃ c, xv = .slice none 0 c ∧ m = 0 ∧ news = []) ∨ ∃ ad c, xv = .slice (some ad) m c ∧ ∀ j u, news[j]? = some u → w.cell? (ad.add j) = some u

theorem SrcAt.alloc {w : World} {xv : Value} {m : Nat} {news : List Value} (h : SrcAt w xv m news) (o : Obj) : SrcAt (w.alloc o) xv m news := by
  rcases h with h | ⟨ad, c, rfl, h⟩
  · exact .inl h
  · refine .inr ⟨ad, c, rfl, fun j u hu => ?_⟩
    have h1 := h j u hu
    exact (World.cell?_of_block ((heap_alloc_old (w := w) (o := o) (h := World.block_lt_of_cell? w _ h1)))).trans h1

/-- the elements of one block that was just laid -/
theorem SrcAt.new (w : World) (e : TypeId) (cs : Array Value) (m c : Nat) : SrcAt (w.alloc (.cells cs e)) (.slice (some ⟨w.heap.size, 0, none⟩) m c) m cs.toList :=
  .inr ⟨_, _, rfl, fun j u hu => World.news_of_block (w := w.alloc _) (B := w.heap.size) (cs := cs) (heap_alloc_new _ _) j u hu⟩

theorem run_app (w : World) (base : Nat) (t ty e : TypeId) (i : TypeInfo) (z : Value) (size bytes : Nat) (ht : Try.prog.underlying t = some (.slice e)) (hi : Try.prog.info? e = some i) (hz : i.zero = some z)
    (hsize : i.size = size) (hby : i.bytes = bytes) (hzs : z.cells.size = size) (hsz : 0 < size) (v : Value) (n : Nat) (xs : List Value) (hown : w.ownsRow base e size v n xs)
    (xv : Value) (m : Nat) (news : List Value) (hl : news.length = m * size) (hsrc : SrcAt w xv m news) (h1 : ∀ u ∈ news, u.oneCell' = true) (h63 : n + m ≤ maxLen) (hbytes : (n + m) * bytes ≤ 140737488355328) (hbase : base ≤ w.heap.size) :
    ∃ v' w', (Builtin.append_ #[t, t] ty #[v, xv]).run Try.prog w = .ok v' w' ∧ w'.ownsRow base e size v' (n + m) (xs ++ news) ∧ Gr w v w' v' ∧ (v' = .slice none 0 0 ↔ v = .slice none 0 0 ∧ m = 0) := by
  rcases hsrc with ⟨c, rfl, rfl, rfl⟩ | ⟨ad, c, rfl, hnews⟩
  · refine ⟨v, w, ?_, by simpa using hown, Gr.refl _ _, by simp⟩
    rcases hown.2 with ⟨rfl, rfl⟩ | ⟨g, cap, cur, rfl, _, hg, hnc, _⟩
    · simp [Builtin.append_, run_underlying ht, sizeOf, typeInfo, hi, Builtin.lenOf, Builtin.firstCells]
    · simp [Builtin.append_, run_underlying ht, sizeOf, typeInfo, hi, Builtin.lenOf, Builtin.firstCells, hnc, storeCells]
  · obtain ⟨v', w', hr, h2, h3, h4, h5⟩ := run_append_own_at (P := Try.prog) w base t ty e i z size bytes ht hi hz hsize hby hzs hsz v n xs hown ad m c news hl hnews h1 h63 hbytes hbase
    refine ⟨v', w', hr, h2, ⟨h3, ?_⟩, h4⟩
    rcases h5 with h5 | h5
    · exact .inl h5
    · exact .inr ⟨_, h5, Nat.le_refl _⟩

theorem wp_app {w : World} {o : Oper} {a : Act} {K : Act → World → Prop} {Q : Exit → Act → World → Prop} (s x : Operand) (t : TypeId)
    (ho : o.op = .call { callee := .builtin .append, args := #[s, x], argTypes := #[t, t] })
    (base : Nat) (e : TypeId) (i : TypeInfo) (z : Value) (size bytes : Nat) (ht : Try.prog.underlying t = some (.slice e)) (hi : Try.prog.info? e = some i) (hz : i.zero = some z)
    (hsize : i.size = size) (hby : i.bytes = bytes) (hzs : z.cells.size = size) (hsz : 0 < size) (v : Value) (n : Nat) (xs : List Value) (hs : a.eval s = v) (hown : w.ownsRow base e size v n xs)
    (xv : Value) (m : Nat) (news : List Value) (hx : a.eval x = xv) (hl : news.length = m * size) (hsrc : SrcAt w xv m news) (h1 : ∀ u ∈ news, u.oneCell' = true) (h63 : n + m ≤ maxLen) (hbytes : (n + m) * bytes ≤ 140737488355328) (hbase : base ≤ w.heap.size)
    (h : ∀ v' w', w'.ownsRow base e size v' (n + m) (xs ++ news) → Gr w v w' v' → (v' = .slice none 0 0 ↔ v = .slice none 0 0 ∧ m = 0) → K (a.put o.dst v') w') : o.wp Try.prog a w K Q := by
  obtain ⟨v', w', hr, h2, h3, h4⟩ := run_app w base t o.type e i z size bytes ht hi hz hsize hby hzs hsz v n xs hown xv m news hl hsrc h1 h63 hbytes hbase
  unfold Oper.wp execOp
  simp only [ho, resolve, invoke, builtin, Sem.run_bind, Sem.run_pure, Result.andThen_ok, List.map_toArray, List.map_cons, List.map_nil, hs, hx, hr]
  exact h v' w' h2 h3 h4

/-- at the list of a plain region's operations -/
theorem wpList_app {w : World} {ops : Array Oper} {rest : List Oper} {o : Oper} {a : Act} {Q : Exit → Act → World → Prop} (hgd : o.guard = none) (s x : Operand) (t : TypeId)
    (ho : o.op = .call { callee := .builtin .append, args := #[s, x], argTypes := #[t, t] })
    (base : Nat) (e : TypeId) {z : Value} {size bytes : Nat} (ht : Try.prog.underlying t = some (.slice e)) (hinf : (Try.prog.info? e).map (fun i => (i.zero, i.size, i.bytes)) = some (some z, size, bytes))
    (hzs : z.cells.size = size) (hsz : 0 < size) (v : Value) (n : Nat) (xs : List Value) (hs : a.eval s = v) (hown : w.ownsRow base e size v n xs)
    (xv : Value) (m : Nat) (news : List Value) (hx : a.eval x = xv) (hl : news.length = m * size) (hsrc : SrcAt w xv m news) (h1 : ∀ u ∈ news, u.oneCell' = true) (h63 : n + m ≤ maxLen) (hbytes : (n + m) * bytes ≤ 140737488355328) (hbase : base ≤ w.heap.size)
    (h : ∀ v' w', w'.ownsRow base e size v' (n + m) (xs ++ news) → Gr w v w' v' → (v' = .slice none 0 0 ↔ v = .slice none 0 0 ∧ m = 0) → wpList Try.prog ops Q rest (a.put o.dst v') w') : wpList Try.prog ops Q (o :: rest) a w := by
  obtain ⟨i0, hi, hz0, hz1, hz2⟩ := info_parts hinf
  exact wpList_plain hgd fun _ hK => wp_app s x t ho base e i0 z size bytes ht hi hz0 hz1 hz2 hzs hsz v n xs hs hown xv m news hx hl hsrc h1 h63 hbytes hbase fun v' w' h2 h3 h4 => hK _ _ (h v' w' h2 h3 h4)

/-- at a step of a region that draws its order -/
theorem step_app {w : World} {ops : Array Oper} {o : Oper} {a : Act} {K : Act → World → Prop} {Q : Exit → Act → World → Prop} {E : Prop} (hgd : o.guard = none) (s x : Operand) (t : TypeId)
    (ho : o.op = .call { callee := .builtin .append, args := #[s, x], argTypes := #[t, t] })
    (base : Nat) (e : TypeId) {z : Value} {size bytes : Nat} (ht : Try.prog.underlying t = some (.slice e)) (hinf : (Try.prog.info? e).map (fun i => (i.zero, i.size, i.bytes)) = some (some z, size, bytes))
    (hzs : z.cells.size = size) (hsz : 0 < size) (v : Value) (n : Nat) (xs : List Value) (hs : a.eval s = v) (hown : w.ownsRow base e size v n xs)
    (xv : Value) (m : Nat) (news : List Value) (hx : a.eval x = xv) (hl : news.length = m * size) (hsrc : SrcAt w xv m news) (h1 : ∀ u ∈ news, u.oneCell' = true) (h63 : n + m ≤ maxLen) (hbytes : (n + m) * bytes ≤ 140737488355328) (hbase : base ≤ w.heap.size)
    (h : ∀ v' w', w'.ownsRow base e size v' (n + m) (xs ++ news) → Gr w v w' v' → (v' = .slice none 0 0 ↔ v = .slice none 0 0 ∧ m = 0) → K (a.put o.dst v') w') :
    if Region.wanted o (yielded ops a.tmps) = true then Oper.wp Try.prog o a w K Q else E := by
  have hw : Region.wanted o (yielded ops a.tmps) = true := by simp [Region.wanted, hgd]
  rw [if_pos hw]
  obtain ⟨i0, hi, hz0, hz1, hz2⟩ := info_parts hinf
  exact wp_app s x t ho base e i0 z size bytes ht hi hz0 hz1 hz2 hzs hsz v n xs hs hown xv m news hx hl hsrc h1 h63 hbytes hbase h

/-- an owned slice that is not nil -/
theorem own_form {w : World} {base : Nat} {e : TypeId} {size n : Nat} {v : Value} {xs : List Value} (h : w.ownsRow base e size v n xs) (hne : v ≠ .slice none 0 0) : ∃ g cap, v = .slice (some ⟨g, 0, none⟩) n cap ∧ base ≤ g ∧ g < w.heap.size := by
  rcases h.2 with ⟨rfl, _⟩ | ⟨g, cap, cur, rfl, hb, hg, _⟩
  · exact absurd rfl hne
  · exact ⟨g, cap, rfl, hb, (Array.getElem?_eq_some_iff.1 hg).1⟩

/-- what is owned may be put behind something -/
theorem own_src {w : World} {base : Nat} {e : TypeId} {size n : Nat} {v : Value} {xs : List Value} (h : w.ownsRow base e size v n xs) : SrcAt w v n xs := by
  rcases h.2 with ⟨rfl, rfl⟩ | ⟨g, cap, cur, rfl, hb, hg, _⟩
  · exact .inl ⟨0, rfl, rfl, List.eq_nil_of_length_eq_zero (by simpa using h.1)⟩
  · exact .inr ⟨_, _, rfl, World.ownsRow.cells h (g := g) rfl⟩

/-- two blocks of other types are two -/
theorem ne_of_type {w : World} {x y : Nat} {cs ds : Array Value} {T U : TypeId} (hx : w.heap[x]? = some (.cells cs T (0, 0))) (hy : w.heap[y]? = some (.cells ds U (0, 0))) (h : T ≠ U) : x ≠ y := by
  intro e
  subst e
  rw [hx] at hy
  injection hy with hy
  injection hy with h1 h2
  exact h h2

theorem own_ne_type {w : World} {B : Nat} {e : TypeId} {size n : Nat} {v : Value} {xs : List Value} (h : w.ownsRow B e size v n xs) {y : Nat} {ds : Array Value} {U : TypeId} (hy : w.heap[y]? = some (.cells ds U (0, 0))) (hU : e ≠ U) : some y ≠ v.ownBlock := by
  rcases h.2 with ⟨rfl, _⟩ | ⟨g, cap, cur, rfl, _, hg, _⟩
  · simp [Value.ownBlock]
  · have := ne_of_type hg hy hU
    simp [Value.ownBlock]; omega

theorem grow_own {w0 w w' : World} {v : Value} {B : Nat} {e : TypeId} {size n : Nat} {xs : List Value} (h : w0.grownBy w none) (ho : w.ownsRow B e size v n xs) (hB : w0.heap.size ≤ B) (hg : w.grownBy w' v.ownBlock) : w0.grownBy w' none :=
  ⟨hg.os.trans h.os, hg.tape.trans h.tape, hg.output.trans h.output, Nat.le_trans h.size hg.size, fun i hi hr => (hg.block i (Nat.lt_of_lt_of_le hi h.size) (fun e => by have := (World.ownsRow.lt ho i e.symm).1; omega)).trans (h.block i hi hr)⟩

theorem grow_setNew {w0 w : World} {b : Nat} (h : w0.grownBy w none) (hb : w0.heap.size ≤ b) (o : Nat) (sp : Option Nat) (v : Value) : w0.grownBy (w.setCell ⟨b, o, sp⟩ v) none :=
  ⟨h.os, h.tape, h.output, by rw [set_size]; exact h.size, fun i hi hr => (Below.heap_setCell _ _ _ _ (by show i ≠ b; omega)).trans (h.block i hi hr)⟩

end Go.Proofs.Ytmmgihaoahhkjaa

/- The library's products of two numbers, by their contracts. -/
namespace Go.Proofs.Ytmmgihaoahhkjaa
open Go.ChangeShapes Go.WideShapes Go.ChangeAt Go.RowKit
set_option linter.unusedVariables false

namespace Halves
theorem low {a : Nat} (h : a < 18446744073709551616) : bits .and .u64 (a : Int) 4294967295 = ((a % 4294967296 : Nat) : Int) := by
  have e := bits_and_u64_nat a 4294967295 h (by omega)
  rw [show a &&& 4294967295 = a % 4294967296 from Nat.and_two_pow_sub_one_eq_mod a 32] at e
  exact e
theorem high (a : Nat) : (a : Int) / 4294967296 = ((a / 4294967296 : Nat) : Int) := by omega
theorem prod (a b : Nat) : (a : Int) * (b : Int) = ((a * b : Nat) : Int) := (Int.natCast_mul a b).symm
theorem sum (a b : Nat) : (a : Int) + (b : Int) = ((a + b : Nat) : Int) := (Int.natCast_add a b).symm
theorem stays {a : Nat} (h : a < 18446744073709551616) : IntKind.u64.wrap (a : Int) = (a : Int) := by rw [IntKind.wrap_u64]; omega
theorem turns (a : Nat) : IntKind.u64.wrap (a : Int) = ((a % 18446744073709551616 : Nat) : Int) := by rw [IntKind.wrap_u64]; omega
end Halves

set_option maxHeartbeats 1000000 in
theorem mul64_any (x y : Nat) (hx : x < 18446744073709551616) (hy : y < 18446744073709551616) (w : World) :
    Calls Try.prog 120 #[.int .u64 x, .int .u64 y] w fun e w' => e = .returned (.tuple #[.int .u64 ((x * y / 18446744073709551616 : Nat) : Int), .int .u64 ((x * y % 18446744073709551616 : Nat) : Int)]) ∧ w' = w := by
  obtain ⟨b1, b2, b3, hhi⟩ := Lib.mul64_hi x y hx hy
  have p1 := Lib.half_mul_le (a := x / 4294967296) (b := y / 4294967296) (by omega) (by omega)
  have p2 := Lib.half_mul_le (a := x / 4294967296) (b := y % 4294967296) (by omega) (by omega)
  have p3 := Lib.half_mul_le (a := x % 4294967296) (b := y / 4294967296) (by omega) (by omega)
  have q1 : x / 4294967296 * (y / 4294967296) < 18446744073709551616 := by omega
  have q2 : x / 4294967296 * (y % 4294967296) < 18446744073709551616 := by omega
  have q3 : x % 4294967296 * (y / 4294967296) < 18446744073709551616 := by omega
  have s1 : x / 4294967296 * (y / 4294967296) + (x / 4294967296 * (y % 4294967296) + x % 4294967296 * (y % 4294967296) / 4294967296) / 4294967296 < 18446744073709551616 := by omega
  have s2 : x / 4294967296 * (y / 4294967296) + (x / 4294967296 * (y % 4294967296) + x % 4294967296 * (y % 4294967296) / 4294967296) / 4294967296 + ((x / 4294967296 * (y % 4294967296) + x % 4294967296 * (y % 4294967296) / 4294967296) % 4294967296 + x % 4294967296 * (y / 4294967296)) / 4294967296 < 18446744073709551616 := by omega
  have HH : Hid (_ = _) := hhi
  clear hhi
  go_enter Try.func120, Try.ntmps120
  go_wp2
  simp only [Halves.low hx, Halves.low hy, Halves.high, Halves.prod, Halves.sum, Halves.stays b1, Halves.stays q2, Halves.stays b2, Halves.low b2, Halves.stays q3, Halves.stays b3, Halves.stays q1, Halves.stays s1, Halves.stays s2, Halves.turns (x * y)]
  rw [HH.out]
  go_ret2
  exact ⟨rfl, rfl⟩


theorem bmul_one (n : Nat) (hn : n < 1000000) (w : World) :
    Calls Try.prog 108 #[.int .u64 1, .int .u64 n] w fun e w' => e = .returned (.tuple #[.int .u64 0, .int .u64 n]) ∧ w' = w := by
  have h := mul64_any 1 n (by omega) (by omega)
  have e1 : 1 * n / 18446744073709551616 = 0 := by omega
  have e2 : 1 * n % 18446744073709551616 = n := by omega
  rw [e1, e2] at h
  have H := Lf.hide h
  clear h e1 e2
  go_enter Try.func108, Try.ntmps108
  go_wp2_with fail
  refine (H.out _).mono ?_; rintro e w' ⟨rfl, rfl⟩
  go_wp2_with fail
  go_ret2
  exact ⟨rfl, rfl⟩

end Go.Proofs.Ytmmgihaoahhkjaa

/- slices.Repeat of a list of one type, by its contract. -/
namespace Go.Proofs.Ytmmgihaoahhkjaa
open Go.ChangeShapes Go.WideShapes Go.ChangeAt Go.RowKit
set_option linter.unusedVariables false

theorem run_copyG (w : World) (dT sT ty elem : TypeId) (i : TypeInfo) (hu : Try.prog.underlying dT = some (.slice elem)) (hi : Try.prog.info? elem = some i) (g o dLen dCap : Nat) (ad : Addr) (sLen sCap : Nat) (cur : Array Value) (t : TypeId) (cs : List Value)
    (hg : w.heap[g]? = some (.cells cur t (0, 0))) (hn : cs.length = Nat.min sLen dLen * i.size) (hsrc : ∀ j v, cs[j]? = some v → w.cell? (ad.add j) = some v) (hfit : o + cs.length ≤ cur.size) (h1 : ∀ v ∈ cs, v.oneCell' = true) :
    (Builtin.copy_ #[dT, sT] ty #[.slice (some ⟨g, o, none⟩) dLen dCap, .slice (some ad) sLen sCap]).run Try.prog w =
      .ok (goInt (Nat.min sLen dLen)) (w.setRow g (cur.toList.take o ++ cs ++ cur.toList.drop (o + cs.length)).toArray) := by
  have hl := run_loadCells_list (P := Try.prog) w ad cs hsrc
  have hst := run_storeCells_at Try.prog g o t cs 0 cur w hg (by simpa using hfit) h1
  simp [Builtin.copy_, run_underlying hu, Builtin.lenOf, Builtin.firstCells, sizeOf, typeInfo, hi, ← hn, hl, hst]

/-- the first m of n elements of block g are the type (u0, u1) -/
def RepAt (w : World) (g n m : Nat) (u0 u1 : Value) : Prop := ∃ cur : Array Value, w.heap[g]? = some (.cells cur 24 (0, 0)) ∧ cur.size = n * 2 ∧ m ≤ n ∧ ∀ j, j < m → cur[j * 2]? = some u0 ∧ cur[j * 2 + 1]? = some u1

theorem info_tyR : (Try.prog.info? 24).map (fun i => (i.zero, i.size, i.bytes)) = some (some (.agg #[.int .i64 0, .slice none 0 0]), 2, 32) := by kernel_rfl

set_option maxRecDepth 100000 in
/-- what lies at the beginning, once more behind it -/
theorem rep_more {w : World} {g n m : Nat} {u0 u1 : Value} (h : RepAt w g n m u0 u1) (o0 : u0.oneCell' = true) (o1 : u1.oneCell' = true) (k : Nat) (ad : Addr) (c sc sl dl : Nat) (hk : k = Nat.min sl dl) (hfit : m + k ≤ n)
    (hsrc : ∀ j, j < k → w.cell? (ad.add (j * 2)) = some u0 ∧ w.cell? (ad.add (j * 2 + 1)) = some u1) :
    ∃ w2, (∀ ty, (Builtin.copy_ #[22, 22] ty #[.slice (some ⟨g, m * 2, none⟩) dl c, .slice (some ad) sl sc]).run Try.prog w = .ok (.int .i64 (k : Nat)) w2) ∧ RepAt w2 g n (m + k) u0 u1 ∧ w.grownBy w2 (some g) := by
  obtain ⟨cur, hg, hsz, hmn, hc⟩ := h
  obtain ⟨i0, hi, hz0, hz1, hz2⟩ := info_parts info_tyR
  let cs : List Value := (List.range (k * 2)).map fun j => if j % 2 = 0 then u0 else u1
  have hlen : cs.length = k * 2 := by simp [cs]
  have hget : ∀ j v, cs[j]? = some v → j < k * 2 ∧ v = if j % 2 = 0 then u0 else u1 := by
    intro j v hv
    have hj : j < k * 2 := by rw [← hlen]; exact (List.getElem?_eq_some_iff.1 hv).1
    refine ⟨hj, ?_⟩
    simp [cs, hj] at hv
    exact hv.symm
  have hr : ∀ ty, _ := fun ty => run_copyG w 22 22 ty 24 i0 Try.underlying22 hi g (m * 2) dl c ad sl sc cur 24 cs hg (by rw [hlen, hz1, hk]) (by
    intro j v hv
    obtain ⟨hj, rfl⟩ := hget j v hv
    obtain ⟨q0, q1⟩ := hsrc (j / 2) (by omega)
    by_cases hp : j % 2 = 0
    · rw [if_pos hp]; rw [show j / 2 * 2 = j from by omega] at q0; exact q0
    · rw [if_neg hp]; rw [show j / 2 * 2 + 1 = j from by omega] at q1; exact q1) (by rw [hlen, hsz]; omega) (by
    intro v hv
    obtain ⟨j, hj, rfl⟩ := List.getElem_of_mem hv
    obtain ⟨_, h2⟩ := hget j _ (List.getElem?_eq_getElem hj)
    rw [h2]; split <;> assumption)
  refine ⟨w.setRow g (cur.toList.take (m * 2) ++ cs ++ cur.toList.drop (m * 2 + cs.length)).toArray, fun ty => ?_, ⟨_, setRow_heap w g cur _ _ _ hg, ?_, hfit, fun j hj => ?_⟩, ?_⟩
  · rw [hr ty, ← hk]; rfl
  · simp [hlen]; omega
  · have key : ∀ q, q < (m + k) * 2 → (cur.toList.take (m * 2) ++ cs ++ cur.toList.drop (m * 2 + cs.length)).toArray[q]? = some (if q % 2 = 0 then u0 else u1) := by
      intro q hq
      rw [List.getElem?_toArray, List.append_assoc]
      by_cases h1 : q < m * 2
      · rw [List.getElem?_append_left (by simp; omega), List.getElem?_take, if_pos h1, Array.getElem?_toList]
        obtain ⟨e0, e1⟩ := hc (q / 2) (by omega)
        by_cases hp : q % 2 = 0
        · rw [if_pos hp]; rw [show q / 2 * 2 = q from by omega] at e0; exact e0
        · rw [if_neg hp]; rw [show q / 2 * 2 + 1 = q from by omega] at e1; exact e1
      · have hl2 : (cur.toList.take (m * 2)).length = m * 2 := by simp; omega
        rw [List.getElem?_append_right (by omega), hl2, List.getElem?_append_left (by omega)]
        have hlt : q - m * 2 < k * 2 := by omega
        simp only [cs, List.getElem?_map, List.getElem?_range hlt, Option.map_some]
        rw [show (q - m * 2) % 2 = q % 2 from by omega]
    have k0 := key (j * 2) (by omega)
    have k1 := key (j * 2 + 1) (by omega)
    rw [if_pos (by omega)] at k0
    rw [if_neg (by omega)] at k1
    exact ⟨k0, k1⟩
  · exact ⟨rfl, rfl, rfl, by simp [World.setRow], fun q _ hq => setRow_other w g q _ (by simpa using hq)⟩

set_option maxRecDepth 100000 in
set_option maxHeartbeats 1000000 in
theorem repeat_at (t : Int) (a : Option Addr) (l c : Nat) (b o n cx : Nat) (hn : n < 1000) (W : World) (h0 : W.cell? ⟨b, o, none⟩ = some (.int .i64 t)) (h1 : W.cell? ⟨b, o + 1, none⟩ = some (.slice a l c)) :
    Calls Try.prog 86 #[.slice (some ⟨b, o, none⟩) 1 cx, .int .i64 n] W fun e w' => ∃ g c', e = .returned (.slice (some ⟨g, 0, none⟩) n c') ∧ W.heap.size ≤ g ∧ RepAt w' g n n (.int .i64 t) (.slice a l c) ∧ W.grownBy w' none := by
  have HM := Lf.hide (bmul_one n (by omega))
  obtain ⟨i0, hi, hz0, hz1, hz2⟩ := info_parts info_tyR
  have hmk := run_make (P := Try.prog) W 22 24 i0 _ Try.underlying22 hi hz0 .i64 .i64 n n (by omega) (Int.le_refl _) (by rw [hz2]; omega) (by omega)
  simp only [Int.toNat_natCast, hz1] at hmk
  have hMs : (madeCells (Value.agg #[.int .i64 0, .slice none 0 0]).cells (n * 2)).size = n * 2 := size_madeCells _ _
  generalize madeCells (Value.agg #[.int .i64 0, .slice none 0 0]).cells (n * 2) = M at *
  have hR0 : RepAt (W.alloc (.cells M 24)) W.heap.size n 0 (.int .i64 t) (.slice a l c) := ⟨M, heap_alloc_new _ _, hMs, Nat.zero_le _, fun j hj => by omega⟩
  have hb0 : b < W.heap.size := World.block_lt_of_cell? W _ h0
  obtain ⟨w2, hcp, hR1, hg1⟩ := rep_more hR0 rfl rfl (Nat.min 1 n) ⟨b, o, none⟩ n cx 1 n rfl (by rw [Nat.zero_add]; exact Nat.min_le_right _ _) (fun j hj => by
    obtain rfl : j = 0 := by have : Nat.min 1 n ≤ 1 := Nat.min_le_left _ _; omega
    have e1 : (W.alloc (.cells M 24)).cell? ⟨b, o, none⟩ = some (.int .i64 t) := (World.cell?_of_block (heap_alloc_old (w := W) (o := _) (h := hb0))).trans h0
    have e2 : (W.alloc (.cells M 24)).cell? ⟨b, o + 1, none⟩ = some (.slice a l c) := (World.cell?_of_block (heap_alloc_old (w := W) (o := _) (h := hb0))).trans h1
    have hadd : ∀ x, (⟨b, o, none⟩ : Addr).add x = ⟨b, o + x, none⟩ := fun x => by unfold Addr.add; split <;> simp_all
    rw [hadd, hadd]
    exact ⟨e1, e2⟩)
  have hg2 : W.grownBy w2 none := grow_new (Lf.gb _) hg1 (Nat.le_refl _)
  rw [Nat.zero_mul] at hcp
  rw [Nat.zero_add] at hR1
  have HR1 := Lf.hide hR1
  have HG2 := Lf.hide hg2
  clear h0 h1 hR0 hR1 hg1 hg2 hMs hz0 hz1 hz2 hi
  go_enter Try.func86, Try.ntmps86
  go_wp2_with fail
  refine (HM.out _).mono ?_; rintro e W0 ⟨rfl, rfl⟩
  go_wp2_with fail
  go_loopw [8] (fun iv wr => ∃ m : Nat, iv = .int .i64 m ∧ m ≤ n ∧ (m = n ∨ 1 ≤ m) ∧ RepAt wr W0.heap.size n m (.int .i64 t) (.slice a l c) ∧ W0.grownBy wr none) (fun iv _ => n - (intOf iv).toNat)
  case atStart =>
    refine ⟨Nat.min 1 n, ?_, Nat.min_le_right _ _, ?_, HR1.out, HG2.out⟩
    · first | rfl | simp
    · by_cases h : n = 0
      · left; subst h; rfl
      · right; exact Nat.le_min.2 ⟨Nat.le_refl _, by omega⟩
  case round =>
    obtain ⟨m, rfl, hmn, hm1, hRep, hgr⟩ := hrel
    by_cases hlt : m < n
    · have hm2 : 1 ≤ m := by omega
      have hk : m + Nat.min m (n - m) ≤ n := by have : Nat.min m (n - m) ≤ n - m := Nat.min_le_right _ _; omega
      have hkp : 1 ≤ Nat.min m (n - m) := Nat.le_min.2 ⟨hm2, by omega⟩
      obtain ⟨w3, hc3, hR3, hg3⟩ := rep_more (w := wr.drew) hRep rfl rfl (Nat.min m (n - m)) ⟨W0.heap.size, 0, none⟩ (n - m) n m (n - m) rfl hk (fun j hj => by
        obtain ⟨cur, q1, q2, q3, q4⟩ := hRep
        have hjm : j < m := Nat.lt_of_lt_of_le hj (Nat.min_le_left _ _)
        obtain ⟨e0, e1⟩ := q4 j hjm
        have hadd : ∀ x, (⟨W0.heap.size, 0, none⟩ : Addr).add x = ⟨W0.heap.size, x, none⟩ := fun x => by unfold Addr.add; split <;> simp_all
        rw [hadd, hadd]
        constructor
        · show wr.cell? _ = _
          simp [World.cell?, q1, e0]
        · show wr.cell? _ = _
          simp [World.cell?, q1, e1])
      have hlt' : (m : Int) < (n : Int) := by omega
      have hnm : ¬ n - m = 0 := by omega
      generalize hk9 : Nat.min m (n - m) = k9 at *
      have HR3 := Lf.hide hR3
      have HG3 := Lf.hide (grow_new (grow_drew hgr) hg3 (Nat.le_refl _))
      clear hR3 hg3 hRep hgr hk9 hmk hcp HR1 HG2 HM
      have hwr : IntKind.i64.wrap ((m : Int) + (k9 : Int)) = (m : Int) + (k9 : Int) := by rw [IntKind.wrap_i64]; omega
      have hmle : m ≤ n := hmn
      go_wp2_with fail
      go_region_held3 (fun _ => True) (first | trivial) (fail)
      all_goals
        go_wp2_with fail
        refine ⟨⟨m + k9, by first | rfl | simp, hk, .inr (by omega), HR3.out, HG3.out⟩, ?_⟩
        simp [intOf]; omega
    · have hme : m = n := by omega
      subst hme
      have hlt' : ¬ (m : Int) < (m : Int) := by omega
      have HR := Lf.hide hRep
      have HG := Lf.hide hgr
      clear hRep hgr hmk hcp HR1 HG2 HM
      go_wp2_with fail
      go_ret
      exact ⟨_, ⟨_, rfl⟩, Nat.le_refl _, HR.out, HG.out⟩

theorem repeat_any (t : Int) (a : Option Addr) (l c : Nat) (b n cx : Nat) (hn : n < 1000) (W : World) (h0 : W.cell? ⟨b, 0, none⟩ = some (.int .i64 t)) (h1 : W.cell? ⟨b, 1, none⟩ = some (.slice a l c)) :
    Calls Try.prog 86 #[.slice (some ⟨b, 0, none⟩) 1 cx, .int .i64 n] W fun e w' => ∃ g c', e = .returned (.slice (some ⟨g, 0, none⟩) n c') ∧ W.heap.size ≤ g ∧ RepAt w' g n n (.int .i64 t) (.slice a l c) ∧ W.grownBy w' none :=
  repeat_at t a l c b 0 n cx hn W h0 h1

end Go.Proofs.Ytmmgihaoahhkjaa

/- Lists of nodes that the reader makes: what they hold, and that it stays. -/
namespace Go.Proofs.Ytmmgihaoahhkjaa
set_option maxRecDepth 20000
open Go.ChangeShapes Go.WideShapes Go.ChangeAt Go.RowKit
set_option linter.unusedVariables false

theorem info24 : (Try.prog.info? 39).map (fun i => (i.zero, i.size, i.bytes)) = some (some (.agg #[.int .i64 0, .int .i64 0, .int .i64 0, .string ⟨#[]⟩, .slice none 0 0]), 5, 64) := by kernel_rfl

def nodeCells : Value → List Value
  | .agg xs => xs.toList
  | _ => []

def flat (vs : List Value) : List Value := vs.flatMap nodeCells

/-- the slice v is the call's own and holds the nodes vs -/
def OwnsL (B : Nat) (w : World) (v : Value) (vs : List Value) : Prop := w.ownsRow B 39 5 v vs.length (flat vs)

theorem flat_append (a b : List Value) : flat (a ++ b) = flat a ++ flat b := by simp [flat]

/-- one node put behind a list of the call's own -/
theorem appN {ops : Array Oper} {rest : List Oper} {o : Oper} {a : Act} {Q : Exit → Act → World → Prop} (B : Nat) (vs : List Value) (k n p : Int) (st : ByteArray) (sa : Option Addr) (sl sc : Nat) (w0 : World) (v : Value) (hgd : o.guard = none) (s x : Operand)
    (ho : o.op = .call { callee := .builtin .append, args := #[s, x], argTypes := #[26, 26] }) (hs : a.eval s = v) {H : Nat} (hx : a.eval x = .slice (some ⟨H, 0, none⟩) 1 1) (hH : w0.heap.size = H)
    (hown : OwnsL B w0 v vs) (hB : B ≤ w0.heap.size) (hlen : vs.length ≤ 1000000000000)
    (h : ∀ g cap w', OwnsL B w' (.slice (some ⟨g, 0, none⟩) (vs.length + 1) cap) (vs ++ [nodeV k n p st sa sl sc]) → Gr w0 v w' (.slice (some ⟨g, 0, none⟩) (vs.length + 1) cap) → wpList Try.prog ops Q rest (a.put o.dst (.slice (some ⟨g, 0, none⟩) (vs.length + 1) cap)) w') :
    wpList Try.prog ops Q (o :: rest) a (w0.alloc (.cells #[.int .i64 k, .int .i64 n, .int .i64 p, .string st, .slice sa sl sc] 39)) := by
  obtain ⟨i0, hi, hz0, hz1, hz2⟩ := info_parts info24
  subst hH
  refine wpList_append_lies _ hgd s x 26 ho B 39 i0 _ 5 64 Try.underlying26 hi hz0 hz1 hz2 rfl (by decide) v vs.length (flat vs) hs (World.ownsRow.alloc hown _) ⟨w0.heap.size, 0, none⟩ 1 1 [.int .i64 k, .int .i64 n, .int .i64 p, .string st, .slice sa sl sc] hx rfl ?_ ?_ (by decide) ?_ ?_ ?_ _ rfl ?_
  · exact World.news_of_block (w := w0.alloc _) (B := w0.heap.size) (cs := #[.int .i64 k, .int .i64 n, .int .i64 p, .string st, .slice sa sl sc]) (heap_alloc_new _ _)
  · intro u hu; simp at hu; rcases hu with rfl | rfl | rfl | rfl | rfl <;> rfl
  · unfold maxLen; omega
  · omega
  · simp; omega
  · intro g cap w' h1 h2 h3 _
    refine h g cap w' ?_ ?_
    · unfold OwnsL; rw [flat_append, List.length_append]; exact h1
    · refine Gr.trans (Gr.alloc (Gr.refl w0 v) _) ⟨h2, ?_⟩
      rcases h3 with h3 | h3
      · exact .inl h3.symm
      · exact .inr ⟨g, rfl, by omega⟩

/-- .. at a step of a region that draws its order -/
theorem step_appN {ops : Array Oper} {o : Oper} {a : Act} {K : Act → World → Prop} {Q : Exit → Act → World → Prop} {E : Prop} (B : Nat) (vs : List Value) (k n p : Int) (st : ByteArray) (sa : Option Addr) (sl sc : Nat) (w0 : World) (v : Value) (hgd : o.guard = none) (s x : Operand)
    (ho : o.op = .call { callee := .builtin .append, args := #[s, x], argTypes := #[26, 26] }) (hs : a.eval s = v) {H : Nat} (hx : a.eval x = .slice (some ⟨H, 0, none⟩) 1 1) (hH : w0.heap.size = H)
    (hown : OwnsL B w0 v vs) (hB : B ≤ w0.heap.size) (hlen : vs.length ≤ 1000000000000)
    (h : ∀ g cap w', OwnsL B w' (.slice (some ⟨g, 0, none⟩) (vs.length + 1) cap) (vs ++ [nodeV k n p st sa sl sc]) → Gr w0 v w' (.slice (some ⟨g, 0, none⟩) (vs.length + 1) cap) → K (a.put o.dst (.slice (some ⟨g, 0, none⟩) (vs.length + 1) cap)) w') :
    if Region.wanted o (yielded ops a.tmps) = true then Oper.wp Try.prog o a (w0.alloc (.cells #[.int .i64 k, .int .i64 n, .int .i64 p, .string st, .slice sa sl sc] 39)) K Q else E := by
  have hw : Region.wanted o (yielded ops a.tmps) = true := by simp [Region.wanted, hgd]
  rw [if_pos hw]
  obtain ⟨i0, hi, hz0, hz1, hz2⟩ := info_parts info24
  subst hH
  refine wp_append_lies _ s x 26 ho B 39 i0 _ 5 64 Try.underlying26 hi hz0 hz1 hz2 rfl (by decide) v vs.length (flat vs) hs (World.ownsRow.alloc hown _) ⟨w0.heap.size, 0, none⟩ 1 1 [.int .i64 k, .int .i64 n, .int .i64 p, .string st, .slice sa sl sc] hx rfl ?_ ?_ (by decide) ?_ ?_ ?_ _ rfl ?_
  · exact World.news_of_block (w := w0.alloc _) (B := w0.heap.size) (cs := #[.int .i64 k, .int .i64 n, .int .i64 p, .string st, .slice sa sl sc]) (heap_alloc_new _ _)
  · intro u hu; simp at hu; rcases hu with rfl | rfl | rfl | rfl | rfl <;> rfl
  · unfold maxLen; omega
  · omega
  · simp; omega
  · intro g cap w' h1 h2 h3 _
    refine h g cap w' ?_ ?_
    · unfold OwnsL; rw [flat_append, List.length_append]; exact h1
    · refine Gr.trans (Gr.alloc (Gr.refl w0 v) _) ⟨h2, ?_⟩
      rcases h3 with h3 | h3
      · exact .inl h3.symm
      · exact .inr ⟨g, rfl, by omega⟩

/-- the list v holds the trees ts, whose own memory is from H on and not the list's -/
structure ListOk (H : Nat) (w : World) (v : Value) (ts : List Tr) (vs : List Value) : Prop where
  own : OwnsL H w v vs
  len : vs.length = ts.length
  lies : ∀ (i : Nat) (t : Tr) (u : Value), ts[i]? = some t → vs[i]? = some u → Lies (fun b => H ≤ b ∧ some b ≠ v.ownBlock) w t u

theorem ListOk.nil (H : Nat) (w : World) : ListOk H w (.slice none 0 0) [] [] := ⟨World.ownsRow_nil _ _ _ _, rfl, fun i t u h => by simp at h⟩

theorem ListOk.keep {H : Nat} {w w' : World} {v : Value} {ts : List Tr} {vs : List Value} {rb : Nat} (h : ListOk H w v ts vs) (hg : w.grownBy w' (some rb)) (hrb : rb < H) : ListOk H w' v ts vs := by
  refine ⟨World.ownsRow.kept h.own hg ?_, h.len, fun i t u ht hu => (h.lies i t u ht hu).same ?_⟩
  · cases hv : v.ownBlock with
    | none => exact .inl rfl
    | some k => right; have := (World.ownsRow.lt h.own k hv).1; simp; omega
  · intro b o hb hlt
    exact World.cell?_of_block (hg.block b hlt (by simp; have := hb.1; omega))

theorem ListOk.push {H : Nat} {w w' : World} {v v' u : Value} {ts : List Tr} {vs : List Value} {t : Tr} {S : Nat} (h : ListOk H w v ts vs) (hS : H ≤ S) (hvS : ∀ k, v.ownBlock = some k → k < S) (hL : Lies (S ≤ ·) w t u) (hg : Gr w v w' v') (ho : OwnsL H w' v' (vs ++ [u])) : ListOk H w' v' (ts ++ [t]) (vs ++ [u]) := by
  have key : ∀ t u, Lies (fun b => H ≤ b ∧ some b ≠ v.ownBlock) w t u → Lies (fun b => H ≤ b ∧ some b ≠ v'.ownBlock) w' t u := by
    intro t u hl
    have h1 := hl.okMono (ok' := fun b => H ≤ b ∧ some b ≠ v.ownBlock ∧ some b ≠ v'.ownBlock) (fun b hb hk => ⟨hk.1, hk.2, by
      rcases hg.2 with e | ⟨g, e, hge⟩
      · rw [e]; exact hk.2
      · rw [e]; simp; omega⟩)
    refine (h1.same (w' := w') ?_).okMono (fun b _ hb => ⟨hb.1, hb.2.2⟩)
    intro b o hb hlt
    exact World.cell?_of_block (hg.block hlt hb.2.1)
  refine ⟨ho, by simp [h.len], fun i t' u' ht hu => key t' u' ?_⟩
  by_cases hi : i < ts.length
  · rw [List.getElem?_append_left hi] at ht
    rw [List.getElem?_append_left (by rw [h.len]; exact hi)] at hu
    exact h.lies i t' u' ht hu
  · have hi' : i = ts.length := by
      have := (List.getElem?_eq_some_iff.1 ht).1
      simp at this; omega
    subst hi'
    rw [List.getElem?_append_right (Nat.le_refl _)] at ht
    rw [← h.len, List.getElem?_append_right (Nat.le_refl _)] at hu
    simp at ht hu
    subst ht; subst hu
    exact hL.okMono (fun b _ hb => ⟨by have : S ≤ b := hb; omega, fun e => by have h2 := hvS b e.symm; have : S ≤ b := hb; omega⟩)

theorem flat_get : ∀ (vs : List Value), (∀ u ∈ vs, (nodeCells u).length = 5) → ∀ (i j : Nat) (u : Value), vs[i]? = some u → j < 5 → (flat vs)[i * 5 + j]? = (nodeCells u)[j]?
  | [], _, i, j, u, h, _ => by simp at h
  | x :: vs, hx, 0, j, u, h, hj => by
    simp at h; subst h
    have := hx x (by simp)
    simp only [flat, List.flatMap_cons]
    rw [List.getElem?_append_left (by omega)]; simp
  | x :: vs, hx, i + 1, j, u, h, hj => by
    have h5 := hx x (by simp)
    have := flat_get vs (fun u hu => hx u (by simp [hu])) i j u (by simpa using h) hj
    simp only [flat, List.flatMap_cons] at this ⊢
    rw [List.getElem?_append_right (by omega), h5, show (i + 1) * 5 + j - 5 = i * 5 + j from by omega]
    exact this

theorem Lies.nodeV {ok : Nat → Prop} {w : World} {t : Tr} {u : Value} (h : Lies ok w t u) : ∃ k n p s a l c, u = nodeV k n p s a l c := by cases h; exact ⟨_, _, _, _, _, _, _, rfl⟩

theorem ListOk.done {H : Nat} {w : World} {v : Value} {ts : List Tr} {vs : List Value} (h : ListOk H w v ts vs) :
    ∃ (a : Option Addr) (c : Nat) (V : Nat → Value), v = .slice a ts.length c ∧ (∀ i, i < ts.length → NodeAt (H ≤ ·) w a i (V i)) ∧ (∀ i (hi : i < ts.length), Lies (H ≤ ·) w ts[i] (V i)) := by
  have hl := h.len
  have each : ∀ i (hi : i < ts.length), ∃ u, vs[i]? = some u ∧ Lies (H ≤ ·) w ts[i] u := by
    intro i hi
    have hv : i < vs.length := by omega
    exact ⟨vs[i], List.getElem?_eq_getElem hv, (h.lies i ts[i] vs[i] (List.getElem?_eq_getElem hi) (List.getElem?_eq_getElem hv)).okMono (fun b _ hb => hb.1)⟩
  have h5 : ∀ u ∈ vs, (nodeCells u).length = 5 := by
    intro u hu
    obtain ⟨i, hi, rfl⟩ := List.getElem_of_mem hu
    obtain ⟨u, e, hL⟩ := each i (by omega)
    rw [List.getElem?_eq_getElem hi] at e
    simp at e
    obtain ⟨k, n, p, s, a, l, c, e2⟩ := hL.nodeV
    rw [e, e2]; rfl
  have ho := h.own
  unfold OwnsL at ho
  rcases ho.2 with ⟨rfl, h0⟩ | ⟨g, cap, cur, rfl, hbg, hg, hnc, hcm, hcs, htake⟩
  · have h00 : ts.length = 0 := by omega
    exact ⟨none, 0, fun _ => .int .i64 0, by rw [h00], fun i hi => by omega, fun i hi => by omega⟩
  · refine ⟨some ⟨g, 0, none⟩, cap, fun i => (vs[i]?).getD (.int .i64 0), by rw [hl], fun i hi => ?_, fun i hi => ?_⟩
    · obtain ⟨u, e, hL⟩ := each i hi
      obtain ⟨k, n, p, s, a, l, c, e2⟩ := hL.nodeV
      have hcell : ∀ j x, j < 5 → (nodeCells u)[j]? = some x → w.cell? ⟨g, i * 5 + j, none⟩ = some x := by
        intro j x hj hx
        have := World.ownsRow.cells ho (g := g) rfl (i * 5 + j) x (by rw [flat_get vs h5 i j u e hj]; exact hx)
        have hadd : (⟨g, 0, none⟩ : Addr).add (i * 5 + j) = ⟨g, i * 5 + j, none⟩ := by unfold Addr.add; split <;> simp_all
        rwa [hadd] at this
      rw [e2] at hcell
      refine ⟨g, 0, rfl, hbg, k, n, p, s, a, l, c, by show (vs[i]?).getD _ = _; rw [e]; exact e2, ?_, ?_, ?_, ?_, ?_⟩
      · have := hcell 0 _ (by omega) rfl; simpa using this
      · have := hcell 1 _ (by omega) rfl; simpa using this
      · have := hcell 2 _ (by omega) rfl; simpa using this
      · have := hcell 3 _ (by omega) rfl; simpa using this
      · have := hcell 4 _ (by omega) rfl; simpa using this
    · obtain ⟨u, e, hL⟩ := each i hi
      show Lies _ _ _ ((vs[i]?).getD _)
      rw [e]; exact hL

end Go.Proofs.Ytmmgihaoahhkjaa
