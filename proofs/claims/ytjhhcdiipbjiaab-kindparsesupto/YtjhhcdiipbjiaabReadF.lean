/- Reading a tree as a type, as plain functions. -/
import Derived.Test.YtjhhcdiipbjiaabListsT
namespace Go.Proofs.Ytjhhcdiipbjiaab
open Go.ChangeShapes Go.WideShapes Go.ChangeAt Go.RowKit

def primHere (k n : Int) (s : ByteArray) : Bool := decide (k = 2 ∧ n = 0 ∧ s.size = 0)

mutual
/-- nothing but Prims with Args alone -/
def primB : Tr → Bool
  | .nd k n _ s args => primHere k n s && primBs args
def primBs : List Tr → Bool
  | [] => true
  | t :: ts => primB t && primBs ts
end

mutual
def readT : Tr → Ty
  | .nd _ _ p _ args => .nd p (readTs args)
def readTs : List Tr → List Ty
  | [] => []
  | t :: ts => readT t :: readTs ts
end

def emptyB : ByteArray := ⟨#[]⟩

mutual
def writeT : Ty → Tr
  | .nd t args => .nd 2 0 t emptyB (writeTs args)
def writeTs : List Ty → List Tr
  | [] => []
  | t :: ts => writeT t :: writeTs ts
end

theorem readTs_map (l : List Tr) : readTs l = l.map readT := by
  induction l with
  | nil => rfl
  | cons t ts ih => simp [readTs, ih]
theorem writeTs_map (l : List Ty) : writeTs l = l.map writeT := by
  induction l with
  | nil => rfl
  | cons t ts ih => simp [writeTs, ih]
theorem primBs_all (l : List Tr) : primBs l = l.all primB := by
  induction l with
  | nil => rfl
  | cons t ts ih => simp [primBs, ih]

mutual
theorem readT_size : ∀ t : Tr, (readT t).size = t.size
  | .nd _ _ _ _ args => by simp [readT, Ty.size, Tr.size, readTs_size args]
theorem readTs_size : ∀ l : List Tr, tysizes (readTs l) = sizes l
  | [] => by simp [readTs, tysizes, sizes]
  | t :: ts => by simp [readTs, tysizes, sizes, readT_size t, readTs_size ts]
end
mutual
theorem writeT_size : ∀ t : Ty, (writeT t).size = t.size
  | .nd _ args => by simp [writeT, Ty.size, Tr.size, writeTs_size args]
theorem writeTs_size : ∀ l : List Ty, sizes (writeTs l) = tysizes l
  | [] => by simp [writeTs, tysizes, sizes]
  | t :: ts => by simp [writeTs, tysizes, sizes, writeT_size t, writeTs_size ts]
end
mutual
theorem read_write : ∀ t : Ty, readT (writeT t) = t
  | .nd _ args => by simp [writeT, readT, reads_writes args]
theorem reads_writes : ∀ l : List Ty, readTs (writeTs l) = l
  | [] => by simp [writeTs, readTs]
  | t :: ts => by simp [writeTs, readTs, read_write t, reads_writes ts]
end
mutual
theorem prim_write : ∀ t : Ty, primB (writeT t) = true
  | .nd _ args => by
    have h : emptyB.size = 0 := rfl
    simp [writeT, primB, primHere, h, prims_write args]
theorem prims_write : ∀ l : List Ty, primBs (writeTs l) = true
  | [] => by simp [writeTs, primBs]
  | t :: ts => by simp [writeTs, primBs, prim_write t, prims_write ts]
end

theorem empty_of_size {s : ByteArray} (h : s.size = 0) : s = emptyB := by
  cases s with
  | mk d =>
    have : d.size = 0 := h
    have : d = #[] := Array.eq_empty_of_size_eq_zero this
    rw [this]; rfl

mutual
theorem write_read : ∀ t : Tr, primB t = true → writeT (readT t) = t
  | .nd k n p s args => by
    intro h
    simp only [primB, primHere, Bool.and_eq_true, decide_eq_true_eq] at h
    obtain ⟨⟨rfl, rfl, hs⟩, h2⟩ := h
    rw [readT, writeT, writes_reads args h2, empty_of_size hs]
theorem writes_reads : ∀ l : List Tr, primBs l = true → writeTs (readTs l) = l
  | [] => fun _ => by simp [readTs, writeTs]
  | t :: ts => by
    intro h
    simp only [primBs, Bool.and_eq_true] at h
    simp [readTs, writeTs, write_read t h.1, writes_reads ts h.2]
end

/-- read's answer, where m were counted before -/
def readAt (m : Nat) (t : Tr) : Bool := primB t && decide (m + t.size ≤ 300)

def ReadPost (m : Nat) (t : Tr) (cb : Nat) (w2 : World) (e : Ending) (w' : World) : Prop :=
  w2.grownBy w' (some cb) ∧ ((readAt m t = true ∧ ∃ u, e = .returned (.tuple #[u, .bool true]) ∧ LiesT (w2.heap.size ≤ ·) w' (readT t) u ∧ CountAt w' cb (m + t.size)) ∨
    (readAt m t = false ∧ e = .returned (.tuple #[tyV 0 none 0 0, .bool false])))

/-- two cells of a block written -/
def set2 (w : World) (b : Nat) (x y : Value) : World := (w.setCell ⟨b, 0, none⟩ x).setCell ⟨b, 1, none⟩ y

theorem set2_block {w : World} {b : Nat} {x0 y0 : Value} {T : TypeId} (h : w.heap[b]? = some (.cells #[x0, y0] T (0, 0))) (x y : Value) : (set2 w b x y).heap[b]? = some (.cells #[x, y] T (0, 0)) := by
  unfold set2
  have h1 := heap_setCell_same w b 0 #[x0, y0] T x h
  have h2 := heap_setCell_same (w.setCell ⟨b, 0, none⟩ x) b 1 _ T y h1
  simpa using h2

theorem set2_grow (w : World) (b : Nat) (x y : Value) : w.grownBy (set2 w b x y) (some b) := grow_set (grow_set (grow_refl _ _) _ _ _) _ _ _

end Go.Proofs.Ytjhhcdiipbjiaab
