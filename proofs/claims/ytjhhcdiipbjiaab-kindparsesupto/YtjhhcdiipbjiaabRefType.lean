/- The document's own typeOf, by its contract. -/
import Derived.Test.YtjhhcdiipbjiaabTypeF
import Derived.Test.YtjhhcdiipbjiaabWritten
namespace Go.Proofs.Ytjhhcdiipbjiaab
open Go.ChangeShapes Go.WideShapes Go.ChangeAt Go.RowKit
set_option linter.unusedVariables false

def LeftAt (w : World) (cb : Nat) (L : Int) : Prop := w.heap[cb]? = some (.cells #[.int .i64 L] 3 (0, 0))

structure TInv (w2 w : World) (cb tb rb H : Nat) (L : Int) (p : Int) (lv : Value) (ts : List Ty) (vs : List Value) : Prop where
  grown : w2.grownBy w (some cb)
  left : LeftAt w cb L
  blk : w.heap[tb]? = some (.cells #[.int .i64 p, lv] 39 (0, 0))
  res : w.heap[rb]? = some (.cells #[.int .i64 0, .slice none 0 0] 39 (0, 0))
  list : ListOkT H w lv ts vs
  hz : H ≤ w.heap.size

theorem TInv.next {w2 w w' : World} {cb tb rb H : Nat} {L L' : Int} {p : Int} {lv : Value} {ts : List Ty} {vs : List Value} (h : TInv w2 w cb tb rb H L p lv ts vs) (hg : w.grownBy w' (some cb)) (ht : tb ≠ cb) (hr : rb ≠ cb) (hcH : cb < H) (hc : LeftAt w' cb L') : TInv w2 w' cb tb rb H L' p lv ts vs :=
  ⟨grow_trans h.grown hg, hc, (hg.block _ (lt_of_block h.blk) (by simpa using ht)).trans h.blk, (hg.block _ (lt_of_block h.res) (by simpa using hr)).trans h.res, h.list.keep hg hcH, Nat.le_trans h.hz hg.size⟩

theorem TInv.alloc {w2 w : World} {cb tb rb H : Nat} {L : Int} {p : Int} {lv : Value} {ts : List Ty} {vs : List Value} (h : TInv w2 w cb tb rb H L p lv ts vs) (hcH : cb < H) (o : Obj) : TInv w2 (w.alloc o) cb tb rb H L p lv ts vs :=
  ⟨grow_trans h.grown (grow_any (Lf.gb _)), heap_keep h.left, heap_keep h.blk, heap_keep h.res, h.list.keep (grow_any (Lf.gb _)) hcH, by rw [World.size_alloc]; exact Nat.le_succ_of_le h.hz⟩

theorem TInv.push {w2 w w' : World} {cb tb rb H S : Nat} {L : Int} {p : Int} {lv lv' u : Value} {ts : List Ty} {vs : List Value} {t : Ty} (h : TInv w2 w cb tb rb H L p lv ts vs) (hcb : cb < w2.heap.size) (ht : w2.heap.size ≤ tb) (htH : tb < H) (hr : w2.heap.size ≤ rb) (hrH : rb < H) (hrt : rb ≠ tb) (hS : H ≤ S)
    (hvS : ∀ k, lv.ownBlock = some k → k < S) (hL : LiesT (S ≤ ·) w t u) (hg : Gr w lv w' lv') (ho : OwnsT H w' lv' (vs ++ [u])) : TInv w2 (w'.setCell ⟨tb, 1, none⟩ lv') cb tb rb H L p lv' (ts ++ [t]) (vs ++ [u]) := by
  have hset : w'.grownBy (w'.setCell ⟨tb, 1, none⟩ lv') (some tb) := grow_set (grow_refl _ _) _ _ _
  have kb : w'.heap[tb]? = _ := (hg.block (lt_of_block h.blk) (own_lt_ne h.list.own htH)).trans h.blk
  have kr : w'.heap[rb]? = _ := (hg.block (lt_of_block h.res) (own_lt_ne h.list.own hrH)).trans h.res
  have kc : w'.heap[cb]? = _ := (hg.block (lt_of_block h.left) (own_lt_ne h.list.own (by omega))).trans h.left
  refine ⟨?_, ?_, ?_, ?_, (h.list.push hS hvS hL hg ho).keep hset htH, ?_⟩
  · refine ⟨hg.1.os.trans h.grown.os, hg.1.tape.trans h.grown.tape, hg.1.output.trans h.grown.output, Nat.le_trans h.grown.size (Nat.le_trans hg.1.size hset.size), fun i hi hr => ?_⟩
    rw [hset.block i (by have := h.grown.size; have := hg.1.size; omega) (by simp; omega), hg.block (by have := h.grown.size; omega) (own_lt_ne h.list.own (by omega))]
    exact h.grown.block i hi hr
  · exact (hset.block cb (lt_of_block kc) (by simp; omega)).trans kc
  · have := heap_setCell_same w' tb 1 _ _ lv' kb
    simpa using this
  · exact (hset.block rb (lt_of_block kr) (by simpa using hrt)).trans kr
  · have := h.hz; have := hg.1.size; have := hset.size; omega

/-- the world ahead of typeOf's loop -/
def tw0 (w : World) (cb : Nat) (L : Int) (k n p : Int) (s : ByteArray) (a : Option Addr) (l c : Nat) : World :=
  (((w.setCell ⟨cb, 0, none⟩ (.int .i64 (L - 1))).alloc (.cells #[.int .i64 k, .int .i64 n, .int .i64 p, .string s, .slice a l c] 24)).alloc (.cells #[.int .i64 0, .slice none 0 0] 39)).alloc (.cells #[.int .i64 p, .slice none 0 0] 39)

theorem tw0_inv {w : World} {cb : Nat} {L : Int} {k n p : Int} {s : ByteArray} {a : Option Addr} {l c : Nat} (h : LeftAt w cb L) : TInv w (tw0 w cb L k n p s a l c) cb (w.heap.size + 1 + 1) (w.heap.size + 1) (w.heap.size + 1 + 1 + 1) (L - 1) p (.slice none 0 0) [] [] := by
  have e1 := heap_alloc_new ((w.setCell ⟨cb, 0, none⟩ (.int .i64 (L - 1))).alloc (.cells #[.int .i64 k, .int .i64 n, .int .i64 p, .string s, .slice a l c] 24)) (.cells #[.int .i64 0, .slice none 0 0] 39)
  have e2 := heap_alloc_new (((w.setCell ⟨cb, 0, none⟩ (.int .i64 (L - 1))).alloc (.cells #[.int .i64 k, .int .i64 n, .int .i64 p, .string s, .slice a l c] 24)).alloc (.cells #[.int .i64 0, .slice none 0 0] 39)) (.cells #[.int .i64 p, .slice none 0 0] 39)
  simp only [World.size_alloc, set_size] at e1 e2
  refine ⟨grow_trans (grow_trans (grow_trans (grow_set (grow_refl _ _) _ _ _) (grow_any (Lf.gb _))) (grow_any (Lf.gb _))) (grow_any (Lf.gb _)), heap_keep (heap_keep (heap_keep (one_setCell h))), e2, heap_keep e1, ListOkT.nil _ _, ?_⟩
  unfold tw0
  simp only [World.size_alloc, set_size]
  exact Nat.le_refl _

def TypePost (D : Nat) (L : Int) (t : Tr) (cb : Nat) (w2 : World) (e : Ending) (w' : World) : Prop :=
  w2.grownBy w' (some cb) ∧ ∃ u, e = .returned u ∧ LiesT (w2.heap.size ≤ ·) w' (typeF D L t).1 u ∧ LeftAt w' cb (typeF D L t).2

theorem liesT_zero {ok : Nat → Prop} {w : World} : LiesT ok w (.nd 0 []) (tyV 0 none 0 0) := LiesT.of (V := fun _ => .int .i64 0) ⟨by omega, by omega⟩ (RowT.nil _ _ _ _)

set_option maxRecDepth 100000 in
set_option maxHeartbeats 2000000 in
theorem type_no {cb : Nat} {t : Tr} {k n p : Int} {s : ByteArray} {a : Option Addr} {l c : Nat} (dI L : Int) (w2 : World) (hcb : LeftAt w2 cb L) (hL1 : L ≤ 300) (hL2 : -1000000000 ≤ L) (hd0 : 0 ≤ dI) (hd1 : dI ≤ 24) (hl : l ≤ maxLen) (hT : typeF dI.toNat L t = (.nd 0 [], L - 1)) (hw : ¬ (primHere k n s = true ∧ dI ≠ 0 ∧ 0 ≤ L - 1)) :
    Calls Try.prog 56 #[nodeV k n p s a l c, .int .i64 dI, .pointer (some ⟨cb, 0, none⟩)] w2 (TypePost dI.toNat L t cb w2) := by
  have c1 := cell_of_one hcb
  have c2 := free_of_one hcb
  have l1 : cb < w2.heap.size := lt_of_block hcb
  have l2 : cb < w2.heap.size + 1 := by omega
  have l3 : cb < w2.heap.size + 1 + 1 := by omega
  have HT := Lf.hide hT
  have HCB := Lf.hide hcb
  have hs : s.size = 0 ↔ s.toList.isEmpty = true := by
    have := Lf.nil_iff s
    rw [List.isEmpty_iff]; exact this.symm
  have hcases : (¬ k = 2 ∧ (k == 2) = false ∧ True) ∨ (k = 2 ∧ ¬ n = 0 ∧ (n == 0) = false) ∨ (k = 2 ∧ n = 0 ∧ s.toList.isEmpty = false) ∨ (k = 2 ∧ n = 0 ∧ s.toList.isEmpty = true ∧ dI = 0) ∨ (k = 2 ∧ n = 0 ∧ s.toList.isEmpty = true ∧ (¬ dI = 0 ∧ (dI == 0) = false) ∧ L - 1 < 0) := by
    by_cases h1 : k = 2
    · by_cases h2 : n = 0
      · by_cases h3 : s.toList.isEmpty = true
        · by_cases h4 : dI = 0
          · exact .inr (.inr (.inr (.inl ⟨h1, h2, h3, h4⟩)))
          · refine .inr (.inr (.inr (.inr ⟨h1, h2, h3, ⟨h4, by simpa using h4⟩, ?_⟩)))
            by_cases h5 : 0 ≤ L - 1
            · exact absurd ⟨by simp [primHere, h1, h2, hs.2 h3], h4, h5⟩ hw
            · omega
        · exact .inr (.inr (.inl ⟨h1, h2, by simpa using h3⟩))
      · exact .inr (.inl ⟨h1, h2, by simpa using h2⟩)
    · exact .inl ⟨h1, by simpa using h1, trivial⟩
  clear hcb hT hw hs
  have fin : ∀ e w', e = Ending.returned (tyV 0 none 0 0) → w2.grownBy w' (some cb) → LeftAt w' cb (L - 1) → TypePost dI.toNat L t cb w2 e w' := by
    intro e w' he hg hl
    refine ⟨hg, _, he, ?_, ?_⟩
    · rw [HT.out]; exact liesT_zero
    · rw [HT.out]; exact hl
  have FIN := Lf.hide fin
  clear fin
  unfold nodeV
  rcases hcases with ⟨h, h', _⟩ | ⟨rfl, h, h'⟩ | ⟨rfl, rfl, h⟩ | ⟨rfl, rfl, h, rfl⟩ | ⟨rfl, rfl, h, ⟨h', h3⟩, h''⟩
  all_goals
    go_enter Try.func56, Try.ntmps56
    go_wp2_with fail
    refine bodyPost_ret (v := tyV 0 none 0 0) (by simp [results, Try.results56, go_sem, tyV]) rfl (FIN.out _ _ rfl ?_ ?_)
    · exact grow_trans (grow_trans (grow_set (grow_refl _ _) _ _ _) (grow_any (Lf.gb _))) (grow_any (Lf.gb _))
    · exact heap_keep (heap_keep (one_setCell HCB.out))

end Go.Proofs.Ytjhhcdiipbjiaab
