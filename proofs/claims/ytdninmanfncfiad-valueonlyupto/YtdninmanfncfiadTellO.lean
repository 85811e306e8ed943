/- treeOf by its contract: the tree of a value, told with a count. -/
import Derived.Test.YtdninmanfncfiadTellW
import Derived.Test.YtdninmanfncfiadOrd
namespace Go.Proofs.Ytdninmanfncfiad
set_option maxRecDepth 20000
open Go.ChangeShapes Go.WideShapes Go.ChangeAt Go.RowKit
set_option linter.unusedVariables false

theorem own_lt_neW {w : World} {B : Nat} {e : TypeId} {size n : Nat} {v : Value} {xs : List Value} (h : w.ownsRow B e size v n xs) {y : Nat} (hy : y < B) : some y ≠ v.ownBlock := fun e => by have := (World.ownsRow.lt h y e.symm).1; omega

/-- the function that tells, as a value -/
def fnTell (cb tb : Nat) : Value := .func (.func 48) #[] #[.pointer (some ⟨cb, 0, none⟩), .pointer (some ⟨tb, 0, none⟩)]

def TellPost (cb c : Nat) (x : Va) (W : World) (e : Ending) (w' : World) : Prop :=
  W.grownBy w' (some cb) ∧ w'.heap[cb]? = some (.cells #[.int .i64 ((tellV c x).1 : Nat)] 3 (0, 0)) ∧ ∃ u, e = .returned u ∧ Lies (W.heap.size ≤ ·) w' (tellV c x).2 u

def TellOk (cb tb N : Nat) : Prop := ∀ (x : Va) (u : Value) (c : Nat) (W : World), x.size ≤ N → LiesV (· ≠ cb) W x u → W.heap[cb]? = some (.cells #[.int .i64 (c : Nat)] 3 (0, 0)) → W.heap[tb]? = some (.cells #[fnTell cb tb] 50 (0, 0)) → c ≤ 300 → x.size ≤ 20000000 →
  Calls Try.prog 48 #[u, .pointer (some ⟨cb, 0, none⟩), .pointer (some ⟨tb, 0, none⟩)] W (TellPost cb c x W)

structure TInv (W w : World) (cb tb : Nat) (B : Obj) (cj : Nat) (lv : Value) (ts : List Tr) (vs : List Value) : Prop where
  grown : W.grownBy w (some cb)
  blk : w.heap[W.heap.size]? = some B
  res : w.heap[W.heap.size + 1]? = some (.cells #[.int .i64 0, .int .i64 0, .int .i64 0, .string ⟨#[]⟩, .slice none 0 0] 27 (0, 0))
  cnt : w.heap[cb]? = some (.cells #[.int .i64 (cj : Nat)] 3 (0, 0))
  fn : w.heap[tb]? = some (.cells #[fnTell cb tb] 50 (0, 0))
  list : ListOk (W.heap.size + 1 + 1) w lv ts vs
  hz : W.heap.size + 1 + 1 ≤ w.heap.size

theorem lt_of_blk {w : World} {b : Nat} {o : Obj} (h : w.heap[b]? = some o) : b < w.heap.size := (Array.getElem?_eq_some_iff.1 h).1

theorem TInv.call {W w w' : World} {cb tb : Nat} {B : Obj} {cj : Nat} {lv : Value} {ts : List Tr} {vs : List Value} (h : TInv W w cb tb B cj lv ts vs) (hcl : cb < W.heap.size) (hg : w.grownBy w' none) : TInv W w' cb tb B cj lv ts vs :=
  ⟨grow_trans h.grown (grow_any hg), (hg.block _ (lt_of_blk h.blk) (by simp)).trans h.blk, (hg.block _ (lt_of_blk h.res) (by simp)).trans h.res, (hg.block _ (lt_of_blk h.cnt) (by simp)).trans h.cnt, (hg.block _ (lt_of_blk h.fn) (by simp)).trans h.fn, h.list.keep (rb := cb) (grow_any hg) (by omega), Nat.le_trans h.hz hg.size⟩

theorem TInv.told {W w w' : World} {cb tb : Nat} {B : Obj} {cj ck : Nat} {lv : Value} {ts : List Tr} {vs : List Value} (h : TInv W w cb tb B cj lv ts vs) (hcl : cb < W.heap.size) (hne : tb ≠ cb) (hg : w.grownBy w' (some cb)) (hc : w'.heap[cb]? = some (.cells #[.int .i64 (ck : Nat)] 3 (0, 0))) : TInv W w' cb tb B ck lv ts vs :=
  ⟨grow_trans h.grown hg, (hg.block _ (lt_of_blk h.blk) (by simp; omega)).trans h.blk, (hg.block _ (lt_of_blk h.res) (by simp; omega)).trans h.res, hc, (hg.block _ (lt_of_blk h.fn) (by simpa using hne)).trans h.fn, h.list.keep (rb := cb) hg (by omega), Nat.le_trans h.hz hg.size⟩

theorem TInv.push {W w w' : World} {cb tb S : Nat} {B : Obj} {cj : Nat} {lv lv' u : Value} {ts : List Tr} {vs : List Value} {t : Tr} (h : TInv W w cb tb B cj lv ts vs) (hcl : cb < W.heap.size) (htl : tb < W.heap.size) (hS : W.heap.size + 1 + 1 ≤ S) (hvS : ∀ k, lv.ownBlock = some k → k < S) (hL : Lies (S ≤ ·) w t u) (hg : Gr w lv w' lv') (ho : OwnsL (W.heap.size + 1 + 1) w' lv' (vs ++ [u])) : TInv W w' cb tb B cj lv' (ts ++ [t]) (vs ++ [u]) := by
  have key : ∀ {k : Nat} {o : Obj}, w.heap[k]? = some o → k < W.heap.size + 1 + 1 → w'.heap[k]? = some o := fun h1 h2 => (hg.block (lt_of_blk h1) (own_lt_neW h.list.own h2)).trans h1
  refine ⟨?_, key h.blk (by omega), key h.res (by omega), key h.cnt (by omega), key h.fn (by omega), h.list.push hS hvS hL hg ho, Nat.le_trans h.hz hg.1.size⟩
  exact ⟨hg.1.os.trans h.grown.os, hg.1.tape.trans h.grown.tape, hg.1.output.trans h.grown.output, Nat.le_trans h.grown.size hg.1.size, fun i hi hr => (hg.block (by have := h.grown.size; omega) (own_lt_neW h.list.own (by omega))).trans (h.grown.block i hi hr)⟩

theorem TInv.fin {W w0 w4 : World} {cb tb : Nat} {B : Obj} {cj : Nat} {lv : Value} {ts : List Tr} {vs : List Value} (h : TInv W w0 cb tb B cj lv ts vs) (hcl : cb < W.heap.size) (hg : w0.grownBy w4 none) {t : Tr} {ku nu pu : Int} {su : ByteArray} {au : Option Addr} {lu cu : Nat} (hL : Lies (W.heap.size + 1 + 1 ≤ ·) w4 t (nodeV ku nu pu su au lu cu)) :
    W.grownBy (set5 w4 (W.heap.size + 1) (.int .i64 ku) (.int .i64 nu) (.int .i64 pu) (.string su) (.slice au lu cu)) (some cb) ∧ (set5 w4 (W.heap.size + 1) (.int .i64 ku) (.int .i64 nu) (.int .i64 pu) (.string su) (.slice au lu cu)).heap[cb]? = some (.cells #[.int .i64 (cj : Nat)] 3 (0, 0)) ∧
    Lies (W.heap.size ≤ ·) (set5 w4 (W.heap.size + 1) (.int .i64 ku) (.int .i64 nu) (.int .i64 pu) (.string su) (.slice au lu cu)) t (nodeV ku nu pu su au lu cu) ∧ (set5 w4 (W.heap.size + 1) (.int .i64 ku) (.int .i64 nu) (.int .i64 pu) (.string su) (.slice au lu cu)).heap[W.heap.size + 1]? = some (.cells #[.int .i64 ku, .int .i64 nu, .int .i64 pu, .string su, .slice au lu cu] 27 (0, 0)) := by
  have h4 := h.call hcl hg
  have hgs := set5_grow w4 (W.heap.size + 1) (.int .i64 ku) (.int .i64 nu) (.int .i64 pu) (.string su) (.slice au lu cu)
  refine ⟨grow_new h4.grown hgs (by omega), (hgs.block cb (lt_of_blk h4.cnt) (by simp; omega)).trans h4.cnt, ?_, set5_block h4.res _ _ _ _ _⟩
  exact (hL.same (fun b o hb hlt => World.cell?_of_block (hgs.block b hlt (by simp; have : W.heap.size + 1 + 1 ≤ b := hb; omega)))).okMono (fun b _ hb => by have : W.heap.size + 1 + 1 ≤ b := hb; omega)

theorem tellV_eq (c : Nat) (x : Va) : tellV c x = ((tellVs (c + 1) x.args).1, writtenF x (tellVs (c + 1) x.args).2) := by cases x; rw [tellV]; rfl

theorem TInv.slice {W w : World} {cb tb : Nat} {B : Obj} {cj : Nat} {lv : Value} {ts : List Tr} {vs : List Value} (h : TInv W w cb tb B cj lv ts vs) : ∃ la lc, lv = .slice la vs.length lc := by
  obtain ⟨la, lc, _, hh, _, _⟩ := h.list.done
  exact ⟨la, lc, by rw [hh, h.list.len]⟩

/-- the trees are at hand for written -/
theorem TInv.wr {W w : World} {cb tb : Nat} {B : Obj} {cj : Nat} {la : Option Addr} {lc : Nat} {ts : List Tr} {vs : List Value} (h : TInv W w cb tb B cj (.slice la vs.length lc) ts vs) (hl : ts.length ≤ 20000000) (x : Va) (aa : Option Addr) (al ac : Nat) (ta : Option Addr) (tl tc : Nat) (na : Option Addr) (nl nc : Nat) (iN : I64 x.n) (hs : x.s.size ≤ maxLen) :
    Calls Try.prog 49 #[vaV x.k x.n x.a x.s aa al ac ta tl tc na nl nc, .slice la vs.length lc] w (WrPost (W.heap.size + 1 + 1 ≤ ·) w (writtenF x ts)) := by
  obtain ⟨a, c, V, hv, hn, hl2⟩ := h.list.done
  rw [hv]
  exact writ_any x aa al ac ta tl tc na nl nc ⟨by unfold maxLen; omega, hn, hl2⟩ (fun b hb => by have := h.hz; omega) (by omega) iN hs

end Go.Proofs.Ytdninmanfncfiad
