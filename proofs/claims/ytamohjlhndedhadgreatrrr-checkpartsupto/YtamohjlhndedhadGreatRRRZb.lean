import Derived.Test.YtamohjlhndedhadGreatRRRKindB
namespace Go.Proofs.YtamohjlhndedhadGreatRRR
set_option maxRecDepth 100000
set_option maxHeartbeats 4000000
open Go.ChangeShapes Go.WideShapes Go.ChangeAt Go.RowKit
def primHere (k n : Int) (s : ByteArray) : Bool := decide (k = 2 /\ n = 0 /\ s.size = 0)
mutual
def primB : Tr -> Bool
 | .nd k n _ s args => primHere k n s && primBs args
def primBs : List Tr -> Bool
 | [] => true
 | t :: ts => primB t && primBs ts
end
mutual
def kreadT : Tr -> Ty
 | .nd _ _ p _ args => .nd p (kreadTs args)
def kreadTs : List Tr -> List Ty
 | [] => []
 | t :: ts => kreadT t :: kreadTs ts
end
theorem readTs_map (l : List Tr) : kreadTs l = l.map kreadT := by
 induction l with
 | nil => rfl
 | cons t ts ih => simp [kreadTs, ih]
theorem primBs_all (l : List Tr) : primBs l = l.all primB := by
 induction l with
 | nil => rfl
 | cons t ts ih => simp [primBs, ih]
def readAt (m : Nat) (t : Tr) : Bool := primB t && decide (m + t.size <= 300)
def KReadPost (m : Nat) (t : Tr) (cb : Nat) (w2 : World) (e : Ending) (w' : World) : Prop :=
 w2.grownBy w' (some cb) /\ ((readAt m t = true /\ ∃ u, e = .returned (.tuple #[u, .bool true]) /\ LiesT (w2.heap.size <= ·) w' (kreadT t) u /\ CountAt w' cb (m + t.size)) \/
  (readAt m t = false /\ e = .returned (.tuple #[tyV 0 none 0 0, .bool false])))
def set2 (w : World) (b : Nat) (x y : Value) : World := (w.setCell ⟨b, 0, none⟩ x).setCell ⟨b, 1, none⟩ y
theorem set2_block {w : World} {b : Nat} {x0 y0 : Value} {T : TypeId} (h : w.heap[b]? = some (.cells #[x0, y0] T (0, 0))) (x y : Value) : (set2 w b x y).heap[b]? = some (.cells #[x, y] T (0, 0)) := by
 unfold set2
 have h1 := heap_setCell_same w b 0 #[x0, y0] T x h
 have h2 := heap_setCell_same (w.setCell ⟨b, 0, none⟩ x) b 1 _ T y h1
 simpa using h2
theorem set2_grow (w : World) (b : Nat) (x y : Value) : w.grownBy (set2 w b x y) (some b) := grow_set (grow_set (gRf _ _) _ _ _) _ _ _
set_option linter.unusedVariables false
theorem read_no {cb : Nat} {t : Tr} {k n p : Int} {s : ByteArray} {a : Option Addr} {l c : Nat} (m : Nat) (w2 : World) (hcb : CountAt w2 cb m) (hm : m <= 300) (hl : l <= maxLen) (hT : readAt m t = false) (hw : m = 300 \/ primHere k n s = false) :
 Calls Tryz.prog 84 #[nodeV k n p s a l c, .pointer (some ⟨cb, 0, none⟩)] w2 (KReadPost m t cb w2) := by
 have hs : Hid (s.toList = [] ↔ s.size = 0) := Lf.nil_iff s
 have c1 := cell_of_one hcb
 have c2 := free_of_one hcb
 have l1 : cb < w2.heap.size := lt_of_block hcb
 have l2 : cb < w2.heap.size + 1 := by omega
 have l3 : cb < w2.heap.size + 1 + 1 := by omega
 have HT := jh hT
 clear hcb hT
 unfold nodeV
 by_cases hm3 : m = 300
 ·have hm' : (300 : Int) < (m : Int) + 1 := by omega
  clear hw
  go_enter Tryz.func84, Tryz.ntmps84
  go_wp2_with fail
  refine bodyPost_ret (v := .tuple #[tyV 0 none 0 0, .bool false]) (by simp [results, Tryz.results84, go_sem, tyV]) rfl ⟨?_, .inr ⟨HT.out, rfl⟩⟩
  exact grow_trans (grow_trans (grow_set (gRf _ _) _ _ _) (gAq (Lf.gb _))) (gAq (Lf.gb _))
 ·have hm' : (m : Int) + 1 <= 300 := by omega
  have hp : primHere k n s = false := by
   rcases hw with h | h
   ·exact absurd h hm3
   ·exact h
  have hq : ¬ (k = 2 /\ n = 0 /\ s.size = 0) := by simpa [primHere] using hp
  rcases (show k ≠ 2 \/ (k = 2 /\ n ≠ 0) \/ (k = 2 /\ n = 0 /\ s.size ≠ 0) from by omega) with h | ⟨rfl, h⟩ | ⟨rfl, rfl, h⟩
  ·have h1 : (k == 2) = false := by simpa using h
   clear hw hp hq
   go_enter Tryz.func84, Tryz.ntmps84
   go_wp2_with fail
   refine bodyPost_ret (v := .tuple #[tyV 0 none 0 0, .bool false]) (by simp [results, Tryz.results84, go_sem, tyV]) rfl ⟨?_, .inr ⟨HT.out, rfl⟩⟩
   exact grow_trans (grow_trans (grow_set (gRf _ _) _ _ _) (gAq (Lf.gb _))) (gAq (Lf.gb _))
  ·have h1 : (n == 0) = false := by simpa using h
   clear hw hp hq
   go_enter Tryz.func84, Tryz.ntmps84
   go_wp2_with fail
   refine bodyPost_ret (v := .tuple #[tyV 0 none 0 0, .bool false]) (by simp [results, Tryz.results84, go_sem, tyV]) rfl ⟨?_, .inr ⟨HT.out, rfl⟩⟩
   exact grow_trans (grow_trans (grow_set (gRf _ _) _ _ _) (gAq (Lf.gb _))) (gAq (Lf.gb _))
  ·have h1 : s.toList.isEmpty = false := by
    have := hs.out
    cases hl : s.toList with
    | nil => exact absurd (this.1 hl) h
    | cons x y => rfl
   clear hw hp hq hs
   go_enter Tryz.func84, Tryz.ntmps84
   go_wp2_with fail
   refine bodyPost_ret (v := .tuple #[tyV 0 none 0 0, .bool false]) (by simp [results, Tryz.results84, go_sem, tyV]) rfl ⟨?_, .inr ⟨HT.out, rfl⟩⟩
   exact grow_trans (grow_trans (grow_set (gRf _ _) _ _ _) (gAq (Lf.gb _))) (gAq (Lf.gb _))
structure RInv (w2 w : World) (cb tb rb H m : Nat) (p : Int) (lv : Value) (ts : List Ty) (vs : List Value) : Prop where
 grown : w2.grownBy w (some cb)
 count : CountAt w cb m
 small : m <= 300
 blk : w.heap[tb]? = some (.cells #[.int .i64 p, lv] 44 (0, 0))
 res : w.heap[rb]? = some (.cells #[.int .i64 0, .slice none 0 0] 44 (0, 0))
 list : ListOkT H w lv ts vs
 hz : H <= w.heap.size
theorem RInv.next {w2 w w' : World} {cb tb rb H m m' : Nat} {p : Int} {lv : Value} {ts : List Ty} {vs : List Value} (h : RInv w2 w cb tb rb H m p lv ts vs) (hg : w.grownBy w' (some cb)) (ht : tb ≠ cb) (hr : rb ≠ cb) (hcH : cb < H) (hc : CountAt w' cb m') (hm : m' <= 300) : RInv w2 w' cb tb rb H m' p lv ts vs :=
 ⟨grow_trans h.grown hg, hc, hm, (hg.block _ (lt_of_block h.blk) (by simpa using ht)).trans h.blk, (hg.block _ (lt_of_block h.res) (by simpa using hr)).trans h.res, h.list.keep hg hcH, Nat.le_trans h.hz hg.size⟩
theorem RInv.alloc {w2 w : World} {cb tb rb H m : Nat} {p : Int} {lv : Value} {ts : List Ty} {vs : List Value} (h : RInv w2 w cb tb rb H m p lv ts vs) (hcH : cb < H) (o : Obj) : RInv w2 (w.alloc o) cb tb rb H m p lv ts vs :=
 ⟨grow_trans h.grown (gAq (Lf.gb _)), heap_keep h.count, h.small, heap_keep h.blk, heap_keep h.res, h.list.keep (gAq (Lf.gb _)) hcH, by rw [World.size_alloc]; exact Nat.le_succ_of_le h.hz⟩
theorem own_lt_ne {w : World} {B : Nat} {e : TypeId} {size n : Nat} {v : Value} {xs : List Value} (h : w.ownsRow B e size v n xs) {y : Nat} (hy : y < B) : some y ≠ v.ownBlock := fun e => by have := (World.ownsRow.lt h y e.symm).1; omega
theorem RInv.push {w2 w w' : World} {cb tb rb H m S : Nat} {p : Int} {lv lv' u : Value} {ts : List Ty} {vs : List Value} {t : Ty} (h : RInv w2 w cb tb rb H m p lv ts vs) (hcb : cb < w2.heap.size) (ht : w2.heap.size <= tb) (htH : tb < H) (hr : w2.heap.size <= rb) (hrH : rb < H) (hrt : rb ≠ tb) (hS : H <= S)
 (hvS : ∀ k, lv.ownBlock = some k -> k < S) (hL : LiesT (S <= ·) w t u) (hg : Gr w lv w' lv') (ho : OwnsT H w' lv' (vs ++ [u])) : RInv w2 (w'.setCell ⟨tb, 1, none⟩ lv') cb tb rb H m p lv' (ts ++ [t]) (vs ++ [u]) := by
 have hset : w'.grownBy (w'.setCell ⟨tb, 1, none⟩ lv') (some tb) := grow_set (gRf _ _) _ _ _
 have kb : w'.heap[tb]? = _ := (hg.block (lt_of_block h.blk) (own_lt_ne h.list.own htH)).trans h.blk
 have kr : w'.heap[rb]? = _ := (hg.block (lt_of_block h.res) (own_lt_ne h.list.own hrH)).trans h.res
 have kc : w'.heap[cb]? = _ := (hg.block (lt_of_block h.count) (own_lt_ne h.list.own (by omega))).trans h.count
 refine ⟨?_, ?_, h.small, ?_, ?_, (h.list.push hS hvS hL hg ho).keep hset htH, ?_⟩
 ·refine ⟨hg.1.os.trans h.grown.os, hg.1.tape.trans h.grown.tape, hg.1.output.trans h.grown.output, Nat.le_trans h.grown.size (Nat.le_trans hg.1.size hset.size), fun i hi hr => ?_⟩
  rw [hset.block i (by have := h.grown.size; have := hg.1.size; omega) (by simp; omega), hg.block (by have := h.grown.size; omega) (own_lt_ne h.list.own (by omega))]
  exact h.grown.block i hi hr
 ·exact (hset.block cb (lt_of_block kc) (by simp; omega)).trans kc
 ·have := heap_setCell_same w' tb 1 _ _ lv' kb
  simpa using this
 ·exact (hset.block rb (lt_of_block kr) (by simpa using hrt)).trans kr
 ·have := h.hz; have := hg.1.size; have := hset.size; omega
def rw0 (w : World) (cb m : Nat) (k n p : Int) (s : ByteArray) (a : Option Addr) (l c : Nat) : World :=
 (((w.setCell ⟨cb, 0, none⟩ (.int .i64 ((m : Int) + 1))).alloc (.cells #[.int .i64 k, .int .i64 n, .int .i64 p, .string s, .slice a l c] 24)).alloc (.cells #[.int .i64 0, .slice none 0 0] 44)).alloc (.cells #[.int .i64 p, .slice none 0 0] 44)
theorem rw0_inv {w : World} {cb m : Nat} {k n p : Int} {s : ByteArray} {a : Option Addr} {l c : Nat} (h : CountAt w cb m) (hm : m + 1 <= 300) : RInv w (rw0 w cb m k n p s a l c) cb (w.heap.size + 1 + 1) (w.heap.size + 1) (w.heap.size + 1 + 1 + 1) (m + 1) p (.slice none 0 0) [] [] := by
 have e1 := heap_alloc_new ((w.setCell ⟨cb, 0, none⟩ (.int .i64 ((m : Int) + 1))).alloc (.cells #[.int .i64 k, .int .i64 n, .int .i64 p, .string s, .slice a l c] 24)) (.cells #[.int .i64 0, .slice none 0 0] 44)
 have e2 := heap_alloc_new (((w.setCell ⟨cb, 0, none⟩ (.int .i64 ((m : Int) + 1))).alloc (.cells #[.int .i64 k, .int .i64 n, .int .i64 p, .string s, .slice a l c] 24)).alloc (.cells #[.int .i64 0, .slice none 0 0] 44)) (.cells #[.int .i64 p, .slice none 0 0] 44)
 simp only [World.size_alloc, set_size] at e1 e2
 refine ⟨grow_trans (grow_trans (grow_trans (grow_set (gRf _ _) _ _ _) (gAq (Lf.gb _))) (gAq (Lf.gb _))) (gAq (Lf.gb _)), heap_keep (heap_keep (heap_keep (one_setCell h))), hm, e2, heap_keep e1, ListOkT.nil _ _, ?_⟩
 unfold rw0
 simp only [World.size_alloc, set_size]
 exact Nat.le_refl _
theorem readAt_nd (m : Nat) (k n p : Int) (s : ByteArray) (args : List Tr) (h : primHere k n s = true) : readAt m (.nd k n p s args) = (primBs args && decide (m + 1 + sizes args <= 300)) := by
 simp only [readAt, primB, Tr.size, h, Bool.true_and, show m + (sizes args + 1) = m + 1 + sizes args from by omega]
theorem readAt_no {m : Nat} {args : List Tr} {j : Nat} (hj : j < args.length) (h : readAt (m + sizes (args.take j)) args[j] = false) : (primBs args && decide (m + sizes args <= 300)) = false := by
 cases hq : (primBs args && decide (m + sizes args <= 300)) with
 | false => rfl
 | true =>
  simp only [Bool.and_eq_true, decide_eq_true_eq, primBs_all, List.all_eq_true] at hq
  have h1 := hq.1 args[j] (List.getElem_mem hj)
  have h2 := sizes_take_succ args j hj
  have h3 := sizes_take_le args (j + 1)
  simp [readAt, h1] at h
  omega
theorem grow_set2 {w0 w : World} {b : Nat} {r : Option Nat} (h : w0.grownBy w r) (hb : w0.heap.size <= b) (x y : Value) : w0.grownBy (set2 w b x y) r := by
 have hg := set2_grow w b x y
 exact ⟨hg.os.trans h.os, hg.tape.trans h.tape, hg.output.trans h.output, Nat.le_trans h.size hg.size, fun i hi hr => (hg.block i (Nat.lt_of_lt_of_le hi h.size) (by simp; omega)).trans (h.block i hi hr)⟩
theorem read_any {cb : Nat} {w : World} {t : Tr} {v : Value} (hL : Lies (· ≠ cb) w t v) : ∀ (m : Nat) (w2 : World), Same (· ≠ cb) w w2 -> w.heap.size <= w2.heap.size -> CountAt w2 cb m -> m <= 300 ->
 Calls Tryz.prog 84 #[v, .pointer (some ⟨cb, 0, none⟩)] w2 (KReadPost m t cb w2) := by
 induction hL with
 | @mk k n p s args a c V hl hS ik iN ip hc hr ih =>
  intro m w2 hsame hz hcb hm
  by_cases hw : m = 300 \/ primHere k n s = false
  ·refine read_no m w2 hcb hm hl ?_ hw
   simp only [readAt, primB, Tr.size]
   rcases hw with h | h
   ·simp [show ¬ m + (sizes args + 1) <= 300 from by omega]
   ·simp [h]
  have hm3 : m + 1 <= 300 := by omega
  have hpr : primHere k n s = true := by
   cases h : primHere k n s with
   | true => rfl
   | false => exact absurd (.inr h) hw
  have hI0 := rw0_inv (k := k) (n := n) (p := p) (s := s) (a := a) (l := args.length) (c := c) hcb hm3
  have hres := readAt_nd m k n p s args hpr
  have hrt : kreadT (.nd k n p s args) = .nd p (args.map kreadT) := by rw [kreadT, readTs_map]
  have hsz : (Tr.nd k n p s args).size = sizes args + 1 := by rw [Tr.size]
  simp only [primHere, decide_eq_true_eq] at hpr
  obtain ⟨rfl, rfl, hs0⟩ := hpr
  have hs1 : s.toList.isEmpty = true := by
   have := (Lf.nil_iff s).2 hs0
   rw [this]; rfl
  have c1 := cell_of_one hcb
  have c2 := free_of_one hcb
  have l1 : cb < w2.heap.size := lt_of_block hcb
  have l2 : cb < w2.heap.size + 1 := by omega
  have l3 : cb < w2.heap.size + 1 + 1 := by omega
  have hm' : (m : Int) + 1 <= 300 := by omega
  have IH := jh ih
  have HC := jh hc
  have HS := jh hsame
  have HI0 := jh hI0
  have HRES := jh hres
  have HRT := jh hrt
  have HSZ := jh hsz
  unfold maxLen at hl
  clear ih hc hr hsame hI0 hres hrt hsz hcb hw
  unfold nodeV
  go_enter Tryz.func84, Tryz.ntmps84
  go_wp2_with fail
  go_loopw [41] (fun i wr => ∃ (j : Nat) (lv : Value) (vs : List Value), j <= args.length /\ i = .int .i64 j /\ RInv w2 wr cb (w2.heap.size + 1 + 1) (w2.heap.size + 1) (w2.heap.size + 1 + 1 + 1) (m + 1 + sizes (args.take j)) p lv ((args.take j).map kreadT) vs /\ primBs (args.take j) = true) (fun i _ => args.length - (intOf i).toNat)
  case atStart => exact ⟨0, _, _, Nat.zero_le _, rfl, HI0.out, by simp [primBs]⟩
  case round =>
   obtain ⟨j, lv, vs, hj, rfl, hI, hpb⟩ := hrel
   have hlv : ∃ la lc, lv = .slice la (List.map kreadT (List.take j args)).length lc := by
    obtain ⟨la, lc, _, h, _, _⟩ := hI.list.done
    exact ⟨la, lc, h⟩
   obtain ⟨la, lc, rfl⟩ := hlv
   generalize hql : (List.map kreadT (List.take j args)).length = ql at *
   have hqv : ql = vs.length := by rw [← hql]; exact hI.list.len.symm
   have b0 := cell0_of hI.blk
   have b1 := cell1_of hI.blk
   have r0 := cell0_of hI.res
   have r1 := cell1_of hI.res
   by_cases hlt : j < args.length
   ·obtain ⟨b, o, rfl, hne, k', n', p', s', a', l', c', hv, e0, e1, e2, e3, e4⟩ := (HC.out j hlt).same (HS.out.grown hz hI.grown (by simp))
    have hI1 := hI.alloc (by omega) (.cells #[.int .i64 k', .int .i64 n', .int .i64 p', .string s', .slice a' l' c'] 24)
    have hih := IH.out j hlt (m + 1 + sizes (args.take j)) (wr.alloc (.cells #[.int .i64 k', .int .i64 n', .int .i64 p', .string s', .slice a' l' c'] 24)) (HS.out.grown hz hI1.grown (by simp)) (by have := hI1.grown.size; omega) hI1.count hI1.small
    rw [hv] at hih
    unfold nodeV at hih
    have HIH := jh hih
    have HI1 := jh hI1
    have HPB := jh hpb
    have HQ := jh hqv
    have HQL := jh hql
    have hzw : w2.heap.size + 1 + 1 + 1 <= wr.heap.size := hI.hz
    have HOB : Hid (∀ k, (Value.slice la ql lc).ownBlock = some k -> k < wr.heap.size) := fun k hk => (World.ownsRow.lt hI.list.own k hk).2
    clear hih hI1 hI hpb hv hqv hql
    go_wp2_with fail
    refine HIH.out.mono ?_; rintro e w3 ⟨hg3, hp3⟩
    have hz3 : wr.heap.size < w3.heap.size := by have := hg3.size; simp at this; omega
    rcases hp3 with ⟨hra, u, rfl, hLu, hcu⟩ | ⟨hra, rfl⟩
    ·obtain ⟨kt, at', lt', ct', rfl⟩ := hLu.tyV
     have hsm : m + 1 + sizes (args.take j) + (args[j]).size <= 300 := by simp [readAt] at hra; exact hra.2
     have hI3 := HI1.out.next hg3 (by omega) (by omega) (by omega) hcu hsm
     have q0 := cell0_of hI3.blk
     have q1 := cell1_of hI3.blk
     have lq : w2.heap.size + 1 + 1 < w3.heap.size := lt_of_block hI3.blk
     have lq' : w2.heap.size + 1 + 1 < w3.heap.size + 1 := by omega
     have hI4 := hI3.alloc (by omega) (.cells #[.int .i64 kt, .slice at' lt' ct'] 44)
     have hLu4 := hLu.same (w' := w3.alloc (.cells #[.int .i64 kt, .slice at' lt' ct'] 44)) (fun b o _ hb => World.cell?_alloc_lt _ _ _ hb)
     have HI4 := jh hI4
     have HLU := jh hLu4
     have HRA := jh hra
     have HSM := jh hsm
     have hvl : vs.length <= 1000000000000 := by
      have h1 := HQ.out
      have h2 := HQL.out
      have h3 := length_le_sizes (args.take j)
      rw [List.length_map] at h2
      omega
     have hw4 : w2.heap.size + 1 + 1 + 1 <= (w3.alloc (.cells #[.int .i64 kt, .slice at' lt' ct'] 44)).heap.size := hI4.hz
     clear hI3 hI4 hLu hLu4 hcu hg3 hra hsm HIH HI1
     unfold tyV
     go_wp2_with (at_builtin; refine appT (w2.heap.size + 1 + 1 + 1) vs kt at' lt' ct' (w3.alloc (.cells #[.int .i64 kt, .slice at' lt' ct'] 44)) (.slice la ql lc) rfl (.tmp 55) (.tmp 57) rfl rfl rfl (World.size_alloc _ _) HI4.out.list.own hw4 hvl ?_; intro g cap w5 ho5 hg5; have HO5 := jh ho5; have HG5 := jh hg5; clear ho5 hg5; have HI5 := jh (HI4.out.push (S := (wr.alloc (.cells #[.int .i64 k', .int .i64 n', .int .i64 p', .string s', .slice a' l' c'] 24)).heap.size) (by omega) (by omega) (by omega) (by omega) (by omega) (by omega) (by simp; omega) (fun k hk => by have := HOB.out k hk; simp; omega) HLU.out HG5.out HO5.out); have k5 := (HG5.out.block (lt_of_block HI4.out.blk) (own_lt_ne HI4.out.list.own (by omega))).trans HI4.out.blk; have m5 := cell1_of k5; have m6 := free2_of k5; clear k5)
     have h5 : RInv w2 (w5.setCell ⟨w2.heap.size + 1 + 1, 1, none⟩ (.slice (some ⟨g, 0, none⟩) (vs.length + 1) cap)) cb (w2.heap.size + 1 + 1) (w2.heap.size + 1) (w2.heap.size + 1 + 1 + 1) (m + 1 + sizes (args.take (j + 1))) p (.slice (some ⟨g, 0, none⟩) (vs.length + 1) cap) ((args.take (j + 1)).map kreadT) (vs ++ [tyV kt at' lt' ct']) := by
      have h := HI5.out
      rw [sizes_take_succ args j hlt, ← Nat.add_assoc, List.take_succ_eq_append_getElem hlt, List.map_append]
      exact h
     have h6 : primBs (args.take (j + 1)) = true := by
      have h := HRA.out
      have h2 := HPB.out
      simp only [readAt, Bool.and_eq_true] at h
      rw [primBs_all] at h2 ⊢
      rw [List.take_succ_eq_append_getElem hlt, List.all_append, h2]
      simp [h.1]
     exact ⟨⟨j + 1, _, _, by omega, by go_num, h5, h6⟩, by simp [intOf]; omega⟩
    ·have hres3 := HI1.out.next hg3 (m' := 0) (by omega) (by omega) (by omega)
     have hrb3 : w3.heap[w2.heap.size + 1]? = some (.cells #[.int .i64 0, .slice none 0 0] 44 (0, 0)) := (hg3.block _ (lt_of_block HI1.out.res) (by simp; omega)).trans HI1.out.res
     have HRB3 := jh hrb3
     have q0 := cell0_of hrb3
     have q1 := cell1_of hrb3
     have q2 := free2_of hrb3
     have lq : w2.heap.size + 1 < w3.heap.size := lt_of_block hrb3
     have HG3 := jh (grow_trans HI1.out.grown hg3)
     have HRA := jh hra
     clear hres3 hrb3 hg3 hra HIH HI1
     unfold tyV
     go_wp2_with fail
     change bodyPost _ _ _ _ _ ((set2 w3 (w2.heap.size + 1) (.int .i64 0) (.slice none 0 0)).alloc (.cells #[.int .i64 0, .slice none 0 0] 44))
     have hb' := heap_keep (o := .cells #[.int .i64 0, .slice none 0 0] 44) (set2_block HRB3.out (.int .i64 0) (.slice none 0 0))
     have hg' := grow_trans (grow_set2 HG3.out (b := w2.heap.size + 1) (by omega) (.int .i64 0) (.slice none 0 0)) (gAq (Lf.gb (.cells #[.int .i64 0, .slice none 0 0] 44)))
     generalize (set2 w3 (w2.heap.size + 1) (.int .i64 0) (.slice none 0 0)).alloc (.cells #[.int .i64 0, .slice none 0 0] 44) = wf at *
     have z0 := cell0_of hb'
     have z1 := cell1_of hb'
     refine bodyPost_ret (v := .tuple #[tyV 0 none 0 0, .bool false]) (by simp [results, Tryz.results84, go_sem, z0, z1, tyV]) rfl ⟨hg', .inr ⟨?_, rfl⟩⟩
     rw [HRES.out]
     exact readAt_no hlt HRA.out
   ·have hje : j = args.length := by omega
    have f1 := free2_of hI.res
    have hz2 : w2.heap.size + 1 + 1 < wr.heap.size := lt_of_block hI.blk
    have HI := jh hI
    have HJ := jh hje
    have HPB := jh hpb
    have HQL := jh hql
    clear hI hje hpb hqv hql HC IH HS HI0
    go_wp2_with fail
    change bodyPost _ _ _ _ _ (set2 wr (w2.heap.size + 1) (.int .i64 p) (.slice la ql lc))
    have hb' := set2_block HI.out.res (.int .i64 p) (.slice la ql lc)
    have hg' := grow_set2 HI.out.grown (b := w2.heap.size + 1) (by omega) (.int .i64 p) (.slice la ql lc)
    have hgs := set2_grow wr (w2.heap.size + 1) (.int .i64 p) (.slice la ql lc)
    generalize set2 wr (w2.heap.size + 1) (.int .i64 p) (.slice la ql lc) = wf at *
    have z0 := cell0_of hb'
    have z1 := cell1_of hb'
    refine bodyPost_ret (v := .tuple #[tyV p la ql lc, .bool true]) (by simp [results, Tryz.results84, go_sem, z0, z1, tyV]) rfl ⟨hg', .inl ⟨?_, _, rfl, ?_, ?_⟩⟩
    ·have h1 := HPB.out
     have h2 := HI.out.small
     rw [HJ.out, List.take_length] at h1 h2
     rw [HRES.out, h1]
     simp; omega
    ·obtain ⟨a1, c1, V1, hv1, hd1, hd2⟩ := HI.out.list.done
     have e1 : List.map kreadT (List.take j args) = List.map kreadT args := by rw [HJ.out, List.take_length]
     rw [e1] at hv1 hd1
     simp only [e1] at hd2
     have hlen : (List.map kreadT args).length <= maxLen := by rw [List.length_map]; unfold maxLen; omega
     have hrow : RowT (w2.heap.size + 1 + 1 + 1 <= ·) wr (List.map kreadT args) a1 V1 := ⟨hlen, hd1, hd2⟩
     have hrow2 := (hrow.same (w' := wf) (fun b o hb hlt => World.cell?_of_block (hgs.block b hlt (by have : w2.heap.size + 1 + 1 + 1 <= b := hb; simp; omega)))).okMono (ok' := (w2.heap.size <= ·)) (fun b _ hb => by have : w2.heap.size + 1 + 1 + 1 <= b := hb; show _ <= b; omega)
     rw [HRT.out]
     have hv2 : tyV p la ql lc = tyV p a1 (List.map kreadT args).length c1 := by
      unfold tyV; rw [hv1]
     rw [hv2]
     exact LiesT.of ip hrow2 (own_capT HI.out.list.own hv1)
    ·have h := (hgs.block cb (lt_of_block HI.out.count) (by simp; omega)).trans HI.out.count
     rw [HJ.out, List.take_length] at h
     rw [HSZ.out, show m + (sizes args + 1) = m + 1 + sizes args from by omega]
     exact h
def parseB (t : Tr) : Bool := readAt 0 t && goodTy (kreadT t)
def KParsePost (t : Tr) (w : World) (e : Ending) (w' : World) : Prop :=
 w.grownBy w' none /\ ((parseB t = true /\ ∃ u, e = .returned (.tuple #[u, .int .i64 0]) /\ LiesT (w.heap.size <= ·) w' (kreadT t) u) \/ (parseB t = false /\ e = .returned (.tuple #[tyV 0 none 0 0, .int .i64 1])))
theorem Lies.grow {w w' : World} {t : Tr} {v : Value} (h : Lies (· < w.heap.size) w t v) (hg : w.grownBy w' none) : Lies (· < w'.heap.size) w' t v :=
 (h.same (w' := w') (fun b o hb _ => World.cell?_of_block (hg.block b hb (by simp)))).okMono (fun b hb _ => hb)
theorem Lies.form {ok : Nat -> Prop} {w : World} {t : Tr} {v : Value} (h : Lies ok w t v) : ∃ k n p s a l c, v = Go.Proofs.YtamohjlhndedhadGreatRRR.nodeV k n p s a l c /\ l <= maxLen := by
 cases h with
 | mk V hl => exact ⟨_, _, _, _, _, _, _, rfl, hl⟩
theorem kparse_any {w : World} {t : Tr} {v : Value} (hL : Lies (· < w.heap.size) w t v) : Calls Tryz.prog 69 #[v] w (KParsePost t w) := by
 obtain ⟨k, n, p, s, a, l, c, rfl, hl⟩ := hL.form
 have hgW : w.grownBy (((w.alloc (.cells #[.int .i64 k, .int .i64 n, .int .i64 p, .string s, .slice a l c] 24)).alloc (.cells #[.int .i64 0, .slice none 0 0] 44)).alloc (.cells #[.int .i64 0] 3)) none := Lf.gbt (Lf.gb _) (Lf.gbt (Lf.gb _) (Lf.gb _))
 have hcnt : CountAt (((w.alloc (.cells #[.int .i64 k, .int .i64 n, .int .i64 p, .string s, .slice a l c] 24)).alloc (.cells #[.int .i64 0, .slice none 0 0] 44)).alloc (.cells #[.int .i64 0] 3)) (w.heap.size + 1 + 1) 0 := by
  have := heap_alloc_new ((w.alloc (.cells #[.int .i64 k, .int .i64 n, .int .i64 p, .string s, .slice a l c] 24)).alloc (.cells #[.int .i64 0, .slice none 0 0] 44)) (.cells #[.int .i64 0] 3)
  simp only [World.size_alloc] at this
  exact this
 have hrb : (((w.alloc (.cells #[.int .i64 k, .int .i64 n, .int .i64 p, .string s, .slice a l c] 24)).alloc (.cells #[.int .i64 0, .slice none 0 0] 44)).alloc (.cells #[.int .i64 0] 3)).heap[w.heap.size + 1]? = some (.cells #[.int .i64 0, .slice none 0 0] 44 (0, 0)) := by
  have := heap_alloc_new (w.alloc (.cells #[.int .i64 k, .int .i64 n, .int .i64 p, .string s, .slice a l c] 24)) (.cells #[.int .i64 0, .slice none 0 0] 44)
  simp only [World.size_alloc] at this
  exact heap_keep this
 have hL2 : Lies (· ≠ w.heap.size + 1 + 1) (((w.alloc (.cells #[.int .i64 k, .int .i64 n, .int .i64 p, .string s, .slice a l c] 24)).alloc (.cells #[.int .i64 0, .slice none 0 0] 44)).alloc (.cells #[.int .i64 0] 3)) t (nodeV k n p s a l c) :=
  (hL.same (fun b o hb _ => World.cell?_of_block (hgW.block b hb (by simp)))).okMono (fun b _ hb => by have : b < w.heap.size := hb; show b ≠ _; omega)
 have hF := read_any hL2 0 _ (Same.refl _ _) (Nat.le_refl _) hcnt (by omega)
 have HGW := jh hgW
 have HRB := jh hrb
 have HF := jh hF
 clear hL hcnt hL2 hgW hrb hF
 unfold maxLen at hl
 unfold nodeV at HF ⊢
 go_enter Tryz.func69, Tryz.ntmps69
 go_wp2_with fail
 refine HF.out.mono ?_; rintro e w1 ⟨hg1, hp1⟩
 have hb1 : w1.heap[w.heap.size + 1]? = _ := (hg1.block _ (lt_of_block HRB.out) (by simp)).trans HRB.out
 have hG1 := grow_fresh HGW.out (by omega) hg1
 have HB1 := jh hb1
 have q2 := free2_of hb1
 have q0 := cell0_of hb1
 have q1 := cell1_of hb1
 have lq : w.heap.size + 1 < w1.heap.size := lt_of_block hb1
 rcases hp1 with ⟨hra, u, rfl, hLu, _⟩ | ⟨hra, rfl⟩
 ·obtain ⟨kt, at', lt', ct', rfl⟩ := hLu.tyV
  have hLu2 : LiesT (w.heap.size + 1 + 1 + 1 <= ·) w1 (kreadT t) (tyV kt at' lt' ct') := hLu.okMono (fun b _ hb => by simp only [World.size_alloc] at hb; exact hb)
  have hgd := kgood_any ((hLu2.okMono (ok' := (· < w1.heap.size)) (fun b hb _ => hb)).grow (Lf.gb (.cells #[.int .i64 kt, .slice at' lt' ct'] 44)))
  have HGD := jh hgd
  have HLU := jh hLu2
  have HG1 := jh hG1
  have hpb : parseB t = goodTy (kreadT t) := by simp [parseB, hra]
  have HPB := jh hpb
  clear hgd hLu hLu2 hG1 hg1 hra hpb hb1 HF
  unfold tyV at HGD ⊢
  go_wp2_with fail
  refine HGD.out.mono ?_; rintro e w2 ⟨rfl, hg2⟩
  have hb2 : w2.heap[w.heap.size + 1]? = _ := (hg2.block _ (by rw [World.size_alloc]; omega) (by simp)).trans (heap_keep HB1.out)
  have q2' := free2_of hb2
  have q0' := cell0_of hb2
  have q1' := cell1_of hb2
  have ht2 : w2.heap[w1.heap.size]? = some (.cells #[.int .i64 kt, .slice at' lt' ct'] 44 (0, 0)) := (hg2.block _ (by rw [World.size_alloc]; omega) (by simp)).trans (heap_alloc_new _ _)
  have t0 := cell0_of ht2
  have t1 := cell1_of ht2
  have HB2 := jh hb2
  have HG2 := jh (Lf.gbt HG1.out (Lf.gbt (Lf.gb _) hg2))
  have HGG := jh (Lf.gbt (Lf.gb _) hg2)
  clear hg2 hb2 ht2 HGD q0 q1 q2
  cases hgt : goodTy (kreadT t) with
  | true =>
   have HGT := jh hgt
   clear hgt
   go_wp2_with fail
   change bodyPost _ _ _ _ _ (set2 w2 (w.heap.size + 1) (.int .i64 kt) (.slice at' lt' ct'))
   have hb' := set2_block HB2.out (.int .i64 kt) (.slice at' lt' ct')
   have hg' := grow_set2 HG2.out (b := w.heap.size + 1) (by omega) (.int .i64 kt) (.slice at' lt' ct')
   have hgs := set2_grow w2 (w.heap.size + 1) (.int .i64 kt) (.slice at' lt' ct')
   generalize set2 w2 (w.heap.size + 1) (.int .i64 kt) (.slice at' lt' ct') = wf at *
   have z0 := cell0_of hb'
   have z1 := cell1_of hb'
   refine bodyPost_ret (v := .tuple #[tyV kt at' lt' ct', .int .i64 0]) (by simp [results, Tryz.results69, go_sem, z0, z1, tyV]) rfl ⟨hg', .inl ⟨by rw [HPB.out, HGT.out], _, rfl, ?_⟩⟩
   have h1 := HLU.out.same (w' := w2) (fun b o _ hlt => World.cell?_of_block (HGG.out.block b hlt (by simp)))
   exact (h1.same (w' := wf) (fun b o hb hlt => World.cell?_of_block (hgs.block b hlt (by have : w.heap.size + 1 + 1 + 1 <= b := hb; simp; omega)))).okMono (fun b _ hb => by have : w.heap.size + 1 + 1 + 1 <= b := hb; show _ <= b; omega)
  | false =>
   have HGT := jh hgt
   clear hgt
   go_wp2_with fail
   change bodyPost _ _ _ _ _ (set2 w2 (w.heap.size + 1) (.int .i64 0) (.slice none 0 0))
   have hb' := set2_block HB2.out (.int .i64 0) (.slice none 0 0)
   have hg' := grow_set2 HG2.out (b := w.heap.size + 1) (by omega) (.int .i64 0) (.slice none 0 0)
   generalize set2 w2 (w.heap.size + 1) (.int .i64 0) (.slice none 0 0) = wf at *
   have z0 := cell0_of hb'
   have z1 := cell1_of hb'
   exact bodyPost_ret (v := .tuple #[tyV 0 none 0 0, .int .i64 1]) (by simp [results, Tryz.results69, go_sem, z0, z1, tyV]) rfl ⟨hg', .inr ⟨by rw [HPB.out, HGT.out], rfl⟩⟩
 ·have hpb : parseB t = false := by simp [parseB, hra]
  have HPB := jh hpb
  have HG1 := jh hG1
  clear hpb hG1 hg1 hra hb1 HF
  unfold tyV
  go_wp2_with fail
  change bodyPost _ _ _ _ _ ((set2 w1 (w.heap.size + 1) (.int .i64 0) (.slice none 0 0)).alloc (.cells #[.int .i64 0, .slice none 0 0] 44))
  have hb' := heap_keep (o := .cells #[.int .i64 0, .slice none 0 0] 44) (set2_block HB1.out (.int .i64 0) (.slice none 0 0))
  have hg' := Lf.gbt (grow_set2 HG1.out (b := w.heap.size + 1) (by omega) (.int .i64 0) (.slice none 0 0)) (Lf.gb (.cells #[.int .i64 0, .slice none 0 0] 44))
  generalize (set2 w1 (w.heap.size + 1) (.int .i64 0) (.slice none 0 0)).alloc (.cells #[.int .i64 0, .slice none 0 0] 44) = wf at *
  have z0 := cell0_of hb'
  have z1 := cell1_of hb'
  exact bodyPost_ret (v := .tuple #[tyV 0 none 0 0, .int .i64 1]) (by simp [results, Tryz.results69, go_sem, z0, z1, tyV]) rfl ⟨hg', .inr ⟨HPB.out, rfl⟩⟩
end Go.Proofs.YtamohjlhndedhadGreatRRR
