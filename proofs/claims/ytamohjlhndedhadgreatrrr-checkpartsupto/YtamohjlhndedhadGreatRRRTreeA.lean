import Derived.Test.YtamohjlhndedhadGreatRRRBasis
import Derived.Lib.AppendStr
namespace Go.Proofs.YtamohjlhndedhadGreatRRR.Lf
set_option maxRecDepth 100000
set_option maxHeartbeats 4000000
open Go.ChangeShapes Go.WideShapes Go.ChangeAt Go.RowKit
def isKindB (k : Int) : Bool := decide (0 <= k /\ k <= 3)
def isPrimB (k : Int) : Bool := decide (1 <= k /\ k <= 15 \/ 20 <= k /\ k <= 28 \/ 40 <= k /\ k <= 95)
def moreB (k n p : Int) (s : ByteArray) (l : Nat) : Bool :=
 if k = 0 then decide (p ≠ 0 \/ s.size ≠ 0 \/ l ≠ 0) else if k = 1 then decide (n ≠ 0 \/ p ≠ 0 \/ l ≠ 0) else if k = 2 then decide (n ≠ 0 \/ s.size ≠ 0) else decide (n ≠ 0 \/ p ≠ 0 \/ s.size ≠ 0)
def wrongF (k n p : Int) (s : ByteArray) (l : Nat) : Int :=
 if isKindB k = false then 3 else if k = 2 /\ isPrimB p = false then 3 else if moreB k n p s l = true then 1
 else if n < -1152921504606846976 \/ 1152921504606846976 < n then 2 else if 200 < s.size then 4 else 0
theorem isKind_any (k : Int) (w : World) :
 Calls Tryz.prog 42 #[.int .i64 k] w fun e w' => e = .returned (.bool (isKindB k)) /\ w' = w := by
 go_enter Tryz.func42, Tryz.ntmps42
 go_wp2
 all_goals
  go_ret
  exact retb (by simp [isKindB]; try omega) rfl
theorem isPrim_any (k : Int) (w : World) :
 Calls Tryz.prog 43 #[.int .i64 k] w fun e w' => e = .returned (.bool (isPrimB k)) /\ w' = w := by
 go_enter Tryz.func43, Tryz.ntmps43
 go_wp2
 all_goals
  go_ret
  refine retb ?_ rfl
  rw [Bool.eq_iff_iff]
  simp [isPrimB]
  try omega
theorem hasMore_any (k n p : Int) (s : ByteArray) (a : Option Addr) (l c : Nat) (w : World) (hl : l <= maxLen) :
 Calls Tryz.prog 44 #[.agg #[.int .i64 k, .int .i64 n, .int .i64 p, .string s, .slice a l c]] w fun e w' => e = .returned (.bool (moreB k n p s l)) /\ w.grownBy w' none := by
 unfold maxLen at hl
 have hs : Hid (s.toList = [] ↔ s.size = 0) := nil_iff s
 go_enter Tryz.func44, Tryz.ntmps44
 go_wp2
 all_goals
  go_ret
  refine retb ?_ (gb _)
  have hs' := hs.out
  clear hs
  rw [Bool.eq_iff_iff]
  simp_all [moreB]
  try omega
theorem wrong_any (k n p : Int) (s : ByteArray) (a : Option Addr) (l c : Nat) (w : World) (hl : l <= maxLen) (hs : s.size <= maxLen) :
 Calls Tryz.prog 27 #[.agg #[.int .i64 k, .int .i64 n, .int .i64 p, .string s, .slice a l c]] w fun e w' => e = .returned (.int .i64 (wrongF k n p s l)) /\ w.grownBy w' none := by
 unfold maxLen at hs
 go_enter Tryz.func27, Tryz.ntmps27
 go_wp2_with (first
  | (go_at_call 42; refine (isKind_any _ _).mono ?_; rintro e w' ⟨rfl, rfl⟩)
  | (go_at_call 43; refine (isPrim_any _ _).mono ?_; rintro e w' ⟨rfl, rfl⟩)
  | (go_at_call 44; refine (hasMore_any _ _ _ _ _ _ _ _ hl).mono ?_; rintro e w' ⟨rfl, hg⟩; have hc := gcell hg; have hz : w.heap.size < w'.heap.size := (by have := hg.size; simp at this; omega)))
 all_goals
  go_ret
  refine reti ?_ (by first | exact gb _ | exact gbt (gb _) (by assumption))
  unfold wrongF
  simp_all <;> omega
end Go.Proofs.YtamohjlhndedhadGreatRRR.Lf
namespace Go.Proofs.YtamohjlhndedhadGreatRRR
set_option maxRecDepth 100000
set_option maxHeartbeats 4000000
open Go.ChangeShapes Go.WideShapes Go.ChangeAt Go.RowKit
mutual
def firstW (d : Nat) : Tr -> Int
 | .nd k n p s args => if 24 < d then 4 else if Lf.wrongF k n p s args.length ≠ 0 then Lf.wrongF k n p s args.length else firstWs (d + 1) args
def firstWs (d : Nat) : List Tr -> Int
 | [] => 0
 | t :: ts => if firstW d t ≠ 0 then firstW d t else firstWs d ts
end
def goodF (t : Tr) : Int := if firstW 1 t ≠ 0 then firstW 1 t else if 300 < t.size then 4 else 0
theorem firstWs_take_succ {d : Nat} {l : List Tr} {i : Nat} (h : i < l.length) (h0 : firstWs d (l.take i) = 0) : firstWs d (l.take (i + 1)) = firstW d l[i] := by
 induction l generalizing i with
 | nil => simp at h
 | cons t ts ih =>
  cases i with
  | zero => simp [firstWs]; exact fun h => h.symm
  | succ i =>
   simp only [List.take_succ_cons, firstWs] at h0 ⊢
   by_cases ht : firstW d t = 0
   ·simp [ht] at h0 ⊢; exact ih (by simpa using h) h0
   ·simp [ht] at h0
theorem firstWs_of_take {d : Nat} {l : List Tr} {i : Nat} (h : firstWs d (l.take i) ≠ 0) : firstWs d l = firstWs d (l.take i) := by
 induction l generalizing i with
 | nil => simp
 | cons t ts ih =>
  cases i with
  | zero => simp [firstWs] at h
  | succ i =>
   simp only [List.take_succ_cons, firstWs] at h ⊢
   by_cases ht : firstW d t = 0
   ·simp [ht] at h ⊢; exact ih h
   ·simp [ht]
theorem first_any {cb : Nat} {w : World} {t : Tr} {v : Value} (hL : Lies (· ≠ cb) w t v) : ∀ (d : Nat) (m : Int) (w2 : World), Same (· ≠ cb) w w2 -> w.heap.size <= w2.heap.size -> 
 w2.heap[cb]? = some (.cells #[.int .i64 m] 3 (0, 0)) -> 0 <= m -> m + t.size <= 4611686018427387904 -> d <= 25 ->
 Calls Tryz.prog 18 #[v, .int .i64 d, .pointer (some ⟨cb, 0, none⟩)] w2 fun e w' => e = .returned (.int .i64 (firstW d t)) /\ w2.grownBy w' (some cb) /\
  (firstW d t = 0 -> w'.heap[cb]? = some (.cells #[.int .i64 (m + t.size)] 3 (0, 0))) := by
 induction hL with
 | @mk k n p s args a c V hl hS ik iN ip hc hr ih =>
  intro d m w2 hsame hz hcb h0 hm hd
  have IH : Hid (∀ (i : Nat) (h : i < args.length) (d : Nat) (m : Int) (w2 : World), Same (· ≠ cb) w w2 -> w.heap.size <= w2.heap.size -> w2.heap[cb]? = some (.cells #[.int .i64 m] 3 (0, 0)) -> 0 <= m -> m + (args[i]).size <= 4611686018427387904 -> d <= 25 ->
   Calls Tryz.prog 18 #[V i, .int .i64 d, .pointer (some ⟨cb, 0, none⟩)] w2 fun e w' => e = .returned (.int .i64 (firstW d args[i])) /\ w2.grownBy w' (some cb) /\
   (firstW d args[i] = 0 -> w'.heap[cb]? = some (.cells #[.int .i64 (m + (args[i]).size)] 3 (0, 0)))) := ih
  have HC : Hid (∀ i, i < args.length -> NodeAt (· ≠ cb) w a i (V i)) := hc
  have HS : Hid (Same (· ≠ cb) w w2) := hsame
  have HB : Hid (w2.heap[cb]? = some (.cells #[.int .i64 m] 3 (0, 0))) := hcb
  have hlt : cb < w2.heap.size := (Array.getElem?_eq_some_iff.1 hcb).1
  have hsz : (Tr.nd k n p s args).size = sizes args + 1 := by rw [Tr.size]
  rw [hsz] at hm ⊢
  have hll := length_le_sizes args
  clear ih hc hr hsame hcb hsz
  by_cases hd24 : 24 < d
  ·have hd' : (24 : Int) < (d : Int) := by omega
   have hF : Hid (firstW d (.nd k n p s args) = 4) := by show _ = _; rw [firstW, if_pos hd24]
   unfold nodeV
   go_enter Tryz.func18, Tryz.ntmps18
   go_wp2_with fail
   go_ret
   rw [hF.out]
   exact ⟨rfl, gAq (Lf.gb _), fun h => by omega⟩
  have hd' : (d : Int) <= 24 := by omega
  have hW := Lf.wrong_any k n p s a args.length c (w2.alloc (.cells #[.int .i64 k, .int .i64 n, .int .i64 p, .string s, .slice a args.length c] 24)) hl hS
  by_cases hw : Lf.wrongF k n p s args.length = 0
  ·rw [hw] at hW
   have HF : Hid (firstW d (.nd k n p s args) = firstWs (d + 1) args) := by show _ = _; rw [firstW, if_neg (by omega), if_neg (by simpa using hw)]
   have HW := jh hW
   clear hW hw
   unfold nodeV
   go_enter Tryz.func18, Tryz.ntmps18
   go_wp2_with fail
   refine HW.out.mono ?_; rintro e w' ⟨rfl, hg⟩
   have hc' := Lf.gcell hg
   have hzz : w2.heap.size < w'.heap.size := by have := hg.size; simp at this; omega
   have hb : w'.heap[cb]? = some (.cells #[.int .i64 m] 3 (0, 0)) := by
    rw [hg.block cb (by simp; omega) (by simp), heap_alloc_old (h := hlt)]; exact HB.out
   have c1 := cell_of_one hb
   have c2 := free_of_one hb
   have HB1 : Hid (w'.heap[cb]? = some (.cells #[.int .i64 m] 3 (0, 0))) := hb
   have HG : Hid ((w2.alloc (.cells #[.int .i64 k, .int .i64 n, .int .i64 p, .string s, .slice a args.length c] 24)).grownBy w' none) := hg
   have hbx : w'.cell? ⟨w2.heap.size, 4, none⟩ = some (.slice a args.length c) := by rw [hc' _ _ (by simp)]; simp
   have hbox : ∀ u, (w'.setCell ⟨cb, 0, none⟩ u).cell? ⟨w2.heap.size, 4, none⟩ = some (.slice a args.length c) := by
    intro u; rw [World.cell?_setCell_other _ _ _ _ (by intro h; have := congrArg Addr.block h; simp at this; omega)]; exact hbx
   clear hb hg hc' hbx
   go_wp2_with fail
   have G0 : Hid (w2.grownBy (w'.setCell ⟨cb, 0, none⟩ (.int .i64 (m + 1))) (some cb)) := grow_set (gAq (Lf.gbt (Lf.gb _) HG.out)) _ _ _
   have B0 : Hid ((w'.setCell ⟨cb, 0, none⟩ (.int .i64 (m + 1))).heap[cb]? = some (.cells #[.int .i64 (m + 1)] 3 (0, 0))) := one_setCell HB1.out
   clear HG HB1 c1 c2 hbox
   generalize hX : w'.setCell ⟨cb, 0, none⟩ (.int .i64 (m + 1)) = wx at *
   clear hX
   go_loopw [26] (fun i wr => ∃ j : Nat, j <= args.length /\ i = .int .i64 j /\ w2.grownBy wr (some cb) /\ wr.heap[cb]? = some (.cells #[.int .i64 (m + 1 + sizes (args.take j))] 3 (0, 0)) /\ firstWs (d + 1) (args.take j) = 0) (fun i _ => args.length - (intOf i).toNat)
   case atStart => exact ⟨0, Nat.zero_le _, rfl, G0.out, by simpa [sizes] using B0.out, by simp [firstWs]⟩
   case round =>
    obtain ⟨j, hj, rfl, hg, hb, hF⟩ := hrel
    by_cases hlt : j < args.length
    ·have hA := (HC.out j hlt).same (HS.out.grown hz hg (by simp))
     obtain ⟨b, o, rfl, hne, k', n', p', s', a', l', c', hv, e0, e1, e2, e3, e4⟩ := hA
     have hsz := sizes_take_succ args j hlt
     have hle := sizes_take_le args (j + 1)
     have hg' := grow_trans hg (gAq (Lf.gb (.cells #[.int .i64 k', .int .i64 n', .int .i64 p', .string s', .slice a' l' c'] 24)))
     have hI := IH.out j hlt (d + 1) (m + 1 + sizes (args.take j)) (wr.alloc (.cells #[.int .i64 k', .int .i64 n', .int .i64 p', .string s', .slice a' l' c'] 24))
      (HS.out.grown hz hg' (by simp)) (by have := hg'.size; omega) (by rw [heap_alloc_old (h := (Array.getElem?_eq_some_iff.1 hb).1)]; exact hb) (by omega) (by omega) (by omega)
     rw [hv, show (((d + 1 : Nat)) : Int) = (d : Int) + 1 from rfl] at hI
     unfold nodeV at hI
     have HF1 := jh (firstWs_take_succ hlt hF)
     have HG := jh hg'
     have HZ := jh hsz
     clear hv hg hb hF hg' hsz
     by_cases hx : firstW (d + 1) args[j] = 0
     ·rw [hx] at hI
      have HX := jh hx
      have HI := jh hI
      clear hx hI
      go_wp2_with fail
      refine HI.out.mono ?_; rintro e w3 ⟨rfl, hg3, hb3⟩
      have hb3 := jh (hb3 (by first | exact trivial | rfl))
      have hg3 := jh hg3
      go_wp2_with fail
      go_roundw
      case rel => exact ⟨j + 1, by omega, by go_num, grow_trans HG.out hg3.out, blk_eq hb3.out (by rw [HZ.out]; push_cast; omega), by rw [HF1.out, HX.out]⟩
      case measure => simp [intOf]; omega
     ·have HX : Hid (firstWs (d + 1) args = firstW (d + 1) args[j]) := by
       show _ = _
       rw [firstWs_of_take (i := j + 1) (by rw [HF1.out]; exact hx), HF1.out]
      generalize firstW (d + 1) args[j] = x at *
      have HI := jh hI
      clear hI
      go_wp2_with fail
      refine HI.out.mono ?_; rintro e w3 ⟨rfl, hg3, _⟩
      have hg3 := jh hg3
      go_wp2_with fail
      go_ret
      rw [HF.out, HX.out]
      exact ⟨rfl, grow_trans HG.out hg3.out, fun h => absurd h hx⟩
    ·have hje : j = args.length := by omega
     have HG := jh hg
     have HB := jh hb
     have HF1 := jh hF
     have HJ := jh hje
     clear hg hb hF hje
     go_wp2_with fail
     go_ret
     have hb := HB.out
     have hf := HF1.out
     rw [HJ.out, List.take_length] at hb hf
     rw [HF.out, hf]
     exact ⟨rfl, HG.out, fun _ => blk_eq hb (by push_cast; omega)⟩
  ·have HF : Hid (firstW d (.nd k n p s args) = Lf.wrongF k n p s args.length) := by show _ = _; rw [firstW, if_neg (by omega), if_pos (by simpa using hw)]
   have HW := jh hW
   clear hW
   generalize Lf.wrongF k n p s args.length = x at *
   unfold nodeV
   go_enter Tryz.func18, Tryz.ntmps18
   go_wp2_with fail
   refine HW.out.mono ?_; rintro e w' ⟨rfl, hg⟩
   go_wp2_with fail
   go_ret
   rw [HF.out]
   exact ⟨rfl, gAq (Lf.gbt (Lf.gb _) hg), fun h => absurd h hw⟩
theorem good_any {w : World} {t : Tr} {v : Value} (hL : Lies (· < w.heap.size) w t v) (hz : t.size <= 4611686018427387904) :
 Calls Tryz.prog 10 #[v] w fun e w' => e = .returned (.int .i64 (goodF t)) /\ w.grownBy w' none := by
 have hv : ∃ k n p s a l c, v = nodeV k n p s a l c := by cases hL; exact ⟨_, _, _, _, _, _, _, rfl⟩
 obtain ⟨k, n, p, s, a, l, c, hv⟩ := hv
 have hW : Same (· < w.heap.size) w ((w.alloc (.cells #[.int .i64 k, .int .i64 n, .int .i64 p, .string s, .slice a l c] 24)).alloc (.cells #[.int .i64 0] 3)) := by
  intro b o hb _
  rw [World.cell?_alloc_lt _ _ _ (by simp; omega), World.cell?_alloc_lt _ _ _ hb]
 have hF := first_any (cb := w.heap.size + 1) (((hL.same hW).okMono (ok' := (· ≠ w.heap.size + 1)) (fun b _ hb => by show b ≠ _; have : b < w.heap.size := hb; omega))) 1 0 _ (Same.refl _ _) (Nat.le_refl _)
  (by have h2 := heap_alloc_new (w.alloc (.cells #[.int .i64 k, .int .i64 n, .int .i64 p, .string s, .slice a l c] 24)) (.cells #[.int .i64 0] 3); simpa using h2) (by omega) (by omega) (by omega)
 rw [hv] at hF ⊢
 unfold nodeV at hF ⊢
 have hgg : ∀ w', ((w.alloc (.cells #[.int .i64 k, .int .i64 n, .int .i64 p, .string s, .slice a l c] 24)).alloc (.cells #[.int .i64 0] 3)).grownBy w' (some (w.heap.size + 1)) -> w.grownBy w' none := by
  intro w' h
  have h1 : w.grownBy ((w.alloc (.cells #[.int .i64 k, .int .i64 n, .int .i64 p, .string s, .slice a l c] 24)).alloc (.cells #[.int .i64 0] 3)) none := Lf.gbt (Lf.gb _) (Lf.gb _)
  exact ⟨h.os.trans h1.os, h.tape.trans h1.tape, h.output.trans h1.output, Nat.le_trans h1.size h.size, fun i hi _ => (h.block i (Nat.lt_of_lt_of_le hi h1.size) (by simp; omega)).trans (h1.block i hi (by simp))⟩
 have HGG := jh hgg
 rw [show ((1 : Nat) : Int) = 1 from rfl, Int.zero_add] at hF
 clear hL hW hv hgg
 by_cases hx : firstW 1 t = 0
 ·have HG : Hid (goodF t = if 300 < t.size then 4 else 0) := by show _ = _; simp [goodF, hx]
  rw [hx] at hF
  have HF := jh hF
  clear hF hx
  by_cases hs : 300 < t.size
  all_goals
   have hs' : (300 : Int) < (t.size : Int) \/ (t.size : Int) <= 300 := by omega
   go_enter Tryz.func10, Tryz.ntmps10
   go_wp2_with fail
   refine HF.out.mono ?_; rintro e w' ⟨rfl, hg, hb⟩
   have hb := hb (by first | exact trivial | rfl)
   have c1 := cell_of_one hb
   have HG2 := jh hg
   clear hg hb
   go_wp2_with fail
   go_ret
   rw [HG.out]
   exact Lf.reti (by first | rw [if_pos hs] | rw [if_neg hs]) (HGG.out _ HG2.out)
 ·have HG : Hid (goodF t = firstW 1 t) := by show _ = _; simp [goodF, hx]
  generalize firstW 1 t = x at *
  have HF := jh hF
  clear hF
  go_enter Tryz.func10, Tryz.ntmps10
  go_wp2_with fail
  refine HF.out.mono ?_; rintro e w' ⟨rfl, hg, _⟩
  have HG2 := jh hg
  clear hg
  go_wp2_with fail
  go_ret
  rw [HG.out]
  exact ⟨rfl, HGG.out _ HG2.out⟩
open Go.RowKit
def cs (l : List UInt8) : List Value := l.map fun b => Value.int .u8 b.toNat
def Owns (B : Nat) (w : World) (v : Value) (l : List UInt8) : Prop := w.ownsRow B 5 1 v l.length (cs l)
theorem Owns.drew {B : Nat} {w : World} {v : Value} {l : List UInt8} (h : Owns B w v l) : Owns B w.drew v l := h
theorem Gr.below {B : Nat} {w w1 : World} {v v1 : Value} {l : List UInt8} (h : Gr w v w1 v1) (ho : Owns B w v l) (hB : B <= w.heap.size) : Below B w w1 :=
 (Below.refl B w).grown h.1 hB (fun k hk => (World.ownsRow.lt ho k hk).1)
