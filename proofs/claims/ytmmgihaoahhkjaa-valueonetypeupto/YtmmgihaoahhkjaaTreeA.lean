/- The small functions of package tree, each by a contract: what is wrong with a node by itself. -/
import Derived.Test.YtmmgihaoahhkjaaBasis
import Derived.Lib.AppendStr
namespace Go.Proofs.Ytmmgihaoahhkjaa.Lf
open Go.ChangeShapes Go.WideShapes Go.ChangeAt Go.RowKit

def isKindB (k : Int) : Bool := decide (0 ≤ k ∧ k ≤ 3)
def isPrimB (k : Int) : Bool := decide (1 ≤ k ∧ k ≤ 15 ∨ 20 ≤ k ∧ k ≤ 28 ∨ 40 ≤ k ∧ k ≤ 95)
def moreB (k n p : Int) (s : ByteArray) (l : Nat) : Bool :=
  if k = 0 then decide (p ≠ 0 ∨ s.size ≠ 0 ∨ l ≠ 0) else if k = 1 then decide (n ≠ 0 ∨ p ≠ 0 ∨ l ≠ 0) else if k = 2 then decide (n ≠ 0 ∨ s.size ≠ 0) else decide (n ≠ 0 ∨ p ≠ 0 ∨ s.size ≠ 0)
def wrongF (k n p : Int) (s : ByteArray) (l : Nat) : Int :=
  if isKindB k = false then 3 else if k = 2 ∧ isPrimB p = false then 3 else if moreB k n p s l = true then 1
  else if n < -1152921504606846976 ∨ 1152921504606846976 < n then 2 else if 200 < s.size then 4 else 0

theorem isKind_any (k : Int) (w : World) :
    Calls Try.prog 116 #[.int .i64 k] w fun e w' => e = .returned (.bool (isKindB k)) ∧ w' = w := by
  go_enter Try.func116, Try.ntmps116
  go_wp2
  all_goals
    go_ret
    exact retb (by simp [isKindB]; try omega) rfl

theorem isPrim_any (k : Int) (w : World) :
    Calls Try.prog 117 #[.int .i64 k] w fun e w' => e = .returned (.bool (isPrimB k)) ∧ w' = w := by
  go_enter Try.func117, Try.ntmps117
  go_wp2
  all_goals
    go_ret
    refine retb ?_ rfl
    rw [Bool.eq_iff_iff]
    simp [isPrimB]
    try omega

theorem hasMore_any (k n p : Int) (s : ByteArray) (a : Option Addr) (l c : Nat) (w : World) (hl : l ≤ maxLen) :
    Calls Try.prog 118 #[.agg #[.int .i64 k, .int .i64 n, .int .i64 p, .string s, .slice a l c]] w fun e w' => e = .returned (.bool (moreB k n p s l)) ∧ w.grownBy w' none := by
  unfold maxLen at hl
  have hs : Hid (s.toList = [] ↔ s.size = 0) := nil_iff s
  go_enter Try.func118, Try.ntmps118
  go_wp2
  all_goals
    go_ret
    refine retb ?_ (gb _)
    have hs' := hs.out
    clear hs
    rw [Bool.eq_iff_iff]
    simp_all [moreB]
    try omega

theorem wrong_any (k n p : Int) (s : ByteArray) (a : Option Addr) (l c : Nat) (w : World) (hl : l ≤ maxLen) (hs : s.size ≤ maxLen) :
    Calls Try.prog 106 #[.agg #[.int .i64 k, .int .i64 n, .int .i64 p, .string s, .slice a l c]] w fun e w' => e = .returned (.int .i64 (wrongF k n p s l)) ∧ w.grownBy w' none := by
  unfold maxLen at hs
  go_enter Try.func106, Try.ntmps106
  go_wp2_with (first
    | (go_at_call 116; refine (isKind_any _ _).mono ?_; rintro e w' ⟨rfl, rfl⟩)
    | (go_at_call 117; refine (isPrim_any _ _).mono ?_; rintro e w' ⟨rfl, rfl⟩)
    | (go_at_call 118; refine (hasMore_any _ _ _ _ _ _ _ _ hl).mono ?_; rintro e w' ⟨rfl, hg⟩; have hc := gcell hg; have hz : w.heap.size < w'.heap.size := (by have := hg.size; simp at this; omega)))
  all_goals
    go_ret
    refine reti ?_ (by first | exact gb _ | exact gbt (gb _) (by assumption))
    unfold wrongF
    simp_all <;> omega

end Go.Proofs.Ytmmgihaoahhkjaa.Lf

/- Trees as plain data, and what it is that a tree lies in memory. -/
namespace Go.Proofs.Ytmmgihaoahhkjaa
open Go.ChangeShapes Go.WideShapes Go.ChangeAt Go.RowKit

mutual
/-- what is wrong with the first node that something is wrong with, the first node being d deep -/
def firstW (d : Nat) : Tr → Int
  | .nd k n p s args => if 24 < d then 4 else if Lf.wrongF k n p s args.length ≠ 0 then Lf.wrongF k n p s args.length else firstWs (d + 1) args
def firstWs (d : Nat) : List Tr → Int
  | [] => 0
  | t :: ts => if firstW d t ≠ 0 then firstW d t else firstWs d ts
end

def goodF (t : Tr) : Int := if firstW 1 t ≠ 0 then firstW 1 t else if 300 < t.size then 4 else 0

theorem firstWs_take_succ {d : Nat} {l : List Tr} {i : Nat} (h : i < l.length) (h0 : firstWs d (l.take i) = 0) : firstWs d (l.take (i + 1)) = firstW d l[i] := by
  induction l generalizing i with
  | nil => simp at h
  | cons t ts ih =>
    cases i with
    | zero => simp [firstWs]; exact fun h => h.symm
    | succ i =>
      simp only [List.take_succ_cons, firstWs] at h0 ⊢
      by_cases ht : firstW d t = 0
      · simp [ht] at h0 ⊢; exact ih (by simpa using h) h0
      · simp [ht] at h0

theorem firstWs_of_take {d : Nat} {l : List Tr} {i : Nat} (h : firstWs d (l.take i) ≠ 0) : firstWs d l = firstWs d (l.take i) := by
  induction l generalizing i with
  | nil => simp
  | cons t ts ih =>
    cases i with
    | zero => simp [firstWs] at h
    | succ i =>
      simp only [List.take_succ_cons, firstWs] at h ⊢
      by_cases ht : firstW d t = 0
      · simp [ht] at h ⊢; exact ih h
      · simp [ht]

end Go.Proofs.Ytmmgihaoahhkjaa

/- tree.Good by its contract: for every tree that lies in memory it returns what is wrong with it. -/
namespace Go.Proofs.Ytmmgihaoahhkjaa
open Go.ChangeShapes Go.WideShapes Go.ChangeAt Go.RowKit

set_option maxHeartbeats 400000 in
theorem first_any {cb : Nat} {w : World} {t : Tr} {v : Value} (hL : Lies (· ≠ cb) w t v) : ∀ (d : Nat) (m : Int) (w2 : World), Same (· ≠ cb) w w2 → w.heap.size ≤ w2.heap.size → 
    w2.heap[cb]? = some (.cells #[.int .i64 m] 3 (0, 0)) → 0 ≤ m → m + t.size ≤ 4611686018427387904 → d ≤ 25 →
    Calls Try.prog 84 #[v, .int .i64 d, .pointer (some ⟨cb, 0, none⟩)] w2 fun e w' => e = .returned (.int .i64 (firstW d t)) ∧ w2.grownBy w' (some cb) ∧
      (firstW d t = 0 → w'.heap[cb]? = some (.cells #[.int .i64 (m + t.size)] 3 (0, 0))) := by
  induction hL with
  | @mk k n p s args a c V hl hS ik iN ip hc hr ih =>
    intro d m w2 hsame hz hcb h0 hm hd
    have IH : Hid (∀ (i : Nat) (h : i < args.length) (d : Nat) (m : Int) (w2 : World), Same (· ≠ cb) w w2 → w.heap.size ≤ w2.heap.size → w2.heap[cb]? = some (.cells #[.int .i64 m] 3 (0, 0)) → 0 ≤ m → m + (args[i]).size ≤ 4611686018427387904 → d ≤ 25 →
      Calls Try.prog 84 #[V i, .int .i64 d, .pointer (some ⟨cb, 0, none⟩)] w2 fun e w' => e = .returned (.int .i64 (firstW d args[i])) ∧ w2.grownBy w' (some cb) ∧
      (firstW d args[i] = 0 → w'.heap[cb]? = some (.cells #[.int .i64 (m + (args[i]).size)] 3 (0, 0)))) := ih
    have HC : Hid (∀ i, i < args.length → NodeAt (· ≠ cb) w a i (V i)) := hc
    have HS : Hid (Same (· ≠ cb) w w2) := hsame
    have HB : Hid (w2.heap[cb]? = some (.cells #[.int .i64 m] 3 (0, 0))) := hcb
    have hlt : cb < w2.heap.size := (Array.getElem?_eq_some_iff.1 hcb).1
    have hsz : (Tr.nd k n p s args).size = sizes args + 1 := by rw [Tr.size]
    rw [hsz] at hm ⊢
    have hll := length_le_sizes args
    clear ih hc hr hsame hcb hsz
    by_cases hd24 : 24 < d
    · have hd' : (24 : Int) < (d : Int) := by omega
      have hF : Hid (firstW d (.nd k n p s args) = 4) := by show _ = _; rw [firstW, if_pos hd24]
      unfold nodeV
      go_enter Try.func84, Try.ntmps84
      go_wp2_with fail
      go_ret
      rw [hF.out]
      exact ⟨rfl, grow_any (Lf.gb _), fun h => by omega⟩
    have hd' : (d : Int) ≤ 24 := by omega
    have hW := Lf.wrong_any k n p s a args.length c (w2.alloc (.cells #[.int .i64 k, .int .i64 n, .int .i64 p, .string s, .slice a args.length c] 39)) hl hS
    by_cases hw : Lf.wrongF k n p s args.length = 0
    · rw [hw] at hW
      have HF : Hid (firstW d (.nd k n p s args) = firstWs (d + 1) args) := by show _ = _; rw [firstW, if_neg (by omega), if_neg (by simpa using hw)]
      have HW := Lf.hide hW
      clear hW hw
      unfold nodeV
      go_enter Try.func84, Try.ntmps84
      go_wp2_with fail
      refine HW.out.mono ?_; rintro e w' ⟨rfl, hg⟩
      have hc' := Lf.gcell hg
      have hzz : w2.heap.size < w'.heap.size := by have := hg.size; simp at this; omega
      have hb : w'.heap[cb]? = some (.cells #[.int .i64 m] 3 (0, 0)) := by
        rw [hg.block cb (by simp; omega) (by simp), heap_alloc_old (h := hlt)]; exact HB.out
      have c1 := cell_of_one hb
      have c2 := free_of_one hb
      have HB1 : Hid (w'.heap[cb]? = some (.cells #[.int .i64 m] 3 (0, 0))) := hb
      have HG : Hid ((w2.alloc (.cells #[.int .i64 k, .int .i64 n, .int .i64 p, .string s, .slice a args.length c] 39)).grownBy w' none) := hg
      have hbx : w'.cell? ⟨w2.heap.size, 4, none⟩ = some (.slice a args.length c) := by rw [hc' _ _ (by simp)]; simp
      have hbox : ∀ u, (w'.setCell ⟨cb, 0, none⟩ u).cell? ⟨w2.heap.size, 4, none⟩ = some (.slice a args.length c) := by
        intro u; rw [World.cell?_setCell_other _ _ _ _ (by intro h; have := congrArg Addr.block h; simp at this; omega)]; exact hbx
      clear hb hg hc' hbx
      go_wp2_with fail
      have G0 : Hid (w2.grownBy (w'.setCell ⟨cb, 0, none⟩ (.int .i64 (m + 1))) (some cb)) := grow_set (grow_any (Lf.gbt (Lf.gb _) HG.out)) _ _ _
      have B0 : Hid ((w'.setCell ⟨cb, 0, none⟩ (.int .i64 (m + 1))).heap[cb]? = some (.cells #[.int .i64 (m + 1)] 3 (0, 0))) := one_setCell HB1.out
      clear HG HB1 c1 c2 hbox
      generalize hX : w'.setCell ⟨cb, 0, none⟩ (.int .i64 (m + 1)) = wx at *
      clear hX
      go_loopw [26] (fun i wr => ∃ j : Nat, j ≤ args.length ∧ i = .int .i64 j ∧ w2.grownBy wr (some cb) ∧ wr.heap[cb]? = some (.cells #[.int .i64 (m + 1 + sizes (args.take j))] 3 (0, 0)) ∧ firstWs (d + 1) (args.take j) = 0) (fun i _ => args.length - (intOf i).toNat)
      case atStart => exact ⟨0, Nat.zero_le _, rfl, G0.out, by simpa [sizes] using B0.out, by simp [firstWs]⟩
      case round =>
        obtain ⟨j, hj, rfl, hg, hb, hF⟩ := hrel
        by_cases hlt : j < args.length
        · have hA := (HC.out j hlt).same (HS.out.grown hz hg (by simp))
          obtain ⟨b, o, rfl, hne, k', n', p', s', a', l', c', hv, e0, e1, e2, e3, e4⟩ := hA
          have hsz := sizes_take_succ args j hlt
          have hle := sizes_take_le args (j + 1)
          have hg' := grow_trans hg (grow_any (Lf.gb (.cells #[.int .i64 k', .int .i64 n', .int .i64 p', .string s', .slice a' l' c'] 39)))
          have hI := IH.out j hlt (d + 1) (m + 1 + sizes (args.take j)) (wr.alloc (.cells #[.int .i64 k', .int .i64 n', .int .i64 p', .string s', .slice a' l' c'] 39))
            (HS.out.grown hz hg' (by simp)) (by have := hg'.size; omega) (by rw [heap_alloc_old (h := (Array.getElem?_eq_some_iff.1 hb).1)]; exact hb) (by omega) (by omega) (by omega)
          rw [hv, show (((d + 1 : Nat)) : Int) = (d : Int) + 1 from rfl] at hI
          unfold nodeV at hI
          have HF1 := Lf.hide (firstWs_take_succ hlt hF)
          have HG := Lf.hide hg'
          have HZ := Lf.hide hsz
          clear hv hg hb hF hg' hsz
          by_cases hx : firstW (d + 1) args[j] = 0
          · rw [hx] at hI
            have HX := Lf.hide hx
            have HI := Lf.hide hI
            clear hx hI
            go_wp2_with fail
            refine HI.out.mono ?_; rintro e w3 ⟨rfl, hg3, hb3⟩
            have hb3 := Lf.hide (hb3 (by first | exact trivial | rfl))
            have hg3 := Lf.hide hg3
            go_wp2_with fail
            go_roundw
            case rel => exact ⟨j + 1, by omega, by go_num, grow_trans HG.out hg3.out, blk_eq hb3.out (by rw [HZ.out]; push_cast; omega), by rw [HF1.out, HX.out]⟩
            case measure => simp [intOf]; omega
          · have HX : Hid (firstWs (d + 1) args = firstW (d + 1) args[j]) := by
              show _ = _
              rw [firstWs_of_take (i := j + 1) (by rw [HF1.out]; exact hx), HF1.out]
            generalize firstW (d + 1) args[j] = x at *
            have HI := Lf.hide hI
            clear hI
            go_wp2_with fail
            refine HI.out.mono ?_; rintro e w3 ⟨rfl, hg3, _⟩
            have hg3 := Lf.hide hg3
            go_wp2_with fail
            go_ret
            rw [HF.out, HX.out]
            exact ⟨rfl, grow_trans HG.out hg3.out, fun h => absurd h hx⟩
        · have hje : j = args.length := by omega
          have HG := Lf.hide hg
          have HB := Lf.hide hb
          have HF1 := Lf.hide hF
          have HJ := Lf.hide hje
          clear hg hb hF hje
          go_wp2_with fail
          go_ret
          have hb := HB.out
          have hf := HF1.out
          rw [HJ.out, List.take_length] at hb hf
          rw [HF.out, hf]
          exact ⟨rfl, HG.out, fun _ => blk_eq hb (by push_cast; omega)⟩
    · have HF : Hid (firstW d (.nd k n p s args) = Lf.wrongF k n p s args.length) := by show _ = _; rw [firstW, if_neg (by omega), if_pos (by simpa using hw)]
      have HW := Lf.hide hW
      clear hW
      generalize Lf.wrongF k n p s args.length = x at *
      unfold nodeV
      go_enter Try.func84, Try.ntmps84
      go_wp2_with fail
      refine HW.out.mono ?_; rintro e w' ⟨rfl, hg⟩
      go_wp2_with fail
      go_ret
      rw [HF.out]
      exact ⟨rfl, grow_any (Lf.gbt (Lf.gb _) hg), fun h => absurd h hw⟩

theorem good_any {w : World} {t : Tr} {v : Value} (hL : Lies (· < w.heap.size) w t v) (hz : t.size ≤ 4611686018427387904) :
    Calls Try.prog 46 #[v] w fun e w' => e = .returned (.int .i64 (goodF t)) ∧ w.grownBy w' none := by
  have hv : ∃ k n p s a l c, v = nodeV k n p s a l c := by cases hL; exact ⟨_, _, _, _, _, _, _, rfl⟩
  obtain ⟨k, n, p, s, a, l, c, hv⟩ := hv
  have hW : Same (· < w.heap.size) w ((w.alloc (.cells #[.int .i64 k, .int .i64 n, .int .i64 p, .string s, .slice a l c] 39)).alloc (.cells #[.int .i64 0] 3)) := by
    intro b o hb _
    rw [World.cell?_alloc_lt _ _ _ (by simp; omega), World.cell?_alloc_lt _ _ _ hb]
  have hF := first_any (cb := w.heap.size + 1) (((hL.same hW).okMono (ok' := (· ≠ w.heap.size + 1)) (fun b _ hb => by show b ≠ _; have : b < w.heap.size := hb; omega))) 1 0 _ (Same.refl _ _) (Nat.le_refl _)
    (by have h2 := heap_alloc_new (w.alloc (.cells #[.int .i64 k, .int .i64 n, .int .i64 p, .string s, .slice a l c] 39)) (.cells #[.int .i64 0] 3); simpa using h2) (by omega) (by omega) (by omega)
  rw [hv] at hF ⊢
  unfold nodeV at hF ⊢
  have hgg : ∀ w', ((w.alloc (.cells #[.int .i64 k, .int .i64 n, .int .i64 p, .string s, .slice a l c] 39)).alloc (.cells #[.int .i64 0] 3)).grownBy w' (some (w.heap.size + 1)) → w.grownBy w' none := by
    intro w' h
    have h1 : w.grownBy ((w.alloc (.cells #[.int .i64 k, .int .i64 n, .int .i64 p, .string s, .slice a l c] 39)).alloc (.cells #[.int .i64 0] 3)) none := Lf.gbt (Lf.gb _) (Lf.gb _)
    exact ⟨h.os.trans h1.os, h.tape.trans h1.tape, h.output.trans h1.output, Nat.le_trans h1.size h.size, fun i hi _ => (h.block i (Nat.lt_of_lt_of_le hi h1.size) (by simp; omega)).trans (h1.block i hi (by simp))⟩
  have HGG := Lf.hide hgg
  rw [show ((1 : Nat) : Int) = 1 from rfl, Int.zero_add] at hF
  clear hL hW hv hgg
  by_cases hx : firstW 1 t = 0
  · have HG : Hid (goodF t = if 300 < t.size then 4 else 0) := by show _ = _; simp [goodF, hx]
    rw [hx] at hF
    have HF := Lf.hide hF
    clear hF hx
    by_cases hs : 300 < t.size
    all_goals
      have hs' : (300 : Int) < (t.size : Int) ∨ (t.size : Int) ≤ 300 := by omega
      go_enter Try.func46, Try.ntmps46
      go_wp2_with fail
      refine HF.out.mono ?_; rintro e w' ⟨rfl, hg, hb⟩
      have hb := hb (by first | exact trivial | rfl)
      have c1 := cell_of_one hb
      have HG2 := Lf.hide hg
      clear hg hb
      go_wp2_with fail
      go_ret
      rw [HG.out]
      exact Lf.reti (by first | rw [if_pos hs] | rw [if_neg hs]) (HGG.out _ HG2.out)
  · have HG : Hid (goodF t = firstW 1 t) := by show _ = _; simp [goodF, hx]
    generalize firstW 1 t = x at *
    have HF := Lf.hide hF
    clear hF
    go_enter Try.func46, Try.ntmps46
    go_wp2_with fail
    refine HF.out.mono ?_; rintro e w' ⟨rfl, hg, _⟩
    have HG2 := Lf.hide hg
    clear hg
    go_wp2_with fail
    go_ret
    rw [HG.out]
    exact ⟨rfl, HGG.out _ HG2.out⟩

end Go.Proofs.Ytmmgihaoahhkjaa

/- Bits of numbers of 64 bits, and numbers as bytes. -/
namespace Go.Proofs.Ytmmgihaoahhkjaa
open Go.RowKit

theorem wrap_i64_nat (n : Nat) (h : n < 9223372036854775808) : IntKind.i64.wrap (n : Int) = (n : Int) := by
  have e : (n : Int) % 2 ^ 64 = n := Int.emod_eq_of_lt (by omega) (by omega)
  simp only [IntKind.wrap, IntKind.bits, IntKind.signed, e]
  rw [if_neg]
  simp
  omega

theorem ofInt64 (a : Nat) (h : a < 9223372036854775808) : (BitVec.ofInt 64 (a : Int)).toNat = a := by
  rw [BitVec.ofInt_natCast, BitVec.toNat_ofNat]; exact Nat.mod_eq_of_lt (by omega)

theorem and_i64_nat (a b : Nat) (ha : a < 9223372036854775808) (hb : b < 9223372036854775808) : bits .and .i64 (a : Int) (b : Int) = ((a &&& b : Nat) : Int) := by
  have hx : a &&& b < 2 ^ 63 := Nat.and_lt_two_pow _ (by omega)
  show IntKind.i64.wrap ((BitVec.ofInt 64 (a : Int) &&& BitVec.ofInt 64 (b : Int)).toNat : Int) = _
  rw [BitVec.toNat_and, ofInt64 a ha, ofInt64 b hb]
  exact wrap_i64_nat _ (by omega)

theorem or_i64_nat (a b : Nat) (ha : a < 9223372036854775808) (hb : b < 9223372036854775808) : bits .or .i64 (a : Int) (b : Int) = ((a ||| b : Nat) : Int) := by
  have hx : a ||| b < 2 ^ 63 := Nat.or_lt_two_pow (by omega) (by omega)
  show IntKind.i64.wrap ((BitVec.ofInt 64 (a : Int) ||| BitVec.ofInt 64 (b : Int)).toNat : Int) = _
  rw [BitVec.toNat_or, ofInt64 a ha, ofInt64 b hb]
  exact wrap_i64_nat _ (by omega)

theorem and63 (a : Nat) (h : a < 9223372036854775808) : bits .and .i64 (a : Int) 63 = ((a % 64 : Nat) : Int) := by
  have := and_i64_nat a 63 h (by omega)
  rw [show a &&& 63 = a % 64 from Nat.and_two_pow_sub_one_eq_mod a 6] at this
  exact this

theorem and127 (a : Nat) (h : a < 9223372036854775808) : bits .and .i64 (a : Int) 127 = ((a % 128 : Nat) : Int) := by
  have := and_i64_nat a 127 h (by omega)
  rw [show a &&& 127 = a % 128 from Nat.and_two_pow_sub_one_eq_mod a 7] at this
  exact this

theorem and64 (a : Nat) (h : a < 256) : bits .and .i64 (a : Int) 64 = ((a / 64 % 2 * 64 : Nat) : Int) := by
  have := and_i64_nat a 64 (by omega) (by omega)
  rw [show a &&& 64 = a / 64 % 2 * 64 from by
    have : ∀ x : Fin 256, x.val &&& 64 = x.val / 64 % 2 * 64 := by decide +kernel
    exact this ⟨a, h⟩] at this
  exact this

theorem or0 (a : Nat) (h : a < 64) : bits .or .i64 0 (a : Int) = (a : Int) := by
  have := or_i64_nat 0 a (by omega) (by omega)
  rw [Nat.zero_or] at this
  exact this

theorem or64 (a : Nat) (h : a < 64) : bits .or .i64 64 (a : Int) = ((64 + a : Nat) : Int) := by
  have := or_i64_nat 64 a (by omega) (by omega)
  rw [← Nat.two_pow_add_eq_or_of_lt (i := 6) h 1] at this
  exact this

theorem or128 (a : Nat) (h : a < 128) : bits .or .i64 (a : Int) 128 = ((128 + a : Nat) : Int) := by
  have := or_i64_nat a 128 (by omega) (by omega)
  rw [Nat.or_comm, ← Nat.two_pow_add_eq_or_of_lt (i := 7) h 1] at this
  exact this

/-- what is left of a number, 7 bits a byte; all but the last one have 128 more -/
def encT (last m : Nat) : List UInt8 := if m = 0 then [last.toUInt8] else (128 + last).toUInt8 :: encT (m % 128) (m / 128)
  termination_by m
  decreasing_by omega

/-- a number as bytes -/
def encN (n : Int) : List UInt8 := encT ((if n < 0 then 64 else 0) + n.natAbs % 64) (n.natAbs / 64)

theorem encT_len (m : Nat) : ∀ last, 1 ≤ (encT last m).length ∧ (∀ k, m < 128 ^ k → (encT last m).length ≤ k + 1) := by
  induction m using Nat.strongRecOn with
  | _ m ih =>
    intro last
    rw [encT]
    by_cases h : m = 0
    · simp [h]
    · rw [if_neg h]
      refine ⟨by simp, fun k hk => ?_⟩
      cases k with
      | zero => simp at hk; omega
      | succ k =>
        have := (ih (m / 128) (by omega) (m % 128)).2 k (by rw [Nat.pow_succ] at hk; omega)
        simp; omega

theorem encN_len (n : Int) (h : I64 n) : 1 ≤ (encN n).length ∧ (encN n).length ≤ 10 := by
  obtain ⟨h1, h2⟩ := h
  have := encT_len (n.natAbs / 64) ((if n < 0 then 64 else 0) + n.natAbs % 64)
  exact ⟨this.1, this.2 9 (by show _ < 9223372036854775808; omega)⟩

end Go.Proofs.Ytmmgihaoahhkjaa

/- tree.putNumber, putNode, putArgs and Encode by their contracts. -/
namespace Go.Proofs.Ytmmgihaoahhkjaa
open Go.ChangeShapes Go.WideShapes Go.ChangeAt Go.RowKit

theorem info5 : (Try.prog.info? 5).map (fun i => (i.zero, i.size, i.bytes)) = some (some (.int .u8 0), 1, 1) := by kernel_rfl

/-- bytes as cells -/
def cs (l : List UInt8) : List Value := l.map fun b => Value.int .u8 b.toNat

theorem cs_length (l : List UInt8) : (cs l).length = l.length := by simp [cs]
theorem cs_append (a b : List UInt8) : cs (a ++ b) = cs a ++ cs b := by simp [cs]

/-- the slice v is the call's own and holds the bytes l -/
def Owns (B : Nat) (w : World) (v : Value) (l : List UInt8) : Prop := w.ownsRow B 5 1 v l.length (cs l)

theorem Owns.drew {B : Nat} {w : World} {v : Value} {l : List UInt8} (h : Owns B w v l) : Owns B w.drew v l := h

theorem Gr.below {B : Nat} {w w1 : World} {v v1 : Value} {l : List UInt8} (h : Gr w v w1 v1) (ho : Owns B w v l) (hB : B ≤ w.heap.size) : Below B w w1 :=
  (Below.refl B w).grown h.1 hB (fun k hk => (World.ownsRow.lt ho k hk).1)

/-- one byte put behind a slice of the call's own -/
theorem app1 {ops : Array Oper} {rest : List Oper} {o : Oper} {a : Act} {Q : Exit → Act → World → Prop} (B : Nat) (pre : List UInt8) (b : UInt8) (z : Int) (w0 : World) (v : Value) (hgd : o.guard = none) (s x : Operand)
    (ho : o.op = .call { callee := .builtin .append, args := #[s, x], argTypes := #[135, 135] }) (hs : a.eval s = v) {H : Nat} (hx : a.eval x = .slice (some ⟨H, 0, none⟩) 1 1) (hH : w0.heap.size = H)
    (hz : z = b.toNat) (hown : Owns B w0 v pre) (hB : B ≤ w0.heap.size) (hlen : pre.length ≤ 10000000)
    (h : ∀ v' w', Owns B w' v' (pre ++ [b]) → Gr w0 v w' v' → wpList Try.prog ops Q rest (a.put o.dst v') w') : wpList Try.prog ops Q (o :: rest) a (w0.alloc (.cells #[.int .u8 z] 5)) := by
  obtain ⟨i0, hi, hz0, hz1, hz2⟩ := info_parts info5
  subst hz
  subst hH
  refine wpList_append_lies _ hgd s x 135 ho B 5 i0 (.int .u8 0) 1 1 Try.underlying135 hi hz0 hz1 hz2 rfl (by decide) v pre.length (cs pre) hs (World.ownsRow.alloc hown _) ⟨w0.heap.size, 0, none⟩ 1 1 [.int .u8 b.toNat] hx rfl ?_ ?_ (by decide) ?_ ?_ ?_ _ rfl ?_
  · intro j u hj
    match j, hj with
    | 0, hj => simp at hj; subst hj; simp [Addr.add]
  · intro u hu; simp at hu; subst hu; rfl
  · unfold maxLen; omega
  · omega
  · simp; omega
  · intro g cap w' h1 h2 h3 _
    refine h _ w' ?_ ?_
    · unfold Owns; rw [cs_append, List.length_append]; exact h1
    · refine Gr.trans (Gr.alloc (Gr.refl w0 v) _) ⟨h2, ?_⟩
      rcases h3 with h3 | h3
      · exact .inl h3.symm
      · exact .inr ⟨g, rfl, by omega⟩

theorem cs_str (s : ByteArray) : Lib.strCells s = cs s.data.toList := rfl

/-- a text put behind a slice of the call's own that holds something -/
theorem run_append_str (B : Nat) (ty : TypeId) (v : Value) (pre : List UInt8) (s : ByteArray) (w : World) (hown : Owns B w v pre) (hp : 0 < pre.length) (hlen : pre.length + s.size ≤ 10000000) (hB : B ≤ w.heap.size) :
    ∃ v' w', (Builtin.append_ #[135, 9] ty #[v, .string s]).run Try.prog w = .ok v' w' ∧ Owns B w' v' (pre ++ s.data.toList) ∧ Gr w v w' v' := by
  obtain ⟨i0, hi, hz0, hz1, hz2⟩ := info_parts info5
  obtain ⟨v', w', hr, h1, h2, _⟩ := Lib.run_append_own_string (P := Try.prog) w B 135 9 ty 5 i0 Try.underlying135 Try.underlying9 hi hz0 hz1 hz2 v pre.length (cs pre) hown s (by unfold maxLen; omega) (by omega) hB
  refine ⟨v', w', hr, ?_, h2, ?_⟩
  · unfold Owns
    rw [cs_append, List.length_append, ← cs_str]
    exact h1
  · have ho := hown
    unfold Owns at ho
    rcases ho.2 with ⟨rfl, h0⟩ | ⟨g, cap, cur, rfl, hbg, hg, hnc, hcm, hcs, htake⟩
    · omega
    · by_cases hroom : pre.length + s.size ≤ cap
      · have hr' := Lib.run_append_room_string (P := Try.prog) w 135 9 ty 5 i0 Try.underlying135 Try.underlying9 hi hz1 g pre.length cap cur hg s hroom (by omega)
        rw [hr] at hr'
        injection hr' with e1 e2
        subst e1
        exact .inl rfl
      · have holds : ∀ j u, (cs pre)[j]? = some u → w.cell? ((⟨g, 0, none⟩ : Addr).add j) = some u := World.ownsRow.cells ho (g := g) rfl
        have hr' := Lib.run_append_grow_string (P := Try.prog) w 135 9 ty 5 i0 (.int .u8 0) Try.underlying135 Try.underlying9 hi hz0 ⟨g, 0, none⟩ pre.length cap (cs pre) (by rw [hz1, cs_length, Nat.mul_one]) holds s (by omega) (by omega) (by rw [hz2]; exact growslice_fits (by omega) (by omega))
        rw [hr] at hr'
        injection hr' with e1 e2
        subst e1
        exact .inr ⟨_, rfl, Nat.le_refl _⟩

/-- .. at a step of a region that draws its order -/
theorem step_append_str {ops : Array Oper} {o : Oper} {a : Act} {K : Act → World → Prop} {Q : Exit → Act → World → Prop} {E : Prop} (B : Nat) (pre : List UInt8) (s : ByteArray) (w : World) (v : Value) (hgd : o.guard = none) (sl x : Operand)
    (ho : o.op = .call { callee := .builtin .append, args := #[sl, x], argTypes := #[135, 9] }) (hs : a.eval sl = v) (hx : a.eval x = .string s)
    (hown : Owns B w v pre) (hp : 0 < pre.length) (hlen : pre.length + s.size ≤ 10000000) (hB : B ≤ w.heap.size)
    (h : ∀ v' w', Owns B w' v' (pre ++ s.data.toList) → Gr w v w' v' → K (a.put o.dst v') w') :
    if Region.wanted o (yielded ops a.tmps) = true then Oper.wp Try.prog o a w K Q else E := by
  have hw : Region.wanted o (yielded ops a.tmps) = true := by simp [Region.wanted, hgd]
  rw [if_pos hw]
  obtain ⟨v', w', hr, h2, h3⟩ := run_append_str B o.type v pre s w hown hp hlen hB
  unfold Oper.wp execOp
  simp only [ho, resolve, invoke, builtin, Sem.run_bind, Sem.run_pure, Result.andThen_ok, List.map_toArray, List.map_cons, List.map_nil, hs, hx, hr]
  exact h v' w' h2 h3

set_option maxHeartbeats 400000 in
set_option maxRecDepth 20000 in
theorem putNumber_any (B : Nat) (n : Int) (hn : I64 n) (hn2 : -9223372036854775808 < n) (v : Value) (xs : List UInt8) (w : World) (hown : Owns B w v xs) (hB : B ≤ w.heap.size) (hlen : xs.length ≤ 1000000) :
    Calls Try.prog 121 #[v, .int .i64 n] w fun e w' => ∃ v', e = .returned v' ∧ Owns B w' v' (xs ++ encN n) ∧ Gr w v w' v' := by
  obtain ⟨n1, n2⟩ := hn
  obtain ⟨i0, hi, hz0, hz1, hz2⟩ := info_parts info5
  have hst : ∃ last m : Nat, last < 128 ∧ m < 9223372036854775808 ∧ encN n = encT last m ∧ (n < 0 → bits .or .i64 64 (bits .and .i64 (-n) 63) = (last : Int) ∧ -n / 64 = (m : Int)) ∧ (¬ n < 0 → bits .or .i64 0 (bits .and .i64 n 63) = (last : Int) ∧ n / 64 = (m : Int)) := by
    refine ⟨_, _, ?_, ?_, rfl, fun h => ?_, fun h => ?_⟩
    · split <;> omega
    · omega
    · have e : -n = (n.natAbs : Int) := by omega
      rw [e, and63 _ (by omega), or64 _ (by omega), if_pos h]; exact ⟨rfl, by omega⟩
    · have e : n = (n.natAbs : Int) := by omega
      rw [e, and63 _ (by omega), or0 _ (by omega), if_neg (by omega)]; exact ⟨by simp, by omega⟩
  obtain ⟨last0, m0, hl, hm, he, hn1, hn0⟩ := hst
  have HE := Lf.hide he
  clear he
  have hL := encN_len n ⟨n1, n2⟩
  rw [HE.out] at hL ⊢
  rcases (show (n < 0 ∧ bits .or .i64 64 (bits .and .i64 (-n) 63) = (last0 : Int) ∧ -n / 64 = (m0 : Int)) ∨ (0 ≤ n ∧ bits .or .i64 0 (bits .and .i64 n 63) = (last0 : Int) ∧ n / 64 = (m0 : Int)) from by
    by_cases h : n < 0
    · exact .inl ⟨h, hn1 h⟩
    · exact .inr ⟨by omega, hn0 h⟩) with ⟨hneg, h1, h2⟩ | ⟨hneg, h1, h2⟩
  all_goals
    clear hn1 hn0
    go_enter Try.func121, Try.ntmps121
    go_wp2_with fail
    clear h1 h2 HE
    go_loopw [0, 6, 1] (fun vr l n wr => ∃ (pre : List UInt8) (last m : Nat), last < 128 ∧ m < 9223372036854775808 ∧ l = .int .i64 last ∧ n = .int .i64 m ∧ pre ++ encT last m = xs ++ encT last0 m0 ∧ Owns B wr vr pre ∧ Gr w v wr vr) (fun _ _ n _ => (intOf n).toNat)
    case atStart => exact ⟨xs, _, _, hl, hm, rfl, rfl, rfl, hown, Gr.refl _ _⟩
    case round =>
      obtain ⟨pre, last, m, hl1, hm1, rfl, rfl, heq, hown1, hb⟩ := hrel
      have hlen1 := congrArg List.length heq
      simp only [List.length_append] at hlen1
      have hz := hb.1.size
      have HQ := Lf.hide heq
      have HO := Lf.hide hown1
      have HB := Lf.hide hb
      clear heq hown1 hb hown
      by_cases hm0 : m = 0
      · have hm0' : ¬ (0 : Int) < (m : Int) := by omega
        have hl2 := (encT_len m last).1
        have hu : ((last : Nat) : Int) = (last.toUInt8).toNat := by rw [show last.toUInt8.toNat = last % 256 from rfl, Nat.mod_eq_of_lt (by omega)]
        have HU := Lf.hide hu
        clear hu
        go_wp2_with (at_builtin; refine app1 B pre last.toUInt8 _ wr _ rfl _ _ rfl rfl rfl rfl HU.out HO.out (by omega) (by omega) ?_; intro v' w1 hown1 hb1)
        go_ret
        refine ⟨v', rfl, ?_, HB.out.trans hb1⟩
        have := HQ.out
        rw [encT, if_pos hm0] at this
        rw [← this]
        exact hown1
      · have hm0' : (0 : Int) < (m : Int) := by omega
        have ho := or128 last hl1
        have ha := and127 m hm1
        have hl2 := (encT_len m last).1
        have hu : (128 + (last : Nat) : Int) = ((128 + last).toUInt8).toNat := by rw [show (128 + last).toUInt8.toNat = (128 + last) % 256 from rfl, Nat.mod_eq_of_lt (by omega)]; rfl
        have HU := Lf.hide hu
        clear hu
        go_wp2_with (at_builtin; refine app1 B pre (128 + last).toUInt8 _ wr _ rfl _ _ rfl rfl rfl rfl HU.out HO.out (by omega) (by omega) ?_; intro v' w1 hown1 hb1)
        go_roundw
        case rel => exact ⟨pre ++ [(128 + last).toUInt8], m % 128, m / 128, by omega, by omega, by go_num, by go_num, by have := HQ.out; rw [encT, if_neg hm0] at this; simpa using this, hown1, HB.out.trans hb1⟩
        case measure => simp [intOf]; omega
end Go.Proofs.Ytmmgihaoahhkjaa
