/- The reader of package tree, method by method, each by its contract. -/
import Derived.Test.YtdninmanfncfiadEncode
namespace Go.Proofs.Ytdninmanfncfiad
set_option maxRecDepth 20000
open Go.ChangeShapes Go.WideShapes Go.ChangeAt Go.RowKit
set_option linter.unusedVariables false

/-- the reader lies in block rb -/
def Rd (w : World) (rb : Nat) (rest : ByteArray) (n x : Int) : Prop := w.heap[rb]? = some (.cells #[.string rest, .int .i64 n, .int .i64 x] 97 (0, 0))

theorem Rd.cells {w : World} {rb : Nat} {rest : ByteArray} {n x : Int} (h : Rd w rb rest n x) :
    w.cell? ⟨rb, 0, none⟩ = some (.string rest) ∧ w.cell? ⟨rb, 1, none⟩ = some (.int .i64 n) ∧ w.cell? ⟨rb, 2, none⟩ = some (.int .i64 x) ∧ w.frozen? ⟨rb, 0, none⟩ = false ∧ w.frozen? ⟨rb, 1, none⟩ = false ∧ w.frozen? ⟨rb, 2, none⟩ = false := by
  unfold Rd at h
  simp [World.cell?, World.frozen?, h]

theorem Rd.lt {w : World} {rb : Nat} {rest : ByteArray} {n x : Int} (h : Rd w rb rest n x) : rb < w.heap.size := (Array.getElem?_eq_some_iff.1 h).1

theorem Rd.set0 {w : World} {rb : Nat} {rest : ByteArray} {n x : Int} (h : Rd w rb rest n x) (r : ByteArray) : Rd (w.setCell ⟨rb, 0, none⟩ (.string r)) rb r n x := by
  unfold Rd at *
  simp [World.setCell, Array.getElem?_modify, h]

theorem Rd.set1 {w : World} {rb : Nat} {rest : ByteArray} {n x : Int} (h : Rd w rb rest n x) (m : Int) : Rd (w.setCell ⟨rb, 1, none⟩ (.int .i64 m)) rb rest m x := by
  unfold Rd at *
  simp [World.setCell, Array.getElem?_modify, h]

theorem Rd.set2 {w : World} {rb : Nat} {rest : ByteArray} {n x : Int} (h : Rd w rb rest n x) (m : Int) : Rd (w.setCell ⟨rb, 2, none⟩ (.int .i64 m)) rb rest n m := by
  unfold Rd at *
  simp [World.setCell, Array.getElem?_modify, h]

theorem Rd.alloc {w : World} {rb : Nat} {rest : ByteArray} {n x : Int} (h : Rd w rb rest n x) (o : Obj) : Rd (w.alloc o) rb rest n x := by
  unfold Rd at *
  rw [heap_alloc_old (h := (Array.getElem?_eq_some_iff.1 h).1)]; exact h

theorem fail_ok {w : World} {rb : Nat} {rest : ByteArray} {n : Int} (h : Rd w rb rest n 0) (e : Int) :
    Calls Try.prog 63 #[.pointer (some ⟨rb, 0, none⟩), .int .i64 e] w fun r w' => r = .returned (.tuple #[]) ∧ Rd w' rb rest n e ∧ w.grownBy w' (some rb) := by
  obtain ⟨c0, c1, c2, f0, f1, f2⟩ := h.cells
  have H := Lf.hide h
  clear h
  go_enter Try.func63, Try.ntmps63
  go_wp2
  go_end0
  exact ⟨rfl, H.out.set2 e, grow_set (grow_refl _ _) _ _ _⟩

theorem fail_stuck {w : World} {rb : Nat} {rest : ByteArray} {n x : Int} (h : Rd w rb rest n x) (hx : x ≠ 0) (e : Int) :
    Calls Try.prog 63 #[.pointer (some ⟨rb, 0, none⟩), .int .i64 e] w fun r w' => r = .returned (.tuple #[]) ∧ w' = w := by
  obtain ⟨c0, c1, c2, f0, f1, f2⟩ := h.cells
  clear h
  go_enter Try.func63, Try.ntmps63
  go_wp2
  go_end0
  exact ⟨rfl, rfl⟩

/-- bytes as a text -/
def bs (l : List UInt8) : ByteArray := ⟨l.toArray⟩

theorem bs_size (l : List UInt8) : (bs l).size = l.length := by simp [bs, ByteArray.size]
theorem bs_take (l : List UInt8) (k : Nat) (h : k ≤ l.length) : (bs l).extract 0 k = bs (l.take k) := by
  apply ByteArray.ext
  rw [ByteArray.data_extract]
  apply Array.ext'
  simp [bs]
theorem bs_drop (l : List UInt8) (k : Nat) : (bs l).extract k l.length = bs (l.drop k) := by
  apply ByteArray.ext
  rw [ByteArray.data_extract]
  apply Array.ext'
  simp [bs]
  exact List.take_of_length_le (by simp)

theorem take_ok {w : World} {rb : Nat} {l : List UInt8} {n : Int} (h : Rd w rb (bs l) n 0) (hl : l.length ≤ maxLen) (k : Nat) (hk : k ≤ l.length) :
    Calls Try.prog 95 #[.pointer (some ⟨rb, 0, none⟩), .int .i64 k] w fun r w' => r = .returned (.string (bs (l.take k))) ∧ Rd w' rb (bs (l.drop k)) n 0 ∧ w.grownBy w' (some rb) := by
  obtain ⟨c0, c1, c2, f0, f1, f2⟩ := h.cells
  have hs := bs_size l
  have H := Lf.hide h
  rw [← bs_take l k hk, ← bs_drop l k]
  clear h
  generalize bs l = s at *
  unfold maxLen at hl
  go_enter Try.func95, Try.ntmps95
  go_wp2_with fail
  go_ret
  exact ⟨rfl, H.out.set0 _, grow_set (grow_refl _ _) _ _ _⟩

theorem take_no {w : World} {rb : Nat} {l : List UInt8} {n : Int} (h : Rd w rb (bs l) n 0) (hl : l.length ≤ maxLen) (k : Int) (hk : l.length < k) :
    Calls Try.prog 95 #[.pointer (some ⟨rb, 0, none⟩), .int .i64 k] w fun r w' => r = .returned (.string ⟨#[]⟩) ∧ Rd w' rb (bs l) n 1 ∧ w.grownBy w' (some rb) := by
  obtain ⟨c0, c1, c2, f0, f1, f2⟩ := h.cells
  have hs := bs_size l
  have H := Lf.hide h
  clear h
  generalize bs l = s at *
  unfold maxLen at hl
  go_enter Try.func95, Try.ntmps95
  go_wp2_with fail
  refine (fail_ok H.out 1).mono ?_; rintro e w' ⟨rfl, h', hg⟩
  obtain ⟨d0, d1, d2, g0, g1, g2⟩ := h'.cells
  have H' := Lf.hide h'
  have HG := Lf.hide hg
  clear h' hg
  go_wp2_with fail
  go_ret
  exact ⟨rfl, H'.out, HG.out⟩

theorem take_stuck {w : World} {rb : Nat} {s : ByteArray} {n x : Int} (h : Rd w rb s n x) (hs : s.size ≤ maxLen) (hx : x ≠ 0) (k : Int) :
    Calls Try.prog 95 #[.pointer (some ⟨rb, 0, none⟩), .int .i64 k] w fun r w' => r = .returned (.string ⟨#[]⟩) ∧ w' = w := by
  obtain ⟨c0, c1, c2, f0, f1, f2⟩ := h.cells
  have H := Lf.hide h
  clear h
  unfold maxLen at hs
  by_cases hk : (s.size : Int) < k
  · go_enter Try.func95, Try.ntmps95
    go_wp2_with fail
    refine (fail_stuck H.out hx 1).mono ?_; rintro e w' ⟨rfl, rfl⟩
    go_wp2_with fail
    go_ret
    exact ⟨rfl, rfl⟩
  · go_enter Try.func95, Try.ntmps95
    go_wp2_with fail
    go_ret
    exact ⟨rfl, rfl⟩

theorem octet_ok {w : World} {rb : Nat} {b : UInt8} {l : List UInt8} {n : Int} (h : Rd w rb (bs (b :: l)) n 0) (hl : (b :: l).length ≤ maxLen) :
    Calls Try.prog 82 #[.pointer (some ⟨rb, 0, none⟩)] w fun r w' => r = .returned (.int .i64 b.toNat) ∧ Rd w' rb (bs l) n 0 ∧ w.grownBy w' (some rb) := by
  have hT : Calls Try.prog 95 #[.pointer (some ⟨rb, 0, none⟩), .int .i64 1] w fun r w' => r = .returned (.string (bs [b])) ∧ Rd w' rb (bs l) n 0 ∧ w.grownBy w' (some rb) := take_ok h hl 1 (by simp)
  have HT := Lf.hide hT
  have e1 : (bs [b]).toList = [b] := by simp [bs]
  have eb : (b.toNat : Int) ≤ 255 := by have := b.toNat_lt; omega
  have e2 : (bs [b]).size = 1 := rfl
  have e3 : ∀ h, (bs [b])[0]'h = b := fun _ => rfl
  clear h hl hT
  generalize bs [b] = s at *
  go_enter Try.func82, Try.ntmps82
  go_wp2_with fail
  refine HT.out.mono ?_; rintro e w' ⟨rfl, h', hg⟩
  have H' := Lf.hide h'
  have HG := Lf.hide hg
  clear h' hg
  go_wp2_with fail
  go_ret
  exact ⟨rfl, H'.out, HG.out⟩

theorem octet_no {w : World} {rb : Nat} {n : Int} (h : Rd w rb (bs []) n 0) :
    Calls Try.prog 82 #[.pointer (some ⟨rb, 0, none⟩)] w fun r w' => r = .returned (.int .i64 0) ∧ Rd w' rb (bs []) n 1 ∧ w.grownBy w' (some rb) := by
  have HT := Lf.hide (take_no h (by simp) 1 (by simp))
  clear h
  go_enter Try.func82, Try.ntmps82
  go_wp2_with fail
  refine HT.out.mono ?_; rintro e w' ⟨rfl, h', hg⟩
  have H' := Lf.hide h'
  have HG := Lf.hide hg
  clear h' hg
  go_wp2_with fail
  go_ret
  exact ⟨rfl, H'.out, HG.out⟩

theorem octet_stuck {w : World} {rb : Nat} {s : ByteArray} {n x : Int} (h : Rd w rb s n x) (hs : s.size ≤ maxLen) (hx : x ≠ 0) :
    Calls Try.prog 82 #[.pointer (some ⟨rb, 0, none⟩)] w fun r w' => r = .returned (.int .i64 0) ∧ w' = w := by
  have HT := Lf.hide (take_stuck h hs hx 1)
  clear h
  go_enter Try.func82, Try.ntmps82
  go_wp2_with fail
  refine HT.out.mono ?_; rintro e w' ⟨rfl, rfl⟩
  go_wp2_with fail
  go_ret
  exact ⟨rfl, rfl⟩

set_option maxRecDepth 100000 in
theorem len61 (w : World) : Calls Try.prog 96 #[.int .u64 1152921504606846976] w fun r w' => r = .returned (.int .i64 61) ∧ w' = w := by
  go_enter Try.func96, Try.ntmps96
  go_wp2
  go_ret
  exact Lf.reti (by decide +kernel) rfl

end Go.Proofs.Ytdninmanfncfiad
