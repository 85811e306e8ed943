/- kind.formed by its contract: a type and all in it are of as many as they should be, and neither too deep nor too many. -/
import Derived.Test.YtdninmanfncfiadEvery
namespace Go.Proofs.Ytdninmanfncfiad
open Go.ChangeShapes Go.WideShapes Go.ChangeAt Go.RowKit
set_option linter.unusedVariables false

def formedAt (d m : Nat) (T : Ty) : Bool := formedB d T && decide (m + T.size ≤ 300)

def CountAt (w : World) (cb : Nat) (m : Nat) : Prop := w.heap[cb]? = some (.cells #[.int .i64 (m : Int)] 3 (0, 0))

def FormedPost (d m : Nat) (T : Ty) (cb : Nat) (w2 : World) (e : Ending) (w' : World) : Prop :=
  e = .returned (.bool (formedAt d m T)) ∧ w2.grownBy w' (some cb) ∧ (formedAt d m T = true → CountAt w' cb (m + T.size))

theorem formed1_of {t : Int} {a : Option Addr} {l c : Nat} {d : Nat} {w : World} {db pb cb : Nat} {r : Bool} {P : World → Prop} (hdb : w.heap[db]? = some (.cells #[.int .i64 (d : Int)] 3 (0, 0)))
    (hpb : w.heap[pb]? = some (.cells #[.pointer (some ⟨cb, 0, none⟩)] 77 (0, 0))) (hd : d ≤ 24)
    (h : Calls Try.prog 41 #[tyV t a l c, .int .i64 ((d + 1 : Nat) : Int), .pointer (some ⟨cb, 0, none⟩)] (w.alloc (.cells #[.int .i64 t, .slice a l c] 24)) fun e w' => e = .returned (.bool r) ∧ P w') :
    Calls Try.prog 70 #[tyV t a l c, .pointer (some ⟨db, 0, none⟩), .pointer (some ⟨pb, 0, none⟩)] w fun e w' => e = .returned (.bool r) ∧ P w' := by
  have c1 := cell_of_one hdb
  have c2 := cell_of_one hpb
  have l1 : db < w.heap.size := (Array.getElem?_eq_some_iff.1 hdb).1
  have l2 : pb < w.heap.size := (Array.getElem?_eq_some_iff.1 hpb).1
  rw [show (((d + 1 : Nat)) : Int) = (d : Int) + 1 from rfl] at h
  unfold tyV at h ⊢
  have H := Lf.hide h
  clear h hdb hpb
  go_enter Try.func70, Try.ntmps70
  go_wp2_with fail
  refine H.out.mono ?_; rintro e w' ⟨rfl, hp⟩
  go_wp2_with fail
  go_ret
  exact ⟨rfl, hp⟩

/-- the world behind formed's first two rows -/
def fw (w : World) (cb m : Nat) (t : Int) (a : Option Addr) (l c d : Nat) : World :=
  (((w.setCell ⟨cb, 0, none⟩ (.int .i64 ((m : Int) + 1))).alloc (.cells #[.int .i64 t, .slice a l c] 24)).alloc (.cells #[.int .i64 (d : Int)] 3)).alloc (.cells #[.pointer (some ⟨cb, 0, none⟩)] 77)

theorem fw_grown {w : World} {cb m : Nat} {t : Int} {a : Option Addr} {l c d : Nat} : w.grownBy (fw w cb m t a l c d) (some cb) :=
  grow_trans (grow_trans (grow_trans (grow_set (grow_refl _ _) _ _ _) (grow_any (Lf.gb _))) (grow_any (Lf.gb _))) (grow_any (Lf.gb _))

theorem fw_count {w : World} {cb m : Nat} {t : Int} {a : Option Addr} {l c d : Nat} (h : CountAt w cb m) : CountAt (fw w cb m t a l c d) cb (m + 1) :=
  heap_keep (heap_keep (heap_keep (one_setCell h)))

theorem fw_d {w : World} {cb m : Nat} {t : Int} {a : Option Addr} {l c d : Nat} : (fw w cb m t a l c d).heap[w.heap.size + 1]? = some (.cells #[.int .i64 (d : Int)] 3 (0, 0)) := by
  refine heap_keep ?_
  have := heap_alloc_new ((w.setCell ⟨cb, 0, none⟩ (.int .i64 ((m : Int) + 1))).alloc (.cells #[.int .i64 t, .slice a l c] 24)) (.cells #[.int .i64 (d : Int)] 3)
  simpa using this

theorem fw_p {w : World} {cb m : Nat} {t : Int} {a : Option Addr} {l c d : Nat} : (fw w cb m t a l c d).heap[w.heap.size + 1 + 1]? = some (.cells #[.pointer (some ⟨cb, 0, none⟩)] 77 (0, 0)) := by
  have := heap_alloc_new (((w.setCell ⟨cb, 0, none⟩ (.int .i64 ((m : Int) + 1))).alloc (.cells #[.int .i64 t, .slice a l c] 24)).alloc (.cells #[.int .i64 (d : Int)] 3)) (.cells #[.pointer (some ⟨cb, 0, none⟩)] 77)
  rw [World.size_alloc, World.size_alloc, set_size] at this
  exact this

set_option maxRecDepth 100000 in
set_option maxHeartbeats 1000000 in
theorem formed_no {cb : Nat} {T : Ty} {t : Int} {a : Option Addr} {l c : Nat} (d m : Nat) (w2 : World) (hcb : CountAt w2 cb m) (hm : m ≤ 300) (hl : l ≤ maxLen) (hd2 : d ≤ 25) (hT : formedAt d m T = false)
    (hw : 24 < d ∨ m = 300 ∨ isTypeB t = false ∨ (l : Int) ≠ partsF t) :
    Calls Try.prog 41 #[tyV t a l c, .int .i64 d, .pointer (some ⟨cb, 0, none⟩)] w2 (FormedPost d m T cb w2) := by
  unfold maxLen at hl
  have c1 := cell_of_one hcb
  have c2 := free_of_one hcb
  have l1 : cb < w2.heap.size := (Array.getElem?_eq_some_iff.1 hcb).1
  have l2 : cb < w2.heap.size + 1 := by omega
  have l3 : cb < w2.heap.size + 1 + 1 := by omega
  have HT := Lf.hide hT
  clear hcb hT
  unfold tyV
  by_cases hd : 24 < d
  · have hd' : (24 : Int) < (d : Int) := by omega
    clear hw
    go_enter Try.func41, Try.ntmps41
    go_wp2_with fail
    go_ret
    exact ⟨by rw [HT.out]; rfl, fw_grown (l := l) (c := c), fun h => by rw [HT.out] at h; cases h⟩
  have hd' : (d : Int) ≤ 24 := by omega
  by_cases hm3 : m = 300
  · have hm' : (300 : Int) < (m : Int) + 1 := by omega
    clear hw
    go_enter Try.func41, Try.ntmps41
    go_wp2_with fail
    go_ret
    exact ⟨by rw [HT.out]; rfl, fw_grown (l := l) (c := c), fun h => by rw [HT.out] at h; cases h⟩
  have hm' : (m : Int) + 1 ≤ 300 := by omega
  cases hit : isTypeB t with
  | false =>
    have h1 := isType_any t
    rw [hit] at h1
    have H1 := Lf.hide h1
    clear hw h1 hit
    go_enter Try.func41, Try.ntmps41
    go_wp2_with fail
    go_quiet (first | (go_at_call 39; exact Calls.quiet_of_same (H1.out _)) | (go_at_call 69; exact Calls.quiet_of_same (parts_any _ _)))
    go_wp2_with fail
    go_ret
    exact ⟨by rw [HT.out]; rfl, grow_drewN (fw_grown (l := l) (c := c)), fun h => by rw [HT.out] at h; cases h⟩
  | true =>
    have h1 := isType_any t
    rw [hit] at h1
    have H1 := Lf.hide h1
    have h2 : (l : Int) ≠ partsF t := by
      rcases hw with h | h | h | h
      · omega
      · omega
      · rw [h] at hit; cases hit
      · exact h
    have h2' : ((l : Int) == partsF t) = false := by simpa using h2
    clear hw h1 hit
    go_enter Try.func41, Try.ntmps41
    go_wp2_with fail
    go_quiet (first | (go_at_call 39; exact Calls.quiet_of_same (H1.out _)) | (go_at_call 69; exact Calls.quiet_of_same (parts_any _ _)))
    go_wp2_with fail
    go_ret
    exact ⟨by rw [HT.out]; rfl, grow_drewN (fw_grown (l := l) (c := c)), fun h => by rw [HT.out] at h; cases h⟩

end Go.Proofs.Ytdninmanfncfiad
