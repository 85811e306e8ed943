/- Types alike, xs plain functions; slices.EqualFunc by its contract, whatever function is handed to it. -/
import Derived.Test.YtdninmanfncfiadGoodT2
import Derived.Test.YtdninmanfncfiadListsT
namespace Go.Proofs.Ytdninmanfncfiad
open Go.ChangeShapes Go.WideShapes Go.ChangeAt Go.RowKit
set_option linter.unusedVariables false

mutual
def sameT : Ty → Ty → Bool
  | .nd t xs, .nd u ys => decide (t = u) && sameTs xs ys
def sameTs : List Ty → List Ty → Bool
  | [], [] => true
  | a :: xs, b :: ys => sameT a b && sameTs xs ys
  | [], _ :: _ => false
  | _ :: _, [] => false
end

mutual
theorem sameT_refl : ∀ t, sameT t t = true
  | .nd t args => by simp [sameT, sameTs_refl args]
theorem sameTs_refl : ∀ l, sameTs l l = true
  | [] => by simp [sameTs]
  | t :: ts => by simp [sameTs, sameT_refl t, sameTs_refl ts]
end

theorem sameTs_len : ∀ {a b : List Ty}, sameTs a b = true → a.length = b.length
  | [], [], _ => rfl
  | _ :: _, [], h => by simp [sameTs] at h
  | [], _ :: _, h => by simp [sameTs] at h
  | a :: xs, b :: ys, h => by
    simp only [sameTs, Bool.and_eq_true] at h
    simp [sameTs_len h.2]

/-- what looking at two puts behind what is left -/
def argsOf (p : Ty × Ty) : List Ty × List Ty := (p.1.args, p.2.args)

def sameRow (r : List Ty × List Ty) : Bool := sameTs r.1 r.2

theorem sameT_split (x y : Ty) : sameT x y = (decide (x.t = y.t) && sameRow (x.args, y.args)) := by
  obtain ⟨t, xs⟩ := x
  obtain ⟨u, ys⟩ := y
  rw [sameT]; rfl

theorem sameTs_zip : ∀ (x y : List Ty), x.length = y.length → (∀ p ∈ x.zip y, p.1.t = p.2.t) → sameTs x y = ((x.zip y).map argsOf).all sameRow
  | [], [], _, _ => by simp [sameTs]
  | _ :: _, [], h, _ => by simp at h
  | [], _ :: _, h, _ => by simp at h
  | a :: xs, b :: ys, h, hp => by
    have ih := sameTs_zip xs ys (by simpa using h) (fun p hm => hp p (by simp [hm]))
    have h1 := hp (a, b) (by simp)
    rw [sameTs, ih, sameT_split]
    simp [argsOf, show a.t = b.t from h1]

theorem sameTs_no (x y : List Ty) (i : Nat) (h1 : i < x.length) (h2 : i < y.length) (hne : (x[i]).t ≠ (y[i]).t) : sameTs x y = false := by
  induction x generalizing y i with
  | nil => simp at h1
  | cons a xs ih =>
    cases y with
    | nil => simp [sameTs]
    | cons b ys =>
      cases i with
      | zero =>
        have : a.t ≠ b.t := hne
        simp [sameTs, sameT_split, this]
      | succ i =>
        have := ih ys i (by simpa using h1) (by simpa using h2) (by simpa using hne)
        simp [sameTs, this]

def leftOf2 (rows : List (List Ty × List Ty)) : Nat := (rows.map fun r => tysizes r.1 + 1).sum
theorem leftOf2_append (a b : List (List Ty × List Ty)) : leftOf2 (a ++ b) = leftOf2 a + leftOf2 b := by simp [leftOf2]
theorem leftOf2_single (r : List Ty × List Ty) : leftOf2 [r] = tysizes r.1 + 1 := by simp [leftOf2]
theorem len_left2 (rows : List (List Ty × List Ty)) : rows.length ≤ leftOf2 rows := by
  induction rows with
  | nil => simp
  | cons r l ih => simp only [leftOf2, List.map_cons, List.sum_cons, List.length_cons] at ih ⊢; omega
theorem zip_left : ∀ (x y : List Ty), leftOf2 ((x.zip y).map argsOf) ≤ tysizes x
  | [], _ => by simp [leftOf2]
  | _ :: _, [] => by simp [leftOf2]
  | a :: xs, b :: ys => by
    have ih := zip_left xs ys
    have h : leftOf2 (((a :: xs).zip (b :: ys)).map argsOf) = (tysizes a.args + 1) + leftOf2 ((xs.zip ys).map argsOf) := by simp [leftOf2, argsOf]
    have h2 : a.size = tysizes a.args + 1 := by obtain ⟨t, l⟩ := a; simp [Ty.size, Ty.args]
    rw [h, tysizes]; omega

set_option maxHeartbeats 400000 in
theorem equal_any (k : Nat) (cap : Array Value) (n : Nat) (a a2 : Option Addr) (c c2 : Nat) (V V2 : Nat → Value) (b : Nat → Bool) (I : Nat → World → Prop) (J : World → Prop) (hn : n ≤ maxLen) (eg : ∀ args w, (callFunc k args).run Try.prog w = .ok (.enter k args) w)
    (hrow : ∀ i w, i < n → I i w → TyAt (fun _ => True) w a i (V i)) (hrow2 : ∀ i w, i < n → I i w → TyAt (fun _ => True) w a2 i (V2 i)) (hall : ∀ i w o, I i w → I i (w.alloc o))
    (hcall : ∀ i w, i < n → I i w → Calls Try.prog k (#[V i, V2 i] ++ cap) w fun e w' => e = .returned (.bool (b i)) ∧ (b i = true → I (i + 1) w') ∧ (b i = false → J w')) (w : World) (h0 : I 0 w) :
    Calls Try.prog 35 #[.slice a n c, .slice a2 n c2, .func (.func k) #[] cap] w fun e w' => (e = .returned (.bool true) ∧ I n w' ∧ ∀ i, i < n → b i = true) ∨ (∃ i, i < n ∧ b i = false ∧ e = .returned (.bool false) ∧ J w') := by
  unfold maxLen at hn
  have HR := Lf.hide hrow
  have HR2 := Lf.hide hrow2
  have HA := Lf.hide hall
  have HC := Lf.hide hcall
  have H0 := Lf.hide h0
  clear hrow hrow2 hall hcall h0
  go_enter Try.func35, Try.ntmps35
  go_wp2_with fail
  go_loopw [17] (fun i wr => ∃ j : Nat, j ≤ n ∧ i = .int .i64 j ∧ I j wr ∧ ∀ m, m < j → b m = true) (fun i _ => n - (intOf i).toNat)
  case atStart => exact ⟨0, Nat.zero_le _, rfl, H0.out, fun m hm => by omega⟩
  case round =>
    obtain ⟨j, hj, rfl, hI, hb⟩ := hrel
    have HB := Lf.hide hb
    clear hb
    by_cases hlt : j < n
    · obtain ⟨bb, o, t, a', l, c', rfl, _, hv, d0, d1⟩ := (HR.out j wr hlt hI).cells
      have hI1 := HA.out j wr (.cells #[.int .i64 t, .slice a' l c'] 24) hI
      obtain ⟨bb2, o2, t2, a2', l2, c2', rfl, _, hv2, g0, g1⟩ := (HR2.out j _ hlt hI1).cells
      have hI2 := HA.out j _ (.cells #[.int .i64 t2, .slice a2' l2 c2'] 24) hI1
      have hC := HC.out j _ hlt hI2
      rw [hv, hv2] at hC
      unfold tyV at hC
      have HK := Lf.hide hC
      clear hC hI1 hI2 hI hv hv2 HR HR2 HA HC H0
      go_wp2_with fail
      refine HK.out.mono ?_; rintro e w' ⟨rfl, h1, h2⟩
      cases hbj : b j with
      | true =>
        have HI := Lf.hide (h1 hbj)
        have HBJ := Lf.hide hbj
        clear h1 h2 hbj
        go_wp2_with fail
        go_roundw
        case rel => exact ⟨j + 1, by omega, by go_num, HI.out, fun m hm => by
          by_cases e : m = j
          · subst e; exact HBJ.out
          · exact HB.out m (by omega)⟩
        case measure => simp [intOf]; omega
      | false =>
        have HJ := Lf.hide (h2 hbj)
        have HBJ := Lf.hide hbj
        clear h1 h2 hbj
        go_wp2_with fail
        go_ret
        exact .inr ⟨j, hlt, HBJ.out, rfl, HJ.out⟩
    · have hje : j = n := by omega
      have HI := Lf.hide hI
      have HJ := Lf.hide hje
      clear hI hje
      go_wp2_with fail
      go_ret
      have hI := HI.out
      have hb := HB.out
      rw [HJ.out] at hI hb
      exact .inl ⟨rfl, hI, hb⟩

theorem equal_len (f : Value) (n n2 : Nat) (a a2 : Option Addr) (c c2 : Nat) (hne : n ≠ n2) (h1 : n ≤ maxLen) (h2 : n2 ≤ maxLen) (w : World) :
    Calls Try.prog 35 #[.slice a n c, .slice a2 n2 c2, f] w fun e w' => e = .returned (.bool false) ∧ w' = w := by
  have h : ((n : Int) == (n2 : Int)) = false := by simp; omega
  unfold maxLen at h1 h2
  go_enter Try.func35, Try.ntmps35
  go_wp2_with fail
  go_ret
  exact ⟨rfl, rfl⟩

end Go.Proofs.Ytdninmanfncfiad
