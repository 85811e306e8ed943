/- kind.every by its contract, whatever function is handed to it. -/
import Derived.Test.YtdninmanfncfiadKindSmall
namespace Go.Proofs.Ytdninmanfncfiad
open Go.ChangeShapes Go.WideShapes Go.ChangeAt Go.RowKit
set_option linter.unusedVariables false

set_option maxHeartbeats 400000 in
theorem every_any (k : Nat) (cap : Array Value) (n : Nat) (a : Option Addr) (c : Nat) (V : Nat → Value) (b : Nat → Bool) (I : Nat → World → Prop) (J : World → Prop) (hn : n ≤ maxLen) (eg : ∀ args w, (callFunc k args).run Try.prog w = .ok (.enter k args) w)
    (hrow : ∀ i w, i < n → I i w → TyAt (fun _ => True) w a i (V i)) (hall : ∀ i w o, I i w → I i (w.alloc o))
    (hcall : ∀ i w, i < n → I i w → Calls Try.prog k (#[V i] ++ cap) w fun e w' => e = .returned (.bool (b i)) ∧ (b i = true → I (i + 1) w') ∧ (b i = false → J w')) (w : World) (h0 : I 0 w) :
    Calls Try.prog 60 #[.slice a n c, .func (.func k) #[] cap] w fun e w' => (e = .returned (.bool true) ∧ I n w' ∧ ∀ i, i < n → b i = true) ∨ (∃ i, i < n ∧ b i = false ∧ e = .returned (.bool false) ∧ J w') := by
  unfold maxLen at hn
  have HR := Lf.hide hrow
  have HA := Lf.hide hall
  have HC := Lf.hide hcall
  have H0 := Lf.hide h0
  clear hrow hall hcall h0
  go_enter Try.func60, Try.ntmps60
  go_wp2_with fail
  go_loopw [9] (fun i wr => ∃ j : Nat, j ≤ n ∧ i = .int .i64 j ∧ I j wr ∧ ∀ m, m < j → b m = true) (fun i _ => n - (intOf i).toNat)
  case atStart => exact ⟨0, Nat.zero_le _, rfl, H0.out, fun m hm => by omega⟩
  case round =>
    obtain ⟨j, hj, rfl, hI, hb⟩ := hrel
    have HB := Lf.hide hb
    clear hb
    by_cases hlt : j < n
    · obtain ⟨bb, o, t, a', l, c', rfl, _, hv, c0, c1⟩ := (HR.out j wr hlt hI).cells
      have hI' := HA.out j wr (.cells #[.int .i64 t, .slice a' l c'] 24) hI
      have hC := HC.out j _ hlt hI'
      rw [hv] at hC
      unfold tyV at hC
      have HK := Lf.hide hC
      clear hC hI' hI hv HR HA HC H0
      go_wp2_with fail
      refine HK.out.mono ?_; rintro e w' ⟨rfl, h1, h2⟩
      cases hbj : b j with
      | true =>
        have HI := Lf.hide (h1 hbj)
        have HBJ := Lf.hide hbj
        clear h1 h2 hbj
        go_wp2_with fail
        go_roundw
        case rel => exact ⟨j + 1, by omega, by go_num, HI.out, fun m hm => by
          by_cases e : m = j
          · subst e; exact HBJ.out
          · exact HB.out m (by omega)⟩
        case measure => simp [intOf]; omega
      | false =>
        have HJ := Lf.hide (h2 hbj)
        have HBJ := Lf.hide hbj
        clear h1 h2 hbj
        go_wp2_with fail
        go_ret
        exact .inr ⟨j, hlt, HBJ.out, rfl, HJ.out⟩
    · have hje : j = n := by omega
      have HI := Lf.hide hI
      have HJ := Lf.hide hje
      clear hI hje
      go_wp2_with fail
      go_ret
      have hI := HI.out
      have hb := HB.out
      rw [HJ.out] at hI hb
      exact .inl ⟨rfl, hI, hb⟩

theorem ent_keyed : ∀ args w, (callFunc 42 args).run Try.prog w = .ok (.enter 42 args) w := fun args w => by simp [go_sem]

end Go.Proofs.Ytdninmanfncfiad
