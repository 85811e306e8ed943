/- The small functions of package kind, each by a contract. -/
import Derived.Test.YtdninmanfncfiadKindF
namespace Go.Proofs.Ytdninmanfncfiad
open Go.ChangeShapes Go.WideShapes Go.ChangeAt Go.RowKit

theorem isType_any (t : Int) (w : World) :
    Calls Try.prog 39 #[.int .i64 t] w fun e w' => e = .returned (.bool (isTypeB t)) ∧ w' = w := by
  go_enter Try.func39, Try.ntmps39
  go_wp2
  all_goals
    go_ret
    exact Lf.retb (by simp [isTypeB]; try omega) rfl

theorem parts_any (t : Int) (w : World) :
    Calls Try.prog 69 #[.int .i64 t] w fun e w' => e = .returned (.int .i64 (partsF t)) ∧ w' = w := by
  go_enter Try.func69, Try.ntmps69
  go_wp2
  all_goals
    go_ret
    refine Lf.reti ?_ rfl
    simp_all [partsF]
    try omega

/-- what answers which types are in one -/
def Within (kw : Nat) (inn : Int → Bool) : Prop := ∀ (t : Int) (a : Option Addr) (l c : Nat) (w : World), Calls Try.prog kw #[tyV t a l c] w fun e w' => e = .returned (if inn t = true then .slice a l c else .slice none 0 0) ∧ w.grownBy w' none

/-- what says yes to a type's number, or no -/
def Fine (kf : Nat) (f : Int → Bool) : Prop := ∀ (x : Int) (w : World), Calls Try.prog kf #[.int .i64 x] w fun e w' => e = .returned (.bool (f x)) ∧ w' = w

theorem made_any : Within 27 innAll := by
  intro t a l c w
  unfold tyV
  go_enter Try.func27, Try.ntmps27
  go_wp2
  go_ret
  exact ⟨rfl, Lf.gb _⟩



theorem comp1_any : Fine 38 compB := by
  intro x w
  go_enter Try.func38, Try.ntmps38
  go_wp2_with (go_at_call 39; refine (isType_any _ _).mono ?_; rintro e w' ⟨rfl, rfl⟩)
  all_goals
    go_ret
    refine Lf.retb ?_ rfl
    rw [Bool.eq_iff_iff]
    simp_all [compB, isTypeB]
    try omega



theorem pack1_any : Fine 28 packB := by
  intro x w
  go_enter Try.func28, Try.ntmps28
  go_wp2
  all_goals
    go_ret
    refine Lf.retb ?_ rfl
    rw [Bool.eq_iff_iff]
    simp_all [packB]
    try omega



end Go.Proofs.Ytdninmanfncfiad
