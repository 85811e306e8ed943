/- Unpack by its contract, whatever text. -/
import Derived.Test.YtdninmanfncfiadUnpackV
namespace Go.Proofs.Ytdninmanfncfiad
set_option maxRecDepth 20000
open Go.ChangeShapes Go.WideShapes Go.ChangeAt Go.RowKit
set_option linter.unusedVariables false

theorem hasPrefix_long (sv : ByteArray) (m : Nat) (h1 : sv.size = m + 1) (hm : m ≤ 1000000000000) (h2 : sv.extract 0 1 = ⟨#[5]⟩) (W : World) : Calls Try.prog 81 #[.string sv, .string ⟨#[5]⟩] W fun e w' => e = .returned (.bool true) ∧ w' = W := by
  have hs5 : (⟨#[5]⟩ : ByteArray).size = 1 := rfl
  have hi : (1 : Int) ≤ (m : Int) + 1 := by omega
  go_enter Try.func81, Try.ntmps81
  go_wp2_with fail
  go_ret
  exact ⟨rfl, rfl⟩

theorem cutPrefixL_long (sv r : ByteArray) (m : Nat) (h1 : sv.size = m + 1) (hm : m ≤ 1000000000000) (h2 : sv.extract 0 1 = ⟨#[5]⟩) (h3 : sv.extract 1 (m + 1) = r) (W : World) : Calls Try.prog 61 #[.string sv, .string ⟨#[5]⟩] W fun e w' => e = .returned (.tuple #[.string r, .bool true]) ∧ w' = W := by
  have HP := Lf.hide (hasPrefix_long sv m h1 hm h2)
  have hs5 : (⟨#[5]⟩ : ByteArray).size = 1 := rfl
  have hi : (1 : Int) ≤ (m : Int) + 1 := by omega
  go_enter Try.func61, Try.ntmps61
  go_wp2_with fail
  refine (HP.out _).mono ?_; rintro e w1 ⟨rfl, rfl⟩
  go_wp2_with fail
  go_ret2
  exact ⟨rfl, rfl⟩

theorem cutPrefix_long (sv r : ByteArray) (m : Nat) (h1 : sv.size = m + 1) (hm : m ≤ 1000000000000) (h2 : sv.extract 0 1 = ⟨#[5]⟩) (h3 : sv.extract 1 (m + 1) = r) (W : World) : Calls Try.prog 29 #[.string sv, .string ⟨#[5]⟩] W fun e w' => e = .returned (.tuple #[.string r, .bool true]) ∧ w' = W := by
  have HP := Lf.hide (cutPrefixL_long sv r m h1 hm h2 h3)
  go_enter Try.func29, Try.ntmps29
  go_wp2_with fail
  refine (HP.out _).mono ?_; rintro e w1 ⟨rfl, rfl⟩
  go_wp2_with fail
  go_ret2
  exact ⟨rfl, rfl⟩

theorem hasPrefix_short (sv : ByteArray) (h1 : sv.size = 0) (W : World) : Calls Try.prog 81 #[.string sv, .string ⟨#[5]⟩] W fun e w' => e = .returned (.bool false) ∧ w' = W := by
  have hs5 : (⟨#[5]⟩ : ByteArray).size = 1 := rfl
  go_enter Try.func81, Try.ntmps81
  go_wp2_with fail
  go_ret
  exact ⟨rfl, rfl⟩

theorem hasPrefix_other (sv : ByteArray) (m : Nat) (h1 : sv.size = m + 1) (hm : m ≤ 1000000000000) (h2 : (sv.extract 0 1).toList ≠ [5]) (W : World) : Calls Try.prog 81 #[.string sv, .string ⟨#[5]⟩] W fun e w' => e = .returned (.bool false) ∧ w' = W := by
  have hs5 : (⟨#[5]⟩ : ByteArray).size = 1 := rfl
  have hi : (1 : Int) ≤ (m : Int) + 1 := by omega
  have h3 : ((sv.extract 0 1).toList == [5]) = false := by simpa using h2
  go_enter Try.func81, Try.ntmps81
  go_wp2_with fail
  go_ret
  exact ⟨rfl, rfl⟩

theorem cutPrefix_no (sv : ByteArray) (H : ∀ W, Calls Try.prog 81 #[.string sv, .string ⟨#[5]⟩] W fun e w' => e = .returned (.bool false) ∧ w' = W) (W : World) : Calls Try.prog 29 #[.string sv, .string ⟨#[5]⟩] W fun e w' => e = .returned (.tuple #[.string sv, .bool false]) ∧ w' = W := by
  have HP : Hid (∀ W, Calls Try.prog 61 #[.string sv, .string ⟨#[5]⟩] W fun e w' => e = .returned (.tuple #[.string sv, .bool false]) ∧ w' = W) := by
    intro W
    have HH := Lf.hide H
    clear H
    go_enter Try.func61, Try.ntmps61
    go_wp2_with fail
    refine (HH.out _).mono ?_; rintro e w1 ⟨rfl, rfl⟩
    go_wp2_with fail
    go_ret2
    exact ⟨rfl, rfl⟩
  clear H
  go_enter Try.func29, Try.ntmps29
  go_wp2_with fail
  refine (HP.out _).mono ?_; rintro e w1 ⟨rfl, rfl⟩
  go_wp2_with fail
  go_ret2
  exact ⟨rfl, rfl⟩

set_option maxRecDepth 100000 in
set_option maxHeartbeats 1000000 in
/-- no mark, or too long -/
theorem unpack_bare {W : World} {T : Ty} {tv : Value} (hT : LiesT (fun _ => True) W T tv) (sv : ByteArray) (HC : Hid (∀ W, Calls Try.prog 29 #[.string sv, .string ⟨#[5]⟩] W fun e w' => e = .returned (.tuple #[.string sv, .bool false]) ∧ w' = W)) :
    Calls Try.prog 10 #[tv, .string sv] W fun e w' => W.grownBy w' none ∧ e = .returned (.tuple #[vaV 0 0 0 ⟨#[]⟩ none 0 0 none 0 0 none 0 0, .int .i64 1]) := by
  obtain ⟨ta, tc, VT, rfl, it, hRT⟩ := hT.inv
  clear hT it hRT
  unfold tyV at *
  go_enter Try.func10, Try.ntmps10
  go_wp2_with fail
  refine (HC.out _).mono ?_; rintro e w0 ⟨rfl, rfl⟩
  go_wp2_with fail
  have hb' := new_twoI W (.cells #[.int .i64 T.t, .slice ta T.args.length tc] 24) (.cells #[.int .i64 0, .int .i64 0, .int .i64 0, .string ⟨#[]⟩, .slice none 0 0, .slice none 0 0, .slice none 0 0] 30)
  have hg' := Lf.gbt (Lf.gb (w := W) (.cells #[.int .i64 T.t, .slice ta T.args.length tc] 24)) (Lf.gb (.cells #[.int .i64 0, .int .i64 0, .int .i64 0, .string ⟨#[]⟩, .slice none 0 0, .slice none 0 0, .slice none 0 0] 30))
  generalize (W.alloc (.cells #[.int .i64 T.t, .slice ta T.args.length tc] 24)).alloc (.cells #[.int .i64 0, .int .i64 0, .int .i64 0, .string ⟨#[]⟩, .slice none 0 0, .slice none 0 0, .slice none 0 0] 30) = wf at *
  obtain ⟨f0, f1, f2, f3, f4, f5, f6⟩ := box7 hb'
  exact bodyPost_ret (v := .tuple #[vaV 0 0 0 ⟨#[]⟩ none 0 0 none 0 0 none 0 0, .int .i64 1]) (by simp [results, Try.results10, go_sem, f0, f1, f2, f3, f4, f5, f6, vaV]) rfl ⟨hg', rfl⟩

set_option maxRecDepth 100000 in
set_option maxHeartbeats 1000000 in
theorem unpack_long {W : World} {T : Ty} {tv : Value} (hT : LiesT (fun _ => True) W T tv) (sv r : ByteArray) (hl : (200 : Int) < (sv.size : Int)) (HC : Hid (∀ W, Calls Try.prog 29 #[.string sv, .string ⟨#[5]⟩] W fun e w' => e = .returned (.tuple #[.string r, .bool true]) ∧ w' = W)) :
    Calls Try.prog 10 #[tv, .string sv] W fun e w' => W.grownBy w' none ∧ e = .returned (.tuple #[vaV 0 0 0 ⟨#[]⟩ none 0 0 none 0 0 none 0 0, .int .i64 1]) := by
  obtain ⟨ta, tc, VT, rfl, it, hRT⟩ := hT.inv
  clear hT it hRT
  unfold tyV at *
  go_enter Try.func10, Try.ntmps10
  go_wp2_with fail
  refine (HC.out _).mono ?_; rintro e w0 ⟨rfl, rfl⟩
  go_wp2_with fail
  have hb' := new_twoI W (.cells #[.int .i64 T.t, .slice ta T.args.length tc] 24) (.cells #[.int .i64 0, .int .i64 0, .int .i64 0, .string ⟨#[]⟩, .slice none 0 0, .slice none 0 0, .slice none 0 0] 30)
  have hg' := Lf.gbt (Lf.gb (w := W) (.cells #[.int .i64 T.t, .slice ta T.args.length tc] 24)) (Lf.gb (.cells #[.int .i64 0, .int .i64 0, .int .i64 0, .string ⟨#[]⟩, .slice none 0 0, .slice none 0 0, .slice none 0 0] 30))
  generalize (W.alloc (.cells #[.int .i64 T.t, .slice ta T.args.length tc] 24)).alloc (.cells #[.int .i64 0, .int .i64 0, .int .i64 0, .string ⟨#[]⟩, .slice none 0 0, .slice none 0 0, .slice none 0 0] 30) = wf at *
  obtain ⟨f0, f1, f2, f3, f4, f5, f6⟩ := box7 hb'
  exact bodyPost_ret (v := .tuple #[vaV 0 0 0 ⟨#[]⟩ none 0 0 none 0 0 none 0 0, .int .i64 1]) (by simp [results, Try.results10, go_sem, f0, f1, f2, f3, f4, f5, f6, vaV]) rfl ⟨hg', rfl⟩

end Go.Proofs.Ytdninmanfncfiad
