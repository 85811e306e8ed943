/- The document's own answers on numbers as bytes (isPrim, In, numberText), each by its contract. -/
import Derived.Test.YthjpngaapflclacGreatParse
namespace Go.Proofs.YthjpngaapflclacGreat
set_option maxRecDepth 20000
open Go.ChangeShapes Go.WideShapes Go.ChangeAt Go.RowKit
set_option linter.unusedVariables false

theorem rprim_any (k : Int) (w : World) :
    Calls Tryz.prog 41 #[.int .i64 k] w fun e w' => e = .returned (.bool (Lf.isPrimB k)) ∧ w' = w := by
  go_enter Tryz.func41, Tryz.ntmps41
  go_wp2
  all_goals
    go_ret
    refine Lf.retb ?_ rfl
    rw [Bool.eq_iff_iff]
    simp [Lf.isPrimB]
    try omega

theorem rin_yes (n : Int) (h : -1152921504606846976 ≤ n ∧ n ≤ 1152921504606846976) (w : World) :
    Calls Tryz.prog 42 #[.int .i64 n] w fun e w' => e = .returned (.bool true) ∧ w' = w := by
  obtain ⟨h1, h2⟩ := h
  have h3 : -n ≤ 1152921504606846976 := by omega
  by_cases h0 : n = 0
  · subst h0
    go_enter Tryz.func42, Tryz.ntmps42
    go_wp2
    go_ret
    exact ⟨rfl, rfl⟩
  · have h4 : ¬ n = -n := by omega
    go_enter Tryz.func42, Tryz.ntmps42
    go_wp2
    go_ret
    exact ⟨rfl, rfl⟩

theorem rin_no (n : Int) (h : ¬ (-1152921504606846976 ≤ n ∧ n ≤ 1152921504606846976)) (hb : -4611686018427387904 ≤ n ∧ n ≤ 4611686018427387904) (w : World) :
    Calls Tryz.prog 42 #[.int .i64 n] w fun e w' => e = .returned (.bool false) ∧ w' = w := by
  obtain ⟨b1, b2⟩ := hb
  have h0 : ¬ n = 0 := by omega
  have h00 : (n == 0) = false := by simpa using h0
  by_cases h1 : n ≤ 1152921504606846976
  · have h3 : 1152921504606846976 < -n := by omega
    go_enter Tryz.func42, Tryz.ntmps42
    go_wp2
    all_goals
      go_ret
      exact Lf.retb (by simp; try omega) rfl
  · have h2 : 1152921504606846976 < n := by omega
    go_enter Tryz.func42, Tryz.ntmps42
    go_wp2
    all_goals
      go_ret
      exact Lf.retb (by simp; try omega) rfl

theorem rets {a b : ByteArray} (h : a = b) : Ending.returned (.string a) = .returned (.string b) := by rw [h]

/-- one byte as a text -/
theorem conv1 (w : World) (z : Int) (b : UInt8) (hz : z = b.toNat) :
    (convert 100 9 (.slice (some ⟨w.heap.size, 0, none⟩) 1 1)).run Tryz.prog (w.alloc (.cells #[.int .u8 z] 5)) = .ok (.string (bs [b])) (w.alloc (.cells #[.int .u8 z] 5)) := by
  subst hz
  refine run_convert_bytes_back (w.alloc (.cells #[.int .u8 b.toNat] 5)) 100 9 5 ⟨w.heap.size, 0, none⟩ 1 [b] Tryz.underlying100 Tryz.underlying5 Tryz.underlying9 fun j hj => ?_
  match j, hj with
  | 0, _ => simp [Addr.add]

theorem bs_append (a b : List UInt8) : bs a ++ bs b = bs (a ++ b) := by
  apply ByteArray.ext
  rw [ByteArray.data_append]
  apply Array.ext'
  simp [bs]

theorem u8int (x : Nat) (h : x < 256) : (x : Int) = (x.toUInt8).toNat := by rw [toU8 x h]

set_option maxHeartbeats 400000 in
theorem rtext_neg (n : Int) (m : Nat) (h1 : n < 0) (h3 : -n = (m : Int)) (hm : m ≤ 4611686018427387904) (w : World) :
    Calls Tryz.prog 107 #[.int .i64 n] w fun e w' => e = .returned (.string (bs (encT (64 + m % 64) (m / 64)))) ∧ w.grownBy w' none := by
  by_cases h64 : m < 64
  · have HF : Hid (encT (64 + m % 64) (m / 64) = [(64 + m).toUInt8]) := by
      show _ = _
      rw [show m / 64 = 0 from by omega, encT, if_pos rfl, show m % 64 = m from by omega]
    have hc := conv1 w (64 + (m : Int)) (64 + m).toUInt8 (by have := u8int (64 + m) (by omega); push_cast at this; omega)
    rw [HF.out]
    generalize bs [(64 + m).toUInt8] = str at *
    have hlt : (m : Int) < 64 := by omega
    go_enter Tryz.func107, Tryz.ntmps107
    go_wp2_with fail
    go_ret
    exact ⟨rfl, Lf.gb _⟩
  · have hge : ¬ (m : Int) < 64 := by omega
    have hc := conv1 w (192 + (m : Int) % 64) (128 + (64 + m % 64)).toUInt8 (by have := u8int (128 + (64 + m % 64)) (by omega); push_cast at this; omega)
    have HF : Hid ([(128 + (64 + m % 64)).toUInt8] ++ encT (m / 64 % 128) (m / 64 / 128) = encT (64 + m % 64) (m / 64)) := by
      show _ = encT (64 + m % 64) (m / 64)
      conv => rhs; rw [encT]
      rw [if_neg (by omega)]; rfl
    have hl10 : (encT (64 + m % 64) (m / 64)).length ≤ 10 := (encT_len (m / 64) _).2 9 (by show _ < 9223372036854775808; omega)
    have HSZ : Hid (bs [(128 + (64 + m % 64)).toUInt8] = bs [(128 + (64 + m % 64)).toUInt8]) := rfl
    generalize hq : bs [(128 + (64 + m % 64)).toUInt8] = str at *
    have HQ := Lf.hide hq
    clear hq
    go_enter Tryz.func107, Tryz.ntmps107
    go_wp2_with fail
    clear hc
    go_loopw [4, 0] (fun sv nv wr => ∃ (pre : List UInt8) (x : Nat), 1 ≤ x ∧ x ≤ 4611686018427387904 ∧ sv = .string (bs pre) ∧ nv = .int .i64 x ∧ pre ++ encT (x % 128) (x / 128) = encT (64 + m % 64) (m / 64) ∧ w.grownBy wr none) (fun _ nv _ => (intOf nv).toNat)
    case atStart => exact ⟨_, m / 64, by omega, by omega, by rw [HQ.out], by go_num, HF.out, Lf.gb _⟩
    case round =>
      obtain ⟨pre, x, hx1, hx2, rfl, rfl, heq, hg⟩ := hrel
      have hlen := congrArg List.length heq
      rw [List.length_append] at hlen
      have hsz := bs_size pre
      have HQ2 := Lf.hide heq
      have HG := Lf.hide hg
      clear heq hg
      by_cases hx : x < 128
      · have hx' : ¬ (128 : Int) ≤ (x : Int) := by omega
        have hc := conv1 wr (x : Int) x.toUInt8 (u8int x (by omega))
        have hcat := bs_append pre [x.toUInt8]
        have hz1 := bs_size [x.toUInt8]
        have HR : Hid (bs (pre ++ [x.toUInt8]) = bs (encT (64 + m % 64) (m / 64))) := by
          show _ = _
          have := HQ2.out
          rw [show x / 128 = 0 from by omega, encT, if_pos rfl, show x % 128 = x from by omega] at this
          rw [this]
        rw [HR.out] at hcat
        simp only [List.length_cons, List.length_nil] at hz1
        generalize bs [x.toUInt8] = s1 at *
        generalize bs pre = s0 at *
        generalize hs2 : bs (encT (64 + m % 64) (m / 64)) = s2 at *
        have HS2 := Lf.hide hs2
        clear hs2
        go_wp2_with fail
        go_ret
        exact ⟨rets (by rw [← HS2.out]), Lf.gbt HG.out (Lf.gb _)⟩
      · have hx' : (128 : Int) ≤ (x : Int) := by omega
        have hc := conv1 wr (128 + (x : Int) % 128) (128 + x % 128).toUInt8 (by have := u8int (128 + x % 128) (by omega); push_cast at this; omega)
        have hcat := bs_append pre [(128 + x % 128).toUInt8]
        have hz1 := bs_size [(128 + x % 128).toUInt8]
        simp only [List.length_cons, List.length_nil] at hz1
        have HP : Hid (pre ++ [(128 + x % 128).toUInt8] ++ encT (x / 128 % 128) (x / 128 / 128) = encT (64 + m % 64) (m / 64)) := by
          show _ = _
          rw [← HQ2.out]
          conv => rhs; rw [encT]
          rw [if_neg (by omega), List.append_assoc]; rfl
        generalize bs [(128 + x % 128).toUInt8] = s1 at *
        generalize hpp : bs (pre ++ [(128 + x % 128).toUInt8]) = s2 at *
        have HPP := Lf.hide hpp
        clear hpp
        generalize bs pre = s0 at *
        go_wp2_with fail
        go_roundw
        case rel => exact ⟨pre ++ [(128 + x % 128).toUInt8], x / 128, by omega, by omega, by rw [HPP.out], by go_num, HP.out, Lf.gbt HG.out (Lf.gb _)⟩
        case measure => simp [intOf]; omega

set_option maxHeartbeats 400000 in
theorem rtext_pos (n : Int) (m : Nat) (h1 : 0 ≤ n) (h3 : n = (m : Int)) (hm : m ≤ 4611686018427387904) (w : World) :
    Calls Tryz.prog 107 #[.int .i64 n] w fun e w' => e = .returned (.string (bs (encT (0 + m % 64) (m / 64)))) ∧ w.grownBy w' none := by
  by_cases h64 : m < 64
  · have HF : Hid (encT (0 + m % 64) (m / 64) = [(0 + m).toUInt8]) := by
      show _ = _
      rw [show m / 64 = 0 from by omega, encT, if_pos rfl, show m % 64 = m from by omega]
    have hc := conv1 w ((m : Int)) (0 + m).toUInt8 (by have := u8int (0 + m) (by omega); push_cast at this; omega)
    rw [HF.out]
    generalize bs [(0 + m).toUInt8] = str at *
    have hlt : (m : Int) < 64 := by omega
    go_enter Tryz.func107, Tryz.ntmps107
    go_wp2_with fail
    go_ret
    exact ⟨rfl, Lf.gb _⟩
  · have hge : ¬ (m : Int) < 64 := by omega
    have hc := conv1 w (128 + (m : Int) % 64) (128 + (0 + m % 64)).toUInt8 (by have := u8int (128 + (0 + m % 64)) (by omega); push_cast at this; omega)
    have HF : Hid ([(128 + (0 + m % 64)).toUInt8] ++ encT (m / 64 % 128) (m / 64 / 128) = encT (0 + m % 64) (m / 64)) := by
      show _ = encT (0 + m % 64) (m / 64)
      conv => rhs; rw [encT]
      rw [if_neg (by omega)]; rfl
    have hl10 : (encT (0 + m % 64) (m / 64)).length ≤ 10 := (encT_len (m / 64) _).2 9 (by show _ < 9223372036854775808; omega)
    have HSZ : Hid (bs [(128 + (0 + m % 64)).toUInt8] = bs [(128 + (0 + m % 64)).toUInt8]) := rfl
    generalize hq : bs [(128 + (0 + m % 64)).toUInt8] = str at *
    have HQ := Lf.hide hq
    clear hq
    go_enter Tryz.func107, Tryz.ntmps107
    go_wp2_with fail
    clear hc
    go_loopw [4, 0] (fun sv nv wr => ∃ (pre : List UInt8) (x : Nat), 1 ≤ x ∧ x ≤ 4611686018427387904 ∧ sv = .string (bs pre) ∧ nv = .int .i64 x ∧ pre ++ encT (x % 128) (x / 128) = encT (0 + m % 64) (m / 64) ∧ w.grownBy wr none) (fun _ nv _ => (intOf nv).toNat)
    case atStart => exact ⟨_, m / 64, by omega, by omega, by rw [HQ.out], by go_num, HF.out, Lf.gb _⟩
    case round =>
      obtain ⟨pre, x, hx1, hx2, rfl, rfl, heq, hg⟩ := hrel
      have hlen := congrArg List.length heq
      rw [List.length_append] at hlen
      have hsz := bs_size pre
      have HQ2 := Lf.hide heq
      have HG := Lf.hide hg
      clear heq hg
      by_cases hx : x < 128
      · have hx' : ¬ (128 : Int) ≤ (x : Int) := by omega
        have hc := conv1 wr (x : Int) x.toUInt8 (u8int x (by omega))
        have hcat := bs_append pre [x.toUInt8]
        have hz1 := bs_size [x.toUInt8]
        have HR : Hid (bs (pre ++ [x.toUInt8]) = bs (encT (0 + m % 64) (m / 64))) := by
          show _ = _
          have := HQ2.out
          rw [show x / 128 = 0 from by omega, encT, if_pos rfl, show x % 128 = x from by omega] at this
          rw [this]
        rw [HR.out] at hcat
        simp only [List.length_cons, List.length_nil] at hz1
        generalize bs [x.toUInt8] = s1 at *
        generalize bs pre = s0 at *
        generalize hs2 : bs (encT (0 + m % 64) (m / 64)) = s2 at *
        have HS2 := Lf.hide hs2
        clear hs2
        go_wp2_with fail
        go_ret
        exact ⟨rets (by rw [← HS2.out, Nat.zero_add]), Lf.gbt HG.out (Lf.gb _)⟩
      · have hx' : (128 : Int) ≤ (x : Int) := by omega
        have hc := conv1 wr (128 + (x : Int) % 128) (128 + x % 128).toUInt8 (by have := u8int (128 + x % 128) (by omega); push_cast at this; omega)
        have hcat := bs_append pre [(128 + x % 128).toUInt8]
        have hz1 := bs_size [(128 + x % 128).toUInt8]
        simp only [List.length_cons, List.length_nil] at hz1
        have HP : Hid (pre ++ [(128 + x % 128).toUInt8] ++ encT (x / 128 % 128) (x / 128 / 128) = encT (0 + m % 64) (m / 64)) := by
          show _ = _
          rw [← HQ2.out]
          conv => rhs; rw [encT]
          rw [if_neg (by omega), List.append_assoc]; rfl
        generalize bs [(128 + x % 128).toUInt8] = s1 at *
        generalize hpp : bs (pre ++ [(128 + x % 128).toUInt8]) = s2 at *
        have HPP := Lf.hide hpp
        clear hpp
        generalize bs pre = s0 at *
        go_wp2_with fail
        go_roundw
        case rel => exact ⟨pre ++ [(128 + x % 128).toUInt8], x / 128, by omega, by omega, by rw [HPP.out], by go_num, HP.out, Lf.gbt HG.out (Lf.gb _)⟩
        case measure => simp [intOf]; omega

theorem rtext_any (n : Int) (hb : -4611686018427387904 ≤ n ∧ n ≤ 4611686018427387904) (w : World) :
    Calls Tryz.prog 107 #[.int .i64 n] w fun e w' => e = .returned (.string (bs (encN n))) ∧ w.grownBy w' none := by
  unfold encN
  by_cases h : n < 0
  · rw [if_pos h]; exact rtext_neg n n.natAbs h (by omega) (by omega) w
  · rw [if_neg h]; exact rtext_pos n n.natAbs (by omega) (by omega) (by omega) w

end Go.Proofs.YthjpngaapflclacGreat

/- The document's own In by its contract, for every number of 64 bits. -/
namespace Go.Proofs.YthjpngaapflclacGreat
set_option maxRecDepth 20000
open Go.ChangeShapes Go.WideShapes Go.ChangeAt Go.RowKit
set_option linter.unusedVariables false

theorem rin_far (a : Int) (w : World) (hw : I64 a) (h : ¬ (-1152921504606846976 ≤ a ∧ a ≤ 1152921504606846976)) :
    Calls Tryz.prog 42 #[.int .i64 a] w fun e w' => e = .returned (.bool false) ∧ w' = w := by
  obtain ⟨w1, w2⟩ := hw
  have h0 : (a == 0) = false := beq_eq_false_iff_ne.2 (by omega)
  by_cases h1 : 1152921504606846976 < a
  · clear h
    go_enter Tryz.func42, Tryz.ntmps42
    go_wp2
    go_ret
    exact Lf.retb (by simp) rfl
  · by_cases h2 : a = -9223372036854775808
    · subst h2
      clear h h1 w1 w2 h0
      have hv : wrap64 9223372036854775808 = -9223372036854775808 := by unfold wrap64; decide
      go_enter Tryz.func42, Tryz.ntmps42
      go_wp2
      go_ret
      first | exact ⟨rfl, rfl⟩ | exact Lf.retb (by rw [hv]; decide) rfl
    · have h3 : 1152921504606846976 < -a := by omega
      have h4 : a ≤ 1152921504606846976 := by omega
      have w3 : -9223372036854775807 ≤ a := by omega
      clear h h1 h2
      go_enter Tryz.func42, Tryz.ntmps42
      go_wp2
      go_ret
      exact Lf.retb (by simp) rfl

theorem rin_all (a : Int) (w : World) (hw : I64 a) :
    Calls Tryz.prog 42 #[.int .i64 a] w fun e w' => e = .returned (.bool (decide (-1152921504606846976 ≤ a ∧ a ≤ 1152921504606846976))) ∧ w' = w := by
  by_cases h : -1152921504606846976 ≤ a ∧ a ≤ 1152921504606846976
  · rw [decide_eq_true h]; exact rin_yes a h w
  · rw [decide_eq_false h]; exact rin_far a w hw h

end Go.Proofs.YthjpngaapflclacGreat
