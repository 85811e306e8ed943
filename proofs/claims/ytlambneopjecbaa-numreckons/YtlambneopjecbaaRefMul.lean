/- The document's own product (Mul of package touchstoneref) by a contract: for all numbers of 64 bits it returns what the plain function says. -/
import Derived.Test.YtlambneopjecbaaRef
namespace Go.Proofs.Ytlambneopjecbaa.Re
open Go.ChangeShapes Go.WideShapes Go.ChangeAt Go.RowKit Nu

/-- What y's bits from the j-th on make. -/
def top (y j : Nat) : Nat := y / 2 ^ j
theorem top_zero (y : Nat) : top y 0 = y := by unfold top; simp
theorem top_last {y : Nat} (h : y ≤ 1152921504606846976) : top y 61 = 0 := by unfold top; exact Nat.div_eq_of_lt (Nat.lt_of_le_of_lt h (by decide))
theorem top_succ (y i : Nat) : top y (i + 1) = top y i / 2 := by unfold top; rw [Nat.pow_succ, Nat.div_div_eq_div_mul]
theorem top_le (y i : Nat) : top y i ≤ y := Nat.div_le_self _ _
theorem top_even {x y i : Nat} (h : top y i % 2 = 0) : x * top y i = 2 * (x * top y (i + 1)) := by
  rw [top_succ, ← Nat.mul_assoc, Nat.mul_comm 2 x, Nat.mul_assoc]
  rw [show 2 * (top y i / 2) = top y i from by omega]
theorem top_odd {x y i : Nat} (h : top y i % 2 = 1) : x * top y i = 2 * (x * top y (i + 1)) + x := by
  have e : x * top y i = x * (2 * (top y i / 2) + 1) := by rw [show 2 * (top y i / 2) + 1 = top y i from by omega]
  rw [e, top_succ, Nat.mul_add, Nat.mul_one, ← Nat.mul_assoc, ← Nat.mul_assoc, Nat.mul_comm 2 x]
theorem top_mul_le (x y i : Nat) : x * top y i ≤ x * y := Nat.mul_le_mul_left x (top_le y i)
theorem top_half {x y i : Nat} (h : 576460752303423488 < x * top y (i + 1)) : 1152921504606846976 < x * y := by
  have h1 := top_mul_le x y i
  rcases Nat.mod_two_eq_zero_or_one (top y i) with e | e
  · have := top_even (x := x) e; omega
  · have := top_odd (x := x) e; omega
theorem top_add {x y i : Nat} (e : top y i % 2 = 1) (h : 1152921504606846976 < 2 * (x * top y (i + 1)) + x) : 1152921504606846976 < x * y := by
  have h1 := top_mul_le x y i
  have := top_odd (x := x) e; omega

theorem bit_is (y i : Nat) : ((y : Int) / 2 ^ i).tmod 2 = ((top y i % 2 : Nat) : Int) := by
  have e : (y : Int) / 2 ^ i = ((top y i : Nat) : Int) := by unfold top; rw [Int.natCast_ediv, Int.natCast_pow]; rfl
  rw [e, Int.tmod_eq_emod_of_nonneg (Int.natCast_nonneg _)]
  omega
theorem bit_odd {y i : Nat} (h : top y i % 2 = 1) : (((y : Int) / 2 ^ i).tmod 2 == 1) = true := by rw [bit_is, h]; rfl
theorem bit_even {y i : Nat} (h : top y i % 2 = 0) : (((y : Int) / 2 ^ i).tmod 2 == 1) = false := by rw [bit_is, h]; rfl
theorem fin_same {N x y : Nat} {p : Int} (e : N = x * y) (hp : p = ((x * y : Nat) : Int)) : (N : Int) = p := by rw [hp, e]
theorem fin_other {N x y : Nat} {p : Int} (e : N = x * y) (hp : p = -((x * y : Nat) : Int)) : -(N : Int) = p := by rw [hp, e]
theorem fin_zero {N x y : Nat} {p : Int} (e : N = x * y) (hp : p = -((x * y : Nat) : Int)) (hz : x = 0 ∨ y = 0) : (N : Int) = p := by
  have h : x * y = 0 := by rcases hz with h | h <;> simp [h]
  rw [hp, e, h]; rfl
theorem fin_zero' {N x y : Nat} {p : Int} (e : N = x * y) (hp : p = ((x * y : Nat) : Int)) (hz : x = 0 ∨ y = 0) : -(N : Int) = p := by
  have h : x * y = 0 := by rcases hz with h | h <;> simp [h]
  rw [hp, e, h]; rfl

set_option maxHeartbeats 400000 in
theorem mul_pp (x y : Nat) (p pe : Int) (w : World) (hx : x ≤ 1152921504606846976) (hy : y ≤ 1152921504606846976)
    (H : Hid ((x * y ≤ 1152921504606846976 → p = ((x * y : Nat) : Int) ∧ pe = 0) ∧ (1152921504606846976 < x * y → p = 0 ∧ pe = 11))) :
    Calls Try.prog 12 #[.int .i64 (x : Int), .int .i64 (y : Int)] w fun e w' => e = .returned (.tuple #[.int .i64 p, .int .i64 pe]) ∧ w' = w := by
  go_enter Try.func12, Try.ntmps12
  go_wp2_with fail
  refine (in_yes _ _ ⟨by omega, by omega⟩).mono ?_; rintro e w' ⟨rfl, rfl⟩
  go_wp2_with fail
  refine (in_yes _ _ ⟨by omega, by omega⟩).mono ?_; rintro e w' ⟨rfl, rfl⟩
  go_wp2
  go_loop [8, 9] (fun n k => ∃ (q : Int) (N : Nat), -1 ≤ q ∧ q ≤ 60 ∧ N ≤ 1152921504606846976 ∧ k = .int .i64 q ∧ n = .int .i64 (N : Int) ∧ Hid (N = x * top y (q + 1).toNat)) (fun _ k => (intOf k + 1).toNat)
  case atStart => exact ⟨60, 0, by omega, by omega, by omega, rfl, rfl, by show 0 = x * top y 61; rw [top_last hy]; rfl⟩
  case round =>
    obtain ⟨q, N, hq1, hq2, hN, rfl, rfl, HN⟩ := hrel
    by_cases h0 : q < 0
    · have HN2 : Hid (N = x * y) := by
        have e : q = -1 := by omega
        subst e; have h := HN.out; rw [show ((-1 : Int) + 1).toNat = 0 from rfl, top_zero] at h; exact h
      clear HN
      go_wp2
      all_goals go_ret2
      all_goals
        obtain ⟨hp, hpe⟩ := H.out.1 (by rw [← HN2.out]; exact hN)
        refine ret2' ?_ hpe.symm rfl
        first | exact fin_same HN2.out hp | exact fin_zero' HN2.out hp (by omega)
    · obtain ⟨i, rfl⟩ : ∃ i : Nat, q = i := ⟨q.toNat, by omega⟩
      have HN2 : Hid (N = x * top y (i + 1)) := HN
      clear h0 HN
      by_cases h1 : (576460752303423488 : Int) < N
      · go_wp2
        go_ret2
        obtain ⟨hp, hpe⟩ := H.out.2 (top_half (i := i) (by rw [← HN2.out]; omega))
        exact ret2' hp.symm hpe.symm rfl
      · rcases Nat.mod_two_eq_zero_or_one (top y i) with ev | od
        · have hb := bit_even ev
          have E : Hid (top y i % 2 = 0) := ev
          clear ev
          go_wp2
          go_round
          case rel => exact ⟨(i : Int) - 1, N * 2, by omega, by omega, by omega, rfl, by go_num, by show N * 2 = _; rw [show ((i : Int) - 1 + 1).toNat = i from by omega, top_even E.out, HN2.out]; omega⟩
          case measure => simp [intOf]
        · have hb := bit_odd od
          have E : Hid (top y i % 2 = 1) := od
          clear od
          by_cases h2 : (1152921504606846976 : Int) - x < (N : Int) * 2
          · go_wp2
            go_ret2
            obtain ⟨hp, hpe⟩ := H.out.2 (top_add (i := i) E.out (by rw [← HN2.out]; omega))
            exact ret2' hp.symm hpe.symm rfl
          · go_wp2
            go_round
            case rel => exact ⟨(i : Int) - 1, N * 2 + x, by omega, by omega, by omega, rfl, by go_num, by show N * 2 + x = _; rw [show ((i : Int) - 1 + 1).toNat = i from by omega, top_odd E.out, HN2.out]; omega⟩
            case measure => simp [intOf]

set_option maxHeartbeats 400000 in
theorem mul_pn (x y : Nat) (p pe : Int) (w : World) (hx : x ≤ 1152921504606846976) (hy : y ≤ 1152921504606846976) (hy0 : 0 < (y : Int))
    (H : Hid ((x * y ≤ 1152921504606846976 → p = -((x * y : Nat) : Int) ∧ pe = 0) ∧ (1152921504606846976 < x * y → p = 0 ∧ pe = 11))) :
    Calls Try.prog 12 #[.int .i64 (x : Int), .int .i64 (-(y : Int))] w fun e w' => e = .returned (.tuple #[.int .i64 p, .int .i64 pe]) ∧ w' = w := by
  go_enter Try.func12, Try.ntmps12
  go_wp2_with fail
  refine (in_yes _ _ ⟨by omega, by omega⟩).mono ?_; rintro e w' ⟨rfl, rfl⟩
  go_wp2_with fail
  refine (in_yes _ _ ⟨by omega, by omega⟩).mono ?_; rintro e w' ⟨rfl, rfl⟩
  go_wp2
  go_loop [8, 9] (fun n k => ∃ (q : Int) (N : Nat), -1 ≤ q ∧ q ≤ 60 ∧ N ≤ 1152921504606846976 ∧ k = .int .i64 q ∧ n = .int .i64 (N : Int) ∧ Hid (N = x * top y (q + 1).toNat)) (fun _ k => (intOf k + 1).toNat)
  case atStart => exact ⟨60, 0, by omega, by omega, by omega, rfl, rfl, by show 0 = x * top y 61; rw [top_last hy]; rfl⟩
  case round =>
    obtain ⟨q, N, hq1, hq2, hN, rfl, rfl, HN⟩ := hrel
    by_cases h0 : q < 0
    · have HN2 : Hid (N = x * y) := by
        have e : q = -1 := by omega
        subst e; have h := HN.out; rw [show ((-1 : Int) + 1).toNat = 0 from rfl, top_zero] at h; exact h
      clear HN
      go_wp2
      all_goals go_ret2
      all_goals
        obtain ⟨hp, hpe⟩ := H.out.1 (by rw [← HN2.out]; exact hN)
        refine ret2' ?_ hpe.symm rfl
        first | exact fin_other HN2.out hp | exact fin_zero HN2.out hp (by omega)
    · obtain ⟨i, rfl⟩ : ∃ i : Nat, q = i := ⟨q.toNat, by omega⟩
      have HN2 : Hid (N = x * top y (i + 1)) := HN
      clear h0 HN
      by_cases h1 : (576460752303423488 : Int) < N
      · go_wp2
        go_ret2
        obtain ⟨hp, hpe⟩ := H.out.2 (top_half (i := i) (by rw [← HN2.out]; omega))
        exact ret2' hp.symm hpe.symm rfl
      · rcases Nat.mod_two_eq_zero_or_one (top y i) with ev | od
        · have hb := bit_even ev
          have E : Hid (top y i % 2 = 0) := ev
          clear ev
          go_wp2
          go_round
          case rel => exact ⟨(i : Int) - 1, N * 2, by omega, by omega, by omega, rfl, by go_num, by show N * 2 = _; rw [show ((i : Int) - 1 + 1).toNat = i from by omega, top_even E.out, HN2.out]; omega⟩
          case measure => simp [intOf]
        · have hb := bit_odd od
          have E : Hid (top y i % 2 = 1) := od
          clear od
          by_cases h2 : (1152921504606846976 : Int) - x < (N : Int) * 2
          · go_wp2
            go_ret2
            obtain ⟨hp, hpe⟩ := H.out.2 (top_add (i := i) E.out (by rw [← HN2.out]; omega))
            exact ret2' hp.symm hpe.symm rfl
          · go_wp2
            go_round
            case rel => exact ⟨(i : Int) - 1, N * 2 + x, by omega, by omega, by omega, rfl, by go_num, by show N * 2 + x = _; rw [show ((i : Int) - 1 + 1).toNat = i from by omega, top_odd E.out, HN2.out]; omega⟩
            case measure => simp [intOf]

set_option maxHeartbeats 400000 in
theorem mul_np (x y : Nat) (p pe : Int) (w : World) (hx : x ≤ 1152921504606846976) (hy : y ≤ 1152921504606846976) (hx0 : 0 < (x : Int))
    (H : Hid ((x * y ≤ 1152921504606846976 → p = -((x * y : Nat) : Int) ∧ pe = 0) ∧ (1152921504606846976 < x * y → p = 0 ∧ pe = 11))) :
    Calls Try.prog 12 #[.int .i64 (-(x : Int)), .int .i64 (y : Int)] w fun e w' => e = .returned (.tuple #[.int .i64 p, .int .i64 pe]) ∧ w' = w := by
  go_enter Try.func12, Try.ntmps12
  go_wp2_with fail
  refine (in_yes _ _ ⟨by omega, by omega⟩).mono ?_; rintro e w' ⟨rfl, rfl⟩
  go_wp2_with fail
  refine (in_yes _ _ ⟨by omega, by omega⟩).mono ?_; rintro e w' ⟨rfl, rfl⟩
  go_wp2
  go_loop [8, 9] (fun n k => ∃ (q : Int) (N : Nat), -1 ≤ q ∧ q ≤ 60 ∧ N ≤ 1152921504606846976 ∧ k = .int .i64 q ∧ n = .int .i64 (N : Int) ∧ Hid (N = x * top y (q + 1).toNat)) (fun _ k => (intOf k + 1).toNat)
  case atStart => exact ⟨60, 0, by omega, by omega, by omega, rfl, rfl, by show 0 = x * top y 61; rw [top_last hy]; rfl⟩
  case round =>
    obtain ⟨q, N, hq1, hq2, hN, rfl, rfl, HN⟩ := hrel
    by_cases h0 : q < 0
    · have HN2 : Hid (N = x * y) := by
        have e : q = -1 := by omega
        subst e; have h := HN.out; rw [show ((-1 : Int) + 1).toNat = 0 from rfl, top_zero] at h; exact h
      clear HN
      go_wp2
      all_goals go_ret2
      all_goals
        obtain ⟨hp, hpe⟩ := H.out.1 (by rw [← HN2.out]; exact hN)
        refine ret2' ?_ hpe.symm rfl
        first | exact fin_other HN2.out hp | exact fin_zero HN2.out hp (by omega)
    · obtain ⟨i, rfl⟩ : ∃ i : Nat, q = i := ⟨q.toNat, by omega⟩
      have HN2 : Hid (N = x * top y (i + 1)) := HN
      clear h0 HN
      by_cases h1 : (576460752303423488 : Int) < N
      · go_wp2
        go_ret2
        obtain ⟨hp, hpe⟩ := H.out.2 (top_half (i := i) (by rw [← HN2.out]; omega))
        exact ret2' hp.symm hpe.symm rfl
      · rcases Nat.mod_two_eq_zero_or_one (top y i) with ev | od
        · have hb := bit_even ev
          have E : Hid (top y i % 2 = 0) := ev
          clear ev
          go_wp2
          go_round
          case rel => exact ⟨(i : Int) - 1, N * 2, by omega, by omega, by omega, rfl, by go_num, by show N * 2 = _; rw [show ((i : Int) - 1 + 1).toNat = i from by omega, top_even E.out, HN2.out]; omega⟩
          case measure => simp [intOf]
        · have hb := bit_odd od
          have E : Hid (top y i % 2 = 1) := od
          clear od
          by_cases h2 : (1152921504606846976 : Int) - x < (N : Int) * 2
          · go_wp2
            go_ret2
            obtain ⟨hp, hpe⟩ := H.out.2 (top_add (i := i) E.out (by rw [← HN2.out]; omega))
            exact ret2' hp.symm hpe.symm rfl
          · go_wp2
            go_round
            case rel => exact ⟨(i : Int) - 1, N * 2 + x, by omega, by omega, by omega, rfl, by go_num, by show N * 2 + x = _; rw [show ((i : Int) - 1 + 1).toNat = i from by omega, top_odd E.out, HN2.out]; omega⟩
            case measure => simp [intOf]

set_option maxHeartbeats 400000 in
theorem mul_nn (x y : Nat) (p pe : Int) (w : World) (hx : x ≤ 1152921504606846976) (hy : y ≤ 1152921504606846976) (hx0 : 0 < (x : Int)) (hy0 : 0 < (y : Int))
    (H : Hid ((x * y ≤ 1152921504606846976 → p = ((x * y : Nat) : Int) ∧ pe = 0) ∧ (1152921504606846976 < x * y → p = 0 ∧ pe = 11))) :
    Calls Try.prog 12 #[.int .i64 (-(x : Int)), .int .i64 (-(y : Int))] w fun e w' => e = .returned (.tuple #[.int .i64 p, .int .i64 pe]) ∧ w' = w := by
  go_enter Try.func12, Try.ntmps12
  go_wp2_with fail
  refine (in_yes _ _ ⟨by omega, by omega⟩).mono ?_; rintro e w' ⟨rfl, rfl⟩
  go_wp2_with fail
  refine (in_yes _ _ ⟨by omega, by omega⟩).mono ?_; rintro e w' ⟨rfl, rfl⟩
  go_wp2
  go_loop [8, 9] (fun n k => ∃ (q : Int) (N : Nat), -1 ≤ q ∧ q ≤ 60 ∧ N ≤ 1152921504606846976 ∧ k = .int .i64 q ∧ n = .int .i64 (N : Int) ∧ Hid (N = x * top y (q + 1).toNat)) (fun _ k => (intOf k + 1).toNat)
  case atStart => exact ⟨60, 0, by omega, by omega, by omega, rfl, rfl, by show 0 = x * top y 61; rw [top_last hy]; rfl⟩
  case round =>
    obtain ⟨q, N, hq1, hq2, hN, rfl, rfl, HN⟩ := hrel
    by_cases h0 : q < 0
    · have HN2 : Hid (N = x * y) := by
        have e : q = -1 := by omega
        subst e; have h := HN.out; rw [show ((-1 : Int) + 1).toNat = 0 from rfl, top_zero] at h; exact h
      clear HN
      go_wp2
      all_goals go_ret2
      all_goals
        obtain ⟨hp, hpe⟩ := H.out.1 (by rw [← HN2.out]; exact hN)
        refine ret2' ?_ hpe.symm rfl
        first | exact fin_same HN2.out hp | exact fin_zero' HN2.out hp (by omega)
    · obtain ⟨i, rfl⟩ : ∃ i : Nat, q = i := ⟨q.toNat, by omega⟩
      have HN2 : Hid (N = x * top y (i + 1)) := HN
      clear h0 HN
      by_cases h1 : (576460752303423488 : Int) < N
      · go_wp2
        go_ret2
        obtain ⟨hp, hpe⟩ := H.out.2 (top_half (i := i) (by rw [← HN2.out]; omega))
        exact ret2' hp.symm hpe.symm rfl
      · rcases Nat.mod_two_eq_zero_or_one (top y i) with ev | od
        · have hb := bit_even ev
          have E : Hid (top y i % 2 = 0) := ev
          clear ev
          go_wp2
          go_round
          case rel => exact ⟨(i : Int) - 1, N * 2, by omega, by omega, by omega, rfl, by go_num, by show N * 2 = _; rw [show ((i : Int) - 1 + 1).toNat = i from by omega, top_even E.out, HN2.out]; omega⟩
          case measure => simp [intOf]
        · have hb := bit_odd od
          have E : Hid (top y i % 2 = 1) := od
          clear od
          by_cases h2 : (1152921504606846976 : Int) - x < (N : Int) * 2
          · go_wp2
            go_ret2
            obtain ⟨hp, hpe⟩ := H.out.2 (top_add (i := i) E.out (by rw [← HN2.out]; omega))
            exact ret2' hp.symm hpe.symm rfl
          · go_wp2
            go_round
            case rel => exact ⟨(i : Int) - 1, N * 2 + x, by omega, by omega, by omega, rfl, by go_num, by show N * 2 + x = _; rw [show ((i : Int) - 1 + 1).toNat = i from by omega, top_odd E.out, HN2.out]; omega⟩
            case measure => simp [intOf]

theorem mul_in (a b : Int) (w : World) (ha : -1152921504606846976 ≤ a ∧ a ≤ 1152921504606846976) (hb : -1152921504606846976 ≤ b ∧ b ≤ 1152921504606846976) :
    Calls Try.prog 12 #[.int .i64 a, .int .i64 b] w fun e w' => e = .returned (.tuple #[.int .i64 (Ar.mulF a b).1, .int .i64 (Ar.mulF a b).2]) ∧ w' = w := by
  have hx : a.natAbs ≤ 1152921504606846976 := by omega
  have hy : b.natAbs ≤ 1152921504606846976 := by omega
  have hok : a.natAbs * b.natAbs ≤ 1152921504606846976 → (Ar.mulF a b).1 = a * b ∧ (Ar.mulF a b).2 = 0 := by
    intro h
    have e : Ar.mulF a b = (a * b, 0) := Ar.pairF_ok (Ar.inB_mk ha) (Ar.inB_mk hb) ((Ar.mul_in a b).2 h)
    rw [e]; exact ⟨rfl, rfl⟩
  have hov : 1152921504606846976 < a.natAbs * b.natAbs → (Ar.mulF a b).1 = 0 ∧ (Ar.mulF a b).2 = 11 := by
    intro h
    have e : Ar.mulF a b = (0, 11) := Ar.pairF_over (Ar.inB_mk ha) (Ar.inB_mk hb) (fun c => by have := (Ar.mul_in a b).1 c; omega)
    rw [e]; exact ⟨rfl, rfl⟩
  generalize (Ar.mulF a b).1 = p at *
  generalize (Ar.mulF a b).2 = pe at *
  by_cases na : a < 0
  · by_cases nb : b < 0
    · rw [Ar.mul_same (Or.inl ⟨na, nb⟩)] at hok
      have k := mul_nn a.natAbs b.natAbs p pe w hx hy (by omega) (by omega) ⟨hok, hov⟩
      rw [show -(a.natAbs : Int) = a from by omega, show -(b.natAbs : Int) = b from by omega] at k
      exact k
    · rw [Ar.mul_other (Or.inl ⟨na, by omega⟩)] at hok
      have k := mul_np a.natAbs b.natAbs p pe w hx hy (by omega) ⟨hok, hov⟩
      rw [show -(a.natAbs : Int) = a from by omega, show (b.natAbs : Int) = b from by omega] at k
      exact k
  · by_cases nb : b < 0
    · rw [Ar.mul_other (Or.inr ⟨by omega, nb⟩)] at hok
      have k := mul_pn a.natAbs b.natAbs p pe w hx hy (by omega) ⟨hok, hov⟩
      rw [show (a.natAbs : Int) = a from by omega, show -(b.natAbs : Int) = b from by omega] at k
      exact k
    · rw [Ar.mul_same (Or.inr ⟨by omega, by omega⟩)] at hok
      have k := mul_pp a.natAbs b.natAbs p pe w hx hy ⟨hok, hov⟩
      rw [show (a.natAbs : Int) = a from by omega, show (b.natAbs : Int) = b from by omega] at k
      exact k

theorem mul_any (a b : Int) (w : World) (wa : -9223372036854775808 ≤ a ∧ a ≤ 9223372036854775807) (wb : -9223372036854775808 ≤ b ∧ b ≤ 9223372036854775807) :
    Calls Try.prog 12 #[.int .i64 a, .int .i64 b] w fun e w' => e = .returned (.tuple #[.int .i64 (Ar.mulF a b).1, .int .i64 (Ar.mulF a b).2]) ∧ w' = w := by
  by_cases ha : -1152921504606846976 ≤ a ∧ a ≤ 1152921504606846976
  · by_cases hb : -1152921504606846976 ≤ b ∧ b ≤ 1152921504606846976
    · exact mul_in a b w ha hb
    · rw [show Ar.mulF a b = (0, 2) from Ar.pairF_out (fun c => hb (Ar.inB_true c.2))]
      obtain ⟨ha1, ha2⟩ := ha
      go_enter Try.func12, Try.ntmps12
      go_wp2_with fail
      refine (in_yes _ _ ⟨ha1, ha2⟩).mono ?_; rintro e w' ⟨rfl, rfl⟩
      go_wp2_with fail
      refine (in_no _ _ wb hb).mono ?_; rintro e w' ⟨rfl, rfl⟩
      go_wp2
      go_ret2
      exact ⟨rfl, rfl⟩
  · rw [show Ar.mulF a b = (0, 2) from Ar.pairF_out (fun c => ha (Ar.inB_true c.1))]
    go_enter Try.func12, Try.ntmps12
    go_wp2_with fail
    refine (in_no _ _ wa ha).mono ?_; rintro e w' ⟨rfl, rfl⟩
    go_wp2
    go_ret2
    exact ⟨rfl, rfl⟩

end Go.Proofs.Ytlambneopjecbaa.Re
