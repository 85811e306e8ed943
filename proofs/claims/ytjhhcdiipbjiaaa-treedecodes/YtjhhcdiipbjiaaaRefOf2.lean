/- The document's own reading of a number (numberOf) by its contract. -/
import Derived.Test.YtjhhcdiipbjiaaaRefOfF
import Derived.Deep.DeepCutAuto
import Derived.Deep.RegionHeld3
namespace Go.Proofs.Ytjhhcdiipbjiaaa
open Go.ChangeShapes Go.WideShapes Go.ChangeAt Go.RowKit
set_option linter.unusedVariables false

set_option maxHeartbeats 40000000 in
set_option maxRecDepth 100000 in
theorem rnum_cons (f : UInt8) (l0 : List UInt8) (hl : (f :: l0).length ≤ maxLen) (w : World) :
    Calls Try.prog 51 #[.string (bs (f :: l0))] w fun e w' => e = .returned (.tuple #[.int .i64 (rnumF (f :: l0)).1, .int .i64 (rnumF (f :: l0)).2]) ∧ w.grownBy w' none := by
  have hconv := run_bytes_of_string (P := Try.prog) w 9 48 5 (bs (f :: l0)) Try.underlying9 Try.underlying48 Try.underlying5
  have hcell := Lf.hide (fun i h => bytes_cell w (f :: l0) (grownCap w (bs (f :: l0)).size 0 5) ((bytesRow (bs (f :: l0)) (grownCap w (bs (f :: l0)).size 0 5)).size, (bytesRow (bs (f :: l0)) (grownCap w (bs (f :: l0)).size 0 5)).size + 1) i h)
  have hgw : Hid (w.grownBy (w.drew.alloc (.cells (bytesRow (bs (f :: l0)) (grownCap w (bs (f :: l0)).size 0 5)) 5 ((bytesRow (bs (f :: l0)) (grownCap w (bs (f :: l0)).size 0 5)).size, (bytesRow (bs (f :: l0)) (grownCap w (bs (f :: l0)).size 0 5)).size + 1))) none) := grow_trans (grow_drew (grow_refl w none)) (Lf.gb _)
  have hsz := bs_size (f :: l0)
  have h0 : ∀ h, (bs (f :: l0))[0]'h = f := fun _ => rfl
  have hx := Lf.hide (fun i (h : i ≤ (f :: l0).length) => bs_take (f :: l0) i h)
  unfold maxLen at hl
  obtain ⟨L, hLN⟩ : ∃ L, L = (f :: l0).length := ⟨_, rfl⟩
  generalize w.drew.alloc (.cells (bytesRow (bs (f :: l0)) (grownCap w (bs (f :: l0)).size 0 5)) 5 ((bytesRow (bs (f :: l0)) (grownCap w (bs (f :: l0)).size 0 5)).size, (bytesRow (bs (f :: l0)) (grownCap w (bs (f :: l0)).size 0 5)).size + 1)) = wb at *
  generalize grownCap w (bs (f :: l0)).size 0 5 = cap at *
  rw [hsz] at hconv
  rw [← hLN] at hsz hconv hl
  generalize bs (f :: l0) = s at *
  have HLN := Lf.hide hLN
  have hLpos : 0 < L := by rw [hLN]; simp
  clear hLN
  go_enter Try.func51, Try.ntmps51
  go_wp2_with fail
  go_loopw [4, 5, 12] (fun nv kv iv wr => ∃ i : Nat, i ≤ L ∧ iv = .int .i64 i ∧ ((i = 0 ∧ nv = .int .i64 0 ∧ kv = .int .i64 1) ∨ ∃ size : Nat, RN f l0 i size ∧ nv = .int .i64 size ∧ kv = .int .i64 ((2 ^ (6 + 7 * (i - 1)) : Nat))) ∧ wr = wb) (fun _ _ iv _ => L - (intOf iv).toNat)
  case atStart => exact ⟨0, Nat.zero_le _, rfl, .inl ⟨rfl, rfl, rfl⟩, rfl⟩
  case round =>
    obtain ⟨i, hi, rfl, hcase, rfl⟩ := hrel
    by_cases hiL : i < L
    · have hi2 : i < (f :: l0).length := by rw [← HLN.out]; exact hiL
      have hci := hcell.out i hi2
      have hcb : ((f :: l0)[i]).toNat ≤ 255 := by have := ((f :: l0)[i]).toNat_lt; omega
      rcases hcase with ⟨rfl, rfl, rfl⟩ | ⟨size, hRN, rfl, rfl⟩
      · have hc0 : (f :: l0)[0] = f := rfl
        rw [hc0] at hci hcb
        by_cases hc : f.toNat < 128
        · obtain ⟨Z, hZ⟩ : ∃ Z, Z = f.toNat % 64 := ⟨_, rfl⟩
          have HT : numTail 8 6 (f.toNat % 64) f l0 = some (Z, f, (f :: l0).drop (0 + 1)) := by rw [numTail_lo _ _ _ _ _ hc, hZ]; rfl
          have hZi : (f.toNat : Int) % 64 = (Z : Int) := by omega
          have hZ63 : Z ≤ 63 := by omega
          clear hZ
          obtain ⟨NN, hNN⟩ : ∃ NN : Int, NN = sgn f Z := ⟨_, rfl⟩
          have hNb : -4611686018427387904 ≤ NN ∧ NN ≤ 4611686018427387904 := by rw [hNN]; unfold sgn; split <;> omega
          have HTT := Lf.hide HT
          have HNN := Lf.hide hNN
          clear HT hNN
          go_upto_if 47 with fail
          go_cut [4] (fun n4 wx => n4 = .int .i64 NN ∧ wx = wr)
          case first =>
            rcases (show f.toNat / 64 % 2 = 1 ∨ f.toNat / 64 % 2 = 0 from by omega) with hsg | hsg
            · have hand : bits .and .u8 (f.toNat : Int) 64 = 64 := by rw [andu8, hsg]; rfl
              have HS : Hid (NN = -(Z : Int)) := by rw [HNN.out]; unfold sgn; rw [if_pos hsg]; rfl
              go_wp2_with fail
              go_meet
              exact ⟨by rw [HS.out], rfl⟩
            · have hand : bits .and .u8 (f.toNat : Int) 64 = 0 := by rw [andu8, hsg]; rfl
              have HS : Hid (NN = (Z : Int)) := by rw [HNN.out]; unfold sgn; rw [if_neg (by omega)]; rfl
              go_wp2_with fail
              go_meet
              exact ⟨by rw [HS.out], rfl⟩
          case rest =>
            obtain ⟨rfl, rfl⟩ := hcut
            have hxi := hx.out (0 + 1) (by omega)
            have HX := Lf.hide (fun w => rtext_any NN hNb w)
            have hw1 : IntKind.i64.wrap 1 = 1 := by decide
            have hw0 : IntKind.i64.wrap (0 + 1) = 1 := by decide
            have hL3 : (1 : Int) ≤ (L : Int) := by omega
            by_cases hin : -1152921504606846976 ≤ NN ∧ NN ≤ 1152921504606846976
            · have HI := Lf.hide (fun w => rin_yes NN hin w)
              by_cases heq : encN NN = (f :: l0).take (0 + 1)
              · have HZ := Lf.hide (fin_yes hi2 (by rw [← HNN.out]; exact hin) (by rw [← HNN.out]; exact heq))
                rw [← HNN.out] at HZ
                rw [← heq] at hxi
                clear heq hin hx
                generalize bs (encN NN) = st at *
                go_wp2_with fail
                go_region_held3 (fun w' => wc.grownBy w' none) (first | assumption | exact grow_drew (grow_refl _ _)) (first | (go_at_call 20; refine (HI.out _).mono ?_; rintro e w' ⟨rfl, rfl⟩) | (go_at_call 43; refine (HX.out _).mono ?_; rintro e w' ⟨rfl, hg'⟩; have hg'' := Lf.gbt (show wc.grownBy _ none by first | assumption | exact grow_drew (grow_refl _ _)) hg'; clear hg'))
                all_goals
                  go_wp2_with fail
                  go_ret2
                  rw [HZ.out]
                  exact ⟨rfl, Lf.gbt hgw.out (by assumption)⟩
              · have HZ := Lf.hide (fin_no hi2 HTT.out (by rw [← HNN.out]; exact fun h => heq h.2))
                have hne : ((bs (encN NN)).toList == (bs ((f :: l0).take (0 + 1))).toList) = false := by
                  have e1 : ∀ l : List UInt8, (bs l).toList = l := fun l => by simp [bs]
                  rw [e1, e1]; simpa using heq
                clear heq hin hx
                generalize bs (encN NN) = st at *
                generalize bs ((f :: l0).take (0 + 1)) = su at *
                go_wp2_with fail
                go_region_held3 (fun w' => wc.grownBy w' none) (first | assumption | exact grow_drew (grow_refl _ _)) (first | (go_at_call 20; refine (HI.out _).mono ?_; rintro e w' ⟨rfl, rfl⟩) | (go_at_call 43; refine (HX.out _).mono ?_; rintro e w' ⟨rfl, hg'⟩; have hg'' := Lf.gbt (show wc.grownBy _ none by first | assumption | exact grow_drew (grow_refl _ _)) hg'; clear hg'))
                all_goals
                  go_wp2_with fail
                  go_ret2
                  rw [HZ.out]
                  exact ⟨rfl, Lf.gbt hgw.out (by assumption)⟩
            · have HI := Lf.hide (fun w => rin_no NN hin hNb w)
              have HZ := Lf.hide (fin_no hi2 HTT.out (by rw [← HNN.out]; exact fun h => hin h.1))
              clear hin hx
              go_wp2_with fail
              first
                | go_region_with ((go_at_call 20; refine (HI.out _).mono ?_; rintro e w' ⟨rfl, rfl⟩))
                | fail
              all_goals
                go_wp2_with fail
                go_ret2
                rw [HZ.out]
                exact ⟨rfl, grow_drew hgw.out⟩
        · have hc' : (128 : Int) ≤ f.toNat := by omega
          have HN : Hid (RN f l0 1 (f.toNat % 64)) := ⟨f, by omega, by omega, by omega, by show _ < 64; omega, rfl⟩
          go_wp2_with fail
          go_roundw
          case rel => exact ⟨1, by omega, by go_num, .inr ⟨f.toNat % 64, HN.out, by go_num, by first | trivial | rfl⟩, by first | trivial | rfl⟩
          case measure => simp [intOf]; omega
      · obtain ⟨hr1, hr9⟩ : 1 ≤ i ∧ i ≤ 9 := by obtain ⟨_, a, b, _⟩ := hRN; exact ⟨a, b⟩
        obtain ⟨hk1, hk2, hk3, hk4⟩ := pow_k i hr1 hr9
        obtain ⟨c, hc⟩ : ∃ c, c = ((f :: l0)[i]).toNat := ⟨_, rfl⟩
        rw [← hc] at hci hcb
        by_cases h8 : 8 < i
        · have HZ := Lf.hide (rn_nine hRN h8)
          clear hRN hk1 hk2 hk3 hk4 hc
          generalize (2 : Nat) ^ (6 + 7 * (i - 1)) = K at *
          go_wp2_with fail
          go_ret2
          rw [HZ.out]
          exact ⟨rfl, hgw.out⟩
        · obtain ⟨hk5, hk6⟩ := hk3 (by omega)
          have hsz4 : size < 2 ^ (6 + 7 * (i - 1)) := by obtain ⟨_, _, _, _, a, _⟩ := hRN; exact a
          by_cases hbig : i = 8 ∧ 63 < c % 128
          · obtain ⟨rfl, hb⟩ := hbig
            have HZ := Lf.hide (rn_big hRN hi2 (by rw [← hc]; exact hb))
            have hb' : (63 : Int) < (c : Int) % 128 := by omega
            clear hRN hk1 hk2 hk3 hk4 hk6 hc hsz4
            generalize (2 : Nat) ^ (6 + 7 * (8 - 1)) = K at *
            go_wp2_with fail
            go_ret2
            rw [HZ.out]
            exact ⟨rfl, hgw.out⟩
          · have hnot : ¬ (i = 8 ∧ 63 < c % 128) := hbig
            by_cases hi8 : i = 8
            · subst hi8
              have hc63 : (c : Int) % 128 ≤ 63 := by omega
              have hc63n : c % 128 ≤ 63 := by omega
              by_cases hc128 : c < 128
              · have HT := rn_fin hRN hi2 (by omega) (by rw [← hc]; exact hc128)
                rw [← hc] at HT
                obtain ⟨K, hK⟩ : ∃ K : Nat, K = 2 ^ (6 + 7 * (8 - 1)) := ⟨_, rfl⟩
                rw [← hK] at HT hsz4 hk5 ⊢
                obtain ⟨M, hM⟩ : ∃ M : Nat, M = c % 128 * K := ⟨_, rfl⟩
                have hMb : M ≤ 2305843009213693952 := by rw [hM]; exact Nat.le_trans (Nat.mul_le_mul hc63n hk5) (by omega)
                rw [← hM] at HT
                obtain ⟨Z, hZ⟩ : ∃ Z : Nat, Z = size + M := ⟨_, rfl⟩
                rw [← hZ] at HT
                have hMi : (c : Int) % 128 * (K : Int) = (M : Int) := by rw [hM]; push_cast; rfl
                have hZi : (size : Int) + (M : Int) = (Z : Int) := by omega
                have hZb : Z ≤ 2305843009213693952 + 36028797018963968 := by omega
                have hcI : (c : Int) < 128 := by omega
                have hKb : K ≤ 36028797018963968 := by omega
                clear hM hZ hK hRN hc hbig hnot hk1 hk2 hk3 hk4 hk5 hk6
                obtain ⟨NN, hNN⟩ : ∃ NN : Int, NN = sgn f Z := ⟨_, rfl⟩
                have hNb : -4611686018427387904 ≤ NN ∧ NN ≤ 4611686018427387904 := by rw [hNN]; unfold sgn; split <;> omega
                have HTT := Lf.hide HT
                have HNN := Lf.hide hNN
                clear HT hNN
                go_upto_if 47 with fail
                go_cut [4] (fun n4 wx => n4 = .int .i64 NN ∧ wx = wr)
                case first =>
                  rcases (show f.toNat / 64 % 2 = 1 ∨ f.toNat / 64 % 2 = 0 from by omega) with hsg | hsg
                  · have hand : bits .and .u8 (f.toNat : Int) 64 = 64 := by rw [andu8, hsg]; rfl
                    have HS : Hid (NN = -(Z : Int)) := by rw [HNN.out]; unfold sgn; rw [if_pos hsg]; rfl
                    go_wp2_with fail
                    go_meet
                    exact ⟨by rw [HS.out], rfl⟩
                  · have hand : bits .and .u8 (f.toNat : Int) 64 = 0 := by rw [andu8, hsg]; rfl
                    have HS : Hid (NN = (Z : Int)) := by rw [HNN.out]; unfold sgn; rw [if_neg (by omega)]; rfl
                    go_wp2_with fail
                    go_meet
                    exact ⟨by rw [HS.out], rfl⟩
                case rest =>
                  obtain ⟨rfl, rfl⟩ := hcut
                  have hxi := hx.out (8 + 1) (by omega)
                  have HX := Lf.hide (fun w => rtext_any NN hNb w)
                  have hw1 : IntKind.i64.wrap 9 = 9 := by decide
                  have hw0 : IntKind.i64.wrap (8 + 1) = 9 := by decide
                  have hL3 : (9 : Int) ≤ (L : Int) := by omega
                  by_cases hin : -1152921504606846976 ≤ NN ∧ NN ≤ 1152921504606846976
                  · have HI := Lf.hide (fun w => rin_yes NN hin w)
                    by_cases heq : encN NN = (f :: l0).take (8 + 1)
                    · have HZ := Lf.hide (fin_yes hi2 (by rw [← HNN.out]; exact hin) (by rw [← HNN.out]; exact heq))
                      rw [← HNN.out] at HZ
                      rw [← heq] at hxi
                      clear heq hin hx
                      generalize bs (encN NN) = st at *
                      go_wp2_with fail
                      go_region_held3 (fun w' => wc.grownBy w' none) (first | assumption | exact grow_drew (grow_refl _ _)) (first | (go_at_call 20; refine (HI.out _).mono ?_; rintro e w' ⟨rfl, rfl⟩) | (go_at_call 43; refine (HX.out _).mono ?_; rintro e w' ⟨rfl, hg'⟩; have hg'' := Lf.gbt (show wc.grownBy _ none by first | assumption | exact grow_drew (grow_refl _ _)) hg'; clear hg'))
                      all_goals
                        go_wp2_with fail
                        go_ret2
                        rw [HZ.out]
                        exact ⟨rfl, Lf.gbt hgw.out (by assumption)⟩
                    · have HZ := Lf.hide (fin_no hi2 HTT.out (by rw [← HNN.out]; exact fun h => heq h.2))
                      have hne : ((bs (encN NN)).toList == (bs ((f :: l0).take (8 + 1))).toList) = false := by
                        have e1 : ∀ l : List UInt8, (bs l).toList = l := fun l => by simp [bs]
                        rw [e1, e1]; simpa using heq
                      clear heq hin hx
                      generalize bs (encN NN) = st at *
                      generalize bs ((f :: l0).take (8 + 1)) = su at *
                      go_wp2_with fail
                      go_region_held3 (fun w' => wc.grownBy w' none) (first | assumption | exact grow_drew (grow_refl _ _)) (first | (go_at_call 20; refine (HI.out _).mono ?_; rintro e w' ⟨rfl, rfl⟩) | (go_at_call 43; refine (HX.out _).mono ?_; rintro e w' ⟨rfl, hg'⟩; have hg'' := Lf.gbt (show wc.grownBy _ none by first | assumption | exact grow_drew (grow_refl _ _)) hg'; clear hg'))
                      all_goals
                        go_wp2_with fail
                        go_ret2
                        rw [HZ.out]
                        exact ⟨rfl, Lf.gbt hgw.out (by assumption)⟩
                  · have HI := Lf.hide (fun w => rin_no NN hin hNb w)
                    have HZ := Lf.hide (fin_no hi2 HTT.out (by rw [← HNN.out]; exact fun h => hin h.1))
                    clear hin hx
                    go_wp2_with fail
                    first
                      | go_region_with ((go_at_call 20; refine (HI.out _).mono ?_; rintro e w' ⟨rfl, rfl⟩))
                      | fail
                    all_goals
                      go_wp2_with fail
                      go_ret2
                      rw [HZ.out]
                      exact ⟨rfl, grow_drew hgw.out⟩
              · have HN := Lf.hide (rn_next hRN hi2 (by omega) (by rw [← hc]; omega))
                rw [← hc] at HN
                obtain ⟨K, hK⟩ : ∃ K : Nat, K = 2 ^ (6 + 7 * (8 - 1)) := ⟨_, rfl⟩
                have HK6 := Lf.hide hk6
                rw [← hK] at HN HK6 hsz4 hk5 ⊢
                obtain ⟨M, hM⟩ : ∃ M : Nat, M = c % 128 * K := ⟨_, rfl⟩
                have hMb : M ≤ 2305843009213693952 := by rw [hM]; exact Nat.le_trans (Nat.mul_le_mul hc63n hk5) (by omega)
                rw [← hM] at HN
                have hMi : (c : Int) % 128 * (K : Int) = (M : Int) := by rw [hM]; push_cast; rfl
                have hcI : (128 : Int) ≤ (c : Int) := by omega
                have hKb : K ≤ 36028797018963968 := by omega
                clear hM hK hRN hc hbig hnot hk1 hk2 hk3 hk4 hk5 hk6
                go_wp2_with fail
                go_roundw
                case rel => exact ⟨8 + 1, by omega, by go_num, .inr ⟨size + M, HN.out, by go_num, by rw [show 8 + 1 - 1 = 8 from rfl, ← HK6.out]; go_num⟩, by first | trivial | rfl⟩
                case measure => simp [intOf]; omega
            · have h8b : ((i : Int) == 8) = false := by simp; omega
              have h0b : ((i : Int) == 0) = false := by simp; omega
              have hi7 : i ≤ 7 := by omega
              have hk7 := hk4 hi7
              by_cases hc128 : c < 128
              · have HT := rn_fin hRN hi2 (by omega) (by rw [← hc]; exact hc128)
                rw [← hc] at HT
                obtain ⟨K, hK⟩ : ∃ K : Nat, K = 2 ^ (6 + 7 * (i - 1)) := ⟨_, rfl⟩
                rw [← hK] at HT hsz4 hk7 ⊢
                obtain ⟨M, hM⟩ : ∃ M : Nat, M = c % 128 * K := ⟨_, rfl⟩
                have hMb : M ≤ 35747322042253312 := by rw [hM]; exact Nat.le_trans (Nat.mul_le_mul (show c % 128 ≤ 127 by omega) hk7) (by omega)
                rw [← hM] at HT
                obtain ⟨Z, hZ⟩ : ∃ Z : Nat, Z = size + M := ⟨_, rfl⟩
                rw [← hZ] at HT
                have hMi : (c : Int) % 128 * (K : Int) = (M : Int) := by rw [hM]; push_cast; rfl
                have hZi : (size : Int) + (M : Int) = (Z : Int) := by omega
                have hZb : Z ≤ 2305843009213693952 + 36028797018963968 := by omega
                have hcI : (c : Int) < 128 := by omega
                have hKb : K ≤ 36028797018963968 := by omega
                clear hM hZ hK hRN hc hbig hnot hk1 hk2 hk3 hk4 hk5 hk6
                obtain ⟨NN, hNN⟩ : ∃ NN : Int, NN = sgn f Z := ⟨_, rfl⟩
                have hNb : -4611686018427387904 ≤ NN ∧ NN ≤ 4611686018427387904 := by rw [hNN]; unfold sgn; split <;> omega
                have HTT := Lf.hide HT
                have HNN := Lf.hide hNN
                clear HT hNN
                go_upto_if 47 with fail
                go_cut [4] (fun n4 wx => n4 = .int .i64 NN ∧ wx = wr)
                case first =>
                  rcases (show f.toNat / 64 % 2 = 1 ∨ f.toNat / 64 % 2 = 0 from by omega) with hsg | hsg
                  · have hand : bits .and .u8 (f.toNat : Int) 64 = 64 := by rw [andu8, hsg]; rfl
                    have HS : Hid (NN = -(Z : Int)) := by rw [HNN.out]; unfold sgn; rw [if_pos hsg]; rfl
                    go_wp2_with fail
                    go_meet
                    exact ⟨by rw [HS.out], rfl⟩
                  · have hand : bits .and .u8 (f.toNat : Int) 64 = 0 := by rw [andu8, hsg]; rfl
                    have HS : Hid (NN = (Z : Int)) := by rw [HNN.out]; unfold sgn; rw [if_neg (by omega)]; rfl
                    go_wp2_with fail
                    go_meet
                    exact ⟨by rw [HS.out], rfl⟩
                case rest =>
                  obtain ⟨rfl, rfl⟩ := hcut
                  have hxi := hx.out (i + 1) (by omega)
                  have HX := Lf.hide (fun w => rtext_any NN hNb w)
                  have hw1 : IntKind.i64.wrap ((i : Int) + 1) = (i : Int) + 1 := by rw [show (i : Int) + 1 = ((i + 1 : Nat) : Int) from rfl]; exact wrap_i64_nat (i + 1) (by omega)
                  have htn : ((i : Int) + 1).toNat = i + 1 := by omega
                  have hL3 : (i : Int) + 1 ≤ (L : Int) := by omega
                  by_cases hin : -1152921504606846976 ≤ NN ∧ NN ≤ 1152921504606846976
                  · have HI := Lf.hide (fun w => rin_yes NN hin w)
                    by_cases heq : encN NN = (f :: l0).take (i + 1)
                    · have HZ := Lf.hide (fin_yes hi2 (by rw [← HNN.out]; exact hin) (by rw [← HNN.out]; exact heq))
                      rw [← HNN.out] at HZ
                      rw [← heq] at hxi
                      clear heq hin hx
                      generalize bs (encN NN) = st at *
                      go_wp2_with fail
                      go_region_with (first | (go_at_call 20; refine (HI.out _).mono ?_; rintro e w' ⟨rfl, rfl⟩) | (go_at_call 43; refine (HX.out _).mono ?_; rintro e w' ⟨rfl, hg'⟩; have hg'' := Lf.gbt (show wc.grownBy _ none by first | assumption | exact grow_drew (grow_refl _ _)) hg'; clear hg'))
                      all_goals
                        go_wp2_with fail
                        go_ret2
                        rw [HZ.out]
                        exact ⟨rfl, Lf.gbt hgw.out (by assumption)⟩
                    · have HZ := Lf.hide (fin_no hi2 HTT.out (by rw [← HNN.out]; exact fun h => heq h.2))
                      have hne : ((bs (encN NN)).toList == (bs ((f :: l0).take (i + 1))).toList) = false := by
                        have e1 : ∀ l : List UInt8, (bs l).toList = l := fun l => by simp [bs]
                        rw [e1, e1]; simpa using heq
                      clear heq hin hx
                      generalize bs (encN NN) = st at *
                      generalize bs ((f :: l0).take (i + 1)) = su at *
                      go_wp2_with fail
                      go_region_with (first | (go_at_call 20; refine (HI.out _).mono ?_; rintro e w' ⟨rfl, rfl⟩) | (go_at_call 43; refine (HX.out _).mono ?_; rintro e w' ⟨rfl, hg'⟩; have hg'' := Lf.gbt (show wc.grownBy _ none by first | assumption | exact grow_drew (grow_refl _ _)) hg'; clear hg'))
                      all_goals
                        go_wp2_with fail
                        go_ret2
                        rw [HZ.out]
                        exact ⟨rfl, Lf.gbt hgw.out (by assumption)⟩
                  · have HI := Lf.hide (fun w => rin_no NN hin hNb w)
                    have HZ := Lf.hide (fin_no hi2 HTT.out (by rw [← HNN.out]; exact fun h => hin h.1))
                    clear hin hx
                    go_wp2_with fail
                    first
                      | go_region_with ((go_at_call 20; refine (HI.out _).mono ?_; rintro e w' ⟨rfl, rfl⟩))
                      | fail
                    all_goals
                      go_wp2_with fail
                      go_ret2
                      rw [HZ.out]
                      exact ⟨rfl, grow_drew hgw.out⟩
              · have HN := Lf.hide (rn_next hRN hi2 (by omega) (by rw [← hc]; omega))
                rw [← hc] at HN
                obtain ⟨K, hK⟩ : ∃ K : Nat, K = 2 ^ (6 + 7 * (i - 1)) := ⟨_, rfl⟩
                have HK6 := Lf.hide hk6
                rw [← hK] at HN HK6 hsz4 hk7 ⊢
                obtain ⟨M, hM⟩ : ∃ M : Nat, M = c % 128 * K := ⟨_, rfl⟩
                have hMb : M ≤ 35747322042253312 := by rw [hM]; exact Nat.le_trans (Nat.mul_le_mul (show c % 128 ≤ 127 by omega) hk7) (by omega)
                rw [← hM] at HN
                have hMi : (c : Int) % 128 * (K : Int) = (M : Int) := by rw [hM]; push_cast; rfl
                have hcI : (128 : Int) ≤ (c : Int) := by omega
                have hKb : K ≤ 36028797018963968 := by omega
                clear hM hK hRN hc hbig hnot hk1 hk2 hk3 hk4 hk5 hk6
                go_wp2_with fail
                go_roundw
                case rel => exact ⟨i + 1, by omega, by go_num, .inr ⟨size + M, HN.out, by go_num, by rw [show i + 1 - 1 = i from rfl, ← HK6.out]; go_num⟩, by first | trivial | rfl⟩
                case measure => simp [intOf]; omega
    · rcases hcase with ⟨rfl, _, _⟩ | ⟨size, hRN, rfl, rfl⟩
      · omega
      · have HZ := Lf.hide (rn_end hRN (by rw [← HLN.out]; omega))
        clear hRN
        generalize (2 : Nat) ^ (6 + 7 * (i - 1)) = K at *
        go_wp2_with fail
        go_ret2
        rw [HZ.out]
        exact ⟨rfl, hgw.out⟩

theorem rnum_nil (w : World) : Calls Try.prog 51 #[.string (bs [])] w fun e w' => e = .returned (.tuple #[.int .i64 (rnumF []).1, .int .i64 (rnumF []).2]) ∧ w.grownBy w' none := by
  have hconv := run_bytes_of_string (P := Try.prog) w 9 48 5 (bs []) Try.underlying9 Try.underlying48 Try.underlying5
  have hsz := bs_size []
  rw [hsz] at hconv
  have hgw : Hid (w.grownBy (w.drew.alloc (.cells (bytesRow (bs []) (grownCap w ([] : List UInt8).length 0 5)) 5 ((bytesRow (bs []) (grownCap w ([] : List UInt8).length 0 5)).size, (bytesRow (bs []) (grownCap w ([] : List UInt8).length 0 5)).size + 1))) none) := grow_trans (grow_drew (grow_refl w none)) (Lf.gb _)
  have h00 : rnumF [] = (0, 0) := rfl
  rw [h00]
  generalize w.drew.alloc (.cells (bytesRow (bs []) (grownCap w ([] : List UInt8).length 0 5)) 5 ((bytesRow (bs []) (grownCap w ([] : List UInt8).length 0 5)).size, (bytesRow (bs []) (grownCap w ([] : List UInt8).length 0 5)).size + 1)) = wb at *
  generalize grownCap w ([] : List UInt8).length 0 5 = cap at *
  simp only [List.length_nil] at hconv
  generalize bs [] = s at *
  clear hsz h00
  go_enter Try.func51, Try.ntmps51
  go_wp2_with fail
  refine wp_loop_rounds 1 ?_; rw [rounds_succ]
  go_wp2_with fail
  go_ret2
  exact ⟨rfl, hgw.out⟩

theorem rnum_any (l : List UInt8) (hl : l.length ≤ maxLen) (w : World) : Calls Try.prog 51 #[.string (bs l)] w fun e w' => e = .returned (.tuple #[.int .i64 (rnumF l).1, .int .i64 (rnumF l).2]) ∧ w.grownBy w' none := by
  cases l with
  | nil => exact rnum_nil w
  | cons f l0 => exact rnum_cons f l0 hl w

end Go.Proofs.Ytjhhcdiipbjiaaa
