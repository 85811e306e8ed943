import Derived.Test.YthjpngaapflclacGreatRefA
import Derived.Deep.DeepCutAuto
import Derived.Deep.RegionHeld3
import Derived.Test.YthjpngaapflclacGreatNode
import Derived.Test.YthjpngaapflclacGreatAlikes
import Derived.Test.YthjpngaapflclacGreatDecode
namespace Go.Proofs.YthjpngaapflclacGreat
set_option maxRecDepth 100000
set_option maxHeartbeats 40000000
open Go.ChangeShapes Go.WideShapes Go.ChangeAt Go.RowKit
set_option linter.unusedVariables false
def rnumF (l : List UInt8) : Int × Nat := match pNum l with
 | some (m, l') => (m, l.length - l'.length)
 | none => (0, 0)
theorem andu8 (f : UInt8) : bits .and .u8 (f.toNat : Int) 64 = ((f.toNat / 64 % 2 * 64 : Nat) : Int) := by
 have : ∀ x : Fin 256, bits .and .u8 (x.val : Int) 64 = ((x.val / 64 % 2 * 64 : Nat) : Int) := by decide +kernel
 exact this ⟨f.toNat, f.toNat_lt⟩
theorem bytes_cell (w : World) (l : List UInt8) (cap : Nat) (fr : Nat × Nat) (i : Nat) (h : i < l.length) :
 (w.drew.alloc (.cells (bytesRow (bs l) cap) 5 fr)).cell? ⟨w.heap.size, i, none⟩ = some (.int .u8 (l[i].toNat : Int)) := by
 rw [cell_of_row _ w.heap.size i (bytesRow (bs l) cap) 5 fr (heap_alloc_new w.drew _)]
 unfold bytesRow
 rw [Array.getElem?_append_left (by simp [bs]; exact h)]
 simp [bs, h]
def sgn (f : UInt8) (size : Nat) : Int := if f.toNat / 64 % 2 = 1 then -(size : Int) else size
theorem fin_yes {f : UInt8} {l0 : List UInt8} {size i : Nat} (hi : i < (f :: l0).length) (hb : -1152921504606846976 <= sgn f size /\ sgn f size <= 1152921504606846976) (he : encN (sgn f size) = (f :: l0).take (i + 1)) :
 rnumF (f :: l0) = (sgn f size, i + 1) := by
 have h1 : f :: l0 = encN (sgn f size) ++ (f :: l0).drop (i + 1) := by rw [he, List.take_append_drop]
 unfold rnumF
 rw [h1, pNum_complete _ _ hb, ← h1]
 simp only [List.length_drop]
 congr 1
 omega
theorem fin_no {f last : UInt8} {l0 : List UInt8} {size i : Nat} (hi : i < (f :: l0).length) (hT : numTail 8 6 (f.toNat % 64) f l0 = some (size, last, (f :: l0).drop (i + 1)))
 (hn : ¬ ((-1152921504606846976 <= sgn f size /\ sgn f size <= 1152921504606846976) /\ encN (sgn f size) = (f :: l0).take (i + 1))) : rnumF (f :: l0) = (0, 0) := by
 have hp : pNum (f :: l0) = none := by
  cases hq : pNum (f :: l0) with
  | none => rfl
  | some r =>
   obtain ⟨m, l'⟩ := r
   obtain ⟨h1, h2⟩ := pNum_sound hq
   rw [pNum, hT] at hq
   simp only at hq
   split at hq
   ·simp at hq
   ·simp only [Option.some.injEq, Prod.mk.injEq] at hq
    obtain ⟨e1, e2⟩ := hq
    have e1' : sgn f size = m := e1
    refine absurd ⟨by rw [e1']; exact h1, ?_⟩ hn
    rw [e1']
    have hl := congrArg List.length h2
    rw [List.length_append, ← e2, List.length_drop] at hl
    rw [h2, ← e2]
    rw [List.take_append_of_le_length (by omega), List.take_of_length_le (by omega)]
 unfold rnumF
 rw [hp]
theorem none_of {f : UInt8} {l0 : List UInt8} (h : numTail 8 6 (f.toNat % 64) f l0 = none) : rnumF (f :: l0) = (0, 0) := by
 have hp : pNum (f :: l0) = none := by rw [pNum, h]
 unfold rnumF; rw [hp]
theorem big_of {f last : UInt8} {l0 l1 : List UInt8} {size : Nat} (h : numTail 8 6 (f.toNat % 64) f l0 = some (size, last, l1)) (hs : 1152921504606846976 < size) : rnumF (f :: l0) = (0, 0) := by
 have hp : pNum (f :: l0) = none := by rw [pNum, h]; simp only; rw [if_pos (.inr (.inl hs))]
 unfold rnumF; rw [hp]
def RN (f : UInt8) (l0 : List UInt8) (i : Nat) (size : Nat) : Prop := ∃ last : UInt8, 1 <= i /\ i <= 9 /\ 128 <= last.toNat /\ size < 2 ^ (6 + 7 * (i - 1)) /\ numTail (9 - i) (6 + 7 * (i - 1)) size last ((f :: l0).drop i) = numTail 8 6 (f.toNat % 64) f l0
theorem rn_end {f : UInt8} {l0 : List UInt8} {i size : Nat} (h : RN f l0 i size) (hi : (f :: l0).length <= i) : rnumF (f :: l0) = (0, 0) := by
 obtain ⟨last, h1, h2, h3, h4, h5⟩ := h
 apply none_of
 rw [← h5, List.drop_of_length_le hi]
 cases hk : 9 - i with
 | zero => rw [numTail.eq_def]; simp; omega
 | succ k => exact numTail_nil _ _ _ _ (by omega)
theorem rn_nine {f : UInt8} {l0 : List UInt8} {i size : Nat} (h : RN f l0 i size) (hi : 8 < i) : rnumF (f :: l0) = (0, 0) := by
 obtain ⟨last, h1, h2, h3, h4, h5⟩ := h
 apply none_of
 rw [← h5, show 9 - i = 0 from by omega, numTail.eq_def]; simp; omega
theorem drop_cons {f : UInt8} {l0 : List UInt8} {i : Nat} (hi : i < (f :: l0).length) : (f :: l0).drop i = (f :: l0)[i] :: (f :: l0).drop (i + 1) := List.drop_eq_getElem_cons hi
theorem rn_step {f : UInt8} {l0 : List UInt8} {i size : Nat} (h : RN f l0 i size) (hi : i < (f :: l0).length) (h8 : i <= 8) :
 numTail (8 - i) (6 + 7 * i) (size + ((f :: l0)[i]).toNat % 128 * 2 ^ (6 + 7 * (i - 1))) (f :: l0)[i] ((f :: l0).drop (i + 1)) = numTail 8 6 (f.toNat % 64) f l0 /\
 size + ((f :: l0)[i]).toNat % 128 * 2 ^ (6 + 7 * (i - 1)) < 2 ^ (6 + 7 * i) := by
 obtain ⟨last, h1, h2, h3, h4, h5⟩ := h
 rw [drop_cons hi, show 9 - i = (8 - i) + 1 from by omega, numTail_cons _ _ _ _ _ _ (by omega), show 6 + 7 * (i - 1) + 7 = 6 + 7 * i from by omega] at h5
 refine ⟨h5, ?_⟩
 have e : 6 + 7 * i = 6 + 7 * (i - 1) + 7 := by omega
 have hp0 : 0 < 2 ^ (6 + 7 * (i - 1)) := Nat.pow_pos (by omega)
 have hx : ((f :: l0)[i]).toNat % 128 * 2 ^ (6 + 7 * (i - 1)) + 2 ^ (6 + 7 * (i - 1)) <= 128 * 2 ^ (6 + 7 * (i - 1)) := by
  have := Nat.mul_le_mul_right (2 ^ (6 + 7 * (i - 1))) (show ((f :: l0)[i]).toNat % 128 + 1 <= 128 by omega)
  rw [Nat.add_mul, Nat.one_mul] at this; exact this
 have e2 : (2 : Nat) ^ (6 + 7 * i) = 2 ^ (6 + 7 * (i - 1)) * 128 := by rw [e]; exact Nat.pow_add 2 (6 + 7 * (i - 1)) 7
 rw [e2]
 omega
theorem rn_next {f : UInt8} {l0 : List UInt8} {i size : Nat} (h : RN f l0 i size) (hi : i < (f :: l0).length) (h8 : i <= 8) (hc : 128 <= ((f :: l0)[i]).toNat) : RN f l0 (i + 1) (size + ((f :: l0)[i]).toNat % 128 * 2 ^ (6 + 7 * (i - 1))) := by
 obtain ⟨a, b⟩ := rn_step h hi h8
 refine ⟨(f :: l0)[i], by omega, by omega, hc, ?_, ?_⟩
 ·rw [show i + 1 - 1 = i from rfl]; exact b
 ·rw [show i + 1 - 1 = i from rfl, show 9 - (i + 1) = 8 - i from by omega]; exact a
theorem rn_fin {f : UInt8} {l0 : List UInt8} {i size : Nat} (h : RN f l0 i size) (hi : i < (f :: l0).length) (h8 : i <= 8) (hc : ((f :: l0)[i]).toNat < 128) : numTail 8 6 (f.toNat % 64) f l0 = some (size + ((f :: l0)[i]).toNat % 128 * 2 ^ (6 + 7 * (i - 1)), (f :: l0)[i], (f :: l0).drop (i + 1)) := by
 rw [← (rn_step h hi h8).1, numTail_lo _ _ _ _ _ hc]
theorem rn_big {f : UInt8} {l0 : List UInt8} {size : Nat} (h : RN f l0 8 size) (hi : 8 < (f :: l0).length) (hb : 63 < ((f :: l0)[8]).toNat % 128) : rnumF (f :: l0) = (0, 0) := by
 by_cases hc : ((f :: l0)[8]).toNat < 128
 ·refine big_of (rn_fin h hi (by omega) hc) ?_
  have : (2 : Nat) ^ (6 + 7 * (8 - 1)) = 36028797018963968 := by decide +kernel
  rw [this]
  omega
 ·apply none_of
  rw [← (rn_step h hi (by omega)).1, show 8 - 8 = 0 from rfl, numTail.eq_def]; simp only; rw [if_neg hc]
theorem pow_k (i : Nat) (h : 1 <= i) (h9 : i <= 9) : (2 : Nat) ^ (6 + 7 * (i - 1)) <= 4611686018427387904 /\ 1 <= (2 : Nat) ^ (6 + 7 * (i - 1)) /\ (i <= 8 -> (2 : Nat) ^ (6 + 7 * (i - 1)) <= 36028797018963968 /\ (2 : Nat) ^ (6 + 7 * (i - 1)) * 128 = 2 ^ (6 + 7 * i)) /\ (i <= 7 -> (2 : Nat) ^ (6 + 7 * (i - 1)) <= 281474976710656) := by
 have : ∀ k : Fin 9, (2 : Nat) ^ (6 + 7 * k.val) <= 4611686018427387904 /\ 1 <= (2 : Nat) ^ (6 + 7 * k.val) /\ (k.val <= 7 -> (2 : Nat) ^ (6 + 7 * k.val) <= 36028797018963968) /\ (k.val <= 6 -> (2 : Nat) ^ (6 + 7 * k.val) <= 281474976710656) := by decide +kernel
 have hh := this ⟨i - 1, by omega⟩
 refine ⟨hh.1, hh.2.1, fun h8 => ⟨hh.2.2.1 (by show i - 1 <= 7; omega), ?_⟩, fun h7 => hh.2.2.2 (by show i - 1 <= 6; omega)⟩
 rw [show 6 + 7 * i = 6 + 7 * (i - 1) + 7 from by omega]; exact (Nat.pow_add 2 (6 + 7 * (i - 1)) 7).symm
theorem rnum_cons (f : UInt8) (l0 : List UInt8) (hl : (f :: l0).length <= maxLen) (w : World) :
 Calls Tryz.prog 101 #[.string (bs (f :: l0))] w fun e w' => e = .returned (.tuple #[.int .i64 (rnumF (f :: l0)).1, .int .i64 (rnumF (f :: l0)).2]) /\ w.grownBy w' none := by
 have hconv := run_bytes_of_string (P := Tryz.prog) w 9 100 5 (bs (f :: l0)) Tryz.underlying9 Tryz.underlying100 Tryz.underlying5
 have hcell := jh (fun i h => bytes_cell w (f :: l0) (grownCap w (bs (f :: l0)).size 0 5) ((bytesRow (bs (f :: l0)) (grownCap w (bs (f :: l0)).size 0 5)).size, (bytesRow (bs (f :: l0)) (grownCap w (bs (f :: l0)).size 0 5)).size + 1) i h)
 have hgw : Hid (w.grownBy (w.drew.alloc (.cells (bytesRow (bs (f :: l0)) (grownCap w (bs (f :: l0)).size 0 5)) 5 ((bytesRow (bs (f :: l0)) (grownCap w (bs (f :: l0)).size 0 5)).size, (bytesRow (bs (f :: l0)) (grownCap w (bs (f :: l0)).size 0 5)).size + 1))) none) := grow_trans (grow_drew (grow_refl w none)) (Lf.gb _)
 have hsz := bs_size (f :: l0)
 have h0 : ∀ h, (bs (f :: l0))[0]'h = f := fun _ => rfl
 have hx := jh (fun i (h : i <= (f :: l0).length) => bs_take (f :: l0) i h)
 unfold maxLen at hl
 obtain ⟨L, hLN⟩ : ∃ L, L = (f :: l0).length := ⟨_, rfl⟩
 generalize w.drew.alloc (.cells (bytesRow (bs (f :: l0)) (grownCap w (bs (f :: l0)).size 0 5)) 5 ((bytesRow (bs (f :: l0)) (grownCap w (bs (f :: l0)).size 0 5)).size, (bytesRow (bs (f :: l0)) (grownCap w (bs (f :: l0)).size 0 5)).size + 1)) = wb at *
 generalize grownCap w (bs (f :: l0)).size 0 5 = cap at *
 rw [hsz] at hconv
 rw [← hLN] at hsz hconv hl
 generalize bs (f :: l0) = s at *
 have HLN := jh hLN
 have hLpos : 0 < L := by rw [hLN]; simp
 clear hLN
 go_enter Tryz.func101, Tryz.ntmps101
 go_wp2_with fail
 go_loopw [4, 5, 12] (fun nv kv iv wr => ∃ i : Nat, i <= L /\ iv = .int .i64 i /\ ((i = 0 /\ nv = .int .i64 0 /\ kv = .int .i64 1) \/ ∃ size : Nat, RN f l0 i size /\ nv = .int .i64 size /\ kv = .int .i64 ((2 ^ (6 + 7 * (i - 1)) : Nat))) /\ wr = wb) (fun _ _ iv _ => L - (intOf iv).toNat)
 case atStart => exact ⟨0, Nat.zero_le _, rfl, .inl ⟨rfl, rfl, rfl⟩, rfl⟩
 case round =>
  obtain ⟨i, hi, rfl, hcase, rfl⟩ := hrel
  by_cases hiL : i < L
  ·have hi2 : i < (f :: l0).length := by rw [← HLN.out]; exact hiL
   have hci := hcell.out i hi2
   have hcb : ((f :: l0)[i]).toNat <= 255 := by have := ((f :: l0)[i]).toNat_lt; omega
   rcases hcase with ⟨rfl, rfl, rfl⟩ | ⟨size, hRN, rfl, rfl⟩
   ·have hc0 : (f :: l0)[0] = f := rfl
    rw [hc0] at hci hcb
    by_cases hc : f.toNat < 128
    ·obtain ⟨Z, hZ⟩ : ∃ Z, Z = f.toNat % 64 := ⟨_, rfl⟩
     have HT : numTail 8 6 (f.toNat % 64) f l0 = some (Z, f, (f :: l0).drop (0 + 1)) := by rw [numTail_lo _ _ _ _ _ hc, hZ]; rfl
     have hZi : (f.toNat : Int) % 64 = (Z : Int) := by omega
     have hZ63 : Z <= 63 := by omega
     clear hZ
     obtain ⟨NN, hNN⟩ : ∃ NN : Int, NN = sgn f Z := ⟨_, rfl⟩
     have hNb : -4611686018427387904 <= NN /\ NN <= 4611686018427387904 := by rw [hNN]; unfold sgn; split <;> omega
     have HTT := jh HT
     have HNN := jh hNN
     clear HT hNN
     go_upto_if 47 with fail
     go_cut [4] (fun n4 wx => n4 = .int .i64 NN /\ wx = wr)
     case first =>
      rcases (show f.toNat / 64 % 2 = 1 \/ f.toNat / 64 % 2 = 0 from by omega) with hsg | hsg
      ·have hand : bits .and .u8 (f.toNat : Int) 64 = 64 := by rw [andu8, hsg]; rfl
       have HS : Hid (NN = -(Z : Int)) := by rw [HNN.out]; unfold sgn; rw [if_pos hsg]; rfl
       go_wp2_with fail
       go_meet
       exact ⟨by rw [HS.out], rfl⟩
      ·have hand : bits .and .u8 (f.toNat : Int) 64 = 0 := by rw [andu8, hsg]; rfl
       have HS : Hid (NN = (Z : Int)) := by rw [HNN.out]; unfold sgn; rw [if_neg (by omega)]; rfl
       go_wp2_with fail
       go_meet
       exact ⟨by rw [HS.out], rfl⟩
     case rest =>
      obtain ⟨rfl, rfl⟩ := hcut
      have hxi := hx.out (0 + 1) (by omega)
      have HX := jh (fun w => rtext_any NN hNb w)
      have hw1 : IntKind.i64.wrap 1 = 1 := by decide
      have hw0 : IntKind.i64.wrap (0 + 1) = 1 := by decide
      have hL3 : (1 : Int) <= (L : Int) := by omega
      by_cases hin : -1152921504606846976 <= NN /\ NN <= 1152921504606846976
      ·have HI := jh (fun w => rin_yes NN hin w)
       by_cases heq : encN NN = (f :: l0).take (0 + 1)
       ·have HZ := jh (fin_yes hi2 (by rw [← HNN.out]; exact hin) (by rw [← HNN.out]; exact heq))
        rw [← HNN.out] at HZ
        rw [← heq] at hxi
        clear heq hin hx
        generalize bs (encN NN) = st at *
        go_wp2_with fail
        go_region_held3 (fun w' => wc.grownBy w' none) (first | assumption | exact grow_drew (grow_refl _ _)) (first | (go_at_call 42; refine (HI.out _).mono ?_; rintro e w' ⟨rfl, rfl⟩) | (go_at_call 107; refine (HX.out _).mono ?_; rintro e w' ⟨rfl, hg'⟩; have hg'' := Lf.gbt (show wc.grownBy _ none by first | assumption | exact grow_drew (grow_refl _ _)) hg'; clear hg'))
        all_goals
         go_wp2_with fail
         go_ret2
         rw [HZ.out]
         exact ⟨rfl, Lf.gbt hgw.out (by assumption)⟩
       ·have HZ := jh (fin_no hi2 HTT.out (by rw [← HNN.out]; exact fun h => heq h.2))
        have hne : ((bs (encN NN)).toList == (bs ((f :: l0).take (0 + 1))).toList) = false := by
         have e1 : ∀ l : List UInt8, (bs l).toList = l := fun l => by simp [bs]
         rw [e1, e1]; simpa using heq
        clear heq hin hx
        generalize bs (encN NN) = st at *
        generalize bs ((f :: l0).take (0 + 1)) = su at *
        go_wp2_with fail
        go_region_held3 (fun w' => wc.grownBy w' none) (first | assumption | exact grow_drew (grow_refl _ _)) (first | (go_at_call 42; refine (HI.out _).mono ?_; rintro e w' ⟨rfl, rfl⟩) | (go_at_call 107; refine (HX.out _).mono ?_; rintro e w' ⟨rfl, hg'⟩; have hg'' := Lf.gbt (show wc.grownBy _ none by first | assumption | exact grow_drew (grow_refl _ _)) hg'; clear hg'))
        all_goals
         go_wp2_with fail
         go_ret2
         rw [HZ.out]
         exact ⟨rfl, Lf.gbt hgw.out (by assumption)⟩
      ·have HI := jh (fun w => rin_no NN hin hNb w)
       have HZ := jh (fin_no hi2 HTT.out (by rw [← HNN.out]; exact fun h => hin h.1))
       clear hin hx
       go_wp2_with fail
       first
        | go_region_with ((go_at_call 42; refine (HI.out _).mono ?_; rintro e w' ⟨rfl, rfl⟩))
        | fail
       all_goals
        go_wp2_with fail
        go_ret2
        rw [HZ.out]
        exact ⟨rfl, grow_drew hgw.out⟩
    ·have hc' : (128 : Int) <= f.toNat := by omega
     have HN : Hid (RN f l0 1 (f.toNat % 64)) := ⟨f, by omega, by omega, by omega, by show _ < 64; omega, rfl⟩
     go_wp2_with fail
     go_roundw
     case rel => exact ⟨1, by omega, by go_num, .inr ⟨f.toNat % 64, HN.out, by go_num, by first | trivial | rfl⟩, by first | trivial | rfl⟩
     case measure => simp [intOf]; omega
   ·obtain ⟨hr1, hr9⟩ : 1 <= i /\ i <= 9 := by obtain ⟨_, a, b, _⟩ := hRN; exact ⟨a, b⟩
    obtain ⟨hk1, hk2, hk3, hk4⟩ := pow_k i hr1 hr9
    obtain ⟨c, hc⟩ : ∃ c, c = ((f :: l0)[i]).toNat := ⟨_, rfl⟩
    rw [← hc] at hci hcb
    by_cases h8 : 8 < i
    ·have HZ := jh (rn_nine hRN h8)
     clear hRN hk1 hk2 hk3 hk4 hc
     generalize (2 : Nat) ^ (6 + 7 * (i - 1)) = K at *
     go_wp2_with fail
     go_ret2
     rw [HZ.out]
     exact ⟨rfl, hgw.out⟩
    ·obtain ⟨hk5, hk6⟩ := hk3 (by omega)
     have hsz4 : size < 2 ^ (6 + 7 * (i - 1)) := by obtain ⟨_, _, _, _, a, _⟩ := hRN; exact a
     by_cases hbig : i = 8 /\ 63 < c % 128
     ·obtain ⟨rfl, hb⟩ := hbig
      have HZ := jh (rn_big hRN hi2 (by rw [← hc]; exact hb))
      have hb' : (63 : Int) < (c : Int) % 128 := by omega
      clear hRN hk1 hk2 hk3 hk4 hk6 hc hsz4
      generalize (2 : Nat) ^ (6 + 7 * (8 - 1)) = K at *
      go_wp2_with fail
      go_ret2
      rw [HZ.out]
      exact ⟨rfl, hgw.out⟩
     ·have hnot : ¬ (i = 8 /\ 63 < c % 128) := hbig
      by_cases hi8 : i = 8
      ·subst hi8
       have hc63 : (c : Int) % 128 <= 63 := by omega
       have hc63n : c % 128 <= 63 := by omega
       by_cases hc128 : c < 128
       ·have HT := rn_fin hRN hi2 (by omega) (by rw [← hc]; exact hc128)
        rw [← hc] at HT
        obtain ⟨K, hK⟩ : ∃ K : Nat, K = 2 ^ (6 + 7 * (8 - 1)) := ⟨_, rfl⟩
        rw [← hK] at HT hsz4 hk5 ⊢
        obtain ⟨M, hM⟩ : ∃ M : Nat, M = c % 128 * K := ⟨_, rfl⟩
        have hMb : M <= 2305843009213693952 := by rw [hM]; exact Nat.le_trans (Nat.mul_le_mul hc63n hk5) (by omega)
        rw [← hM] at HT
        obtain ⟨Z, hZ⟩ : ∃ Z : Nat, Z = size + M := ⟨_, rfl⟩
        rw [← hZ] at HT
        have hMi : (c : Int) % 128 * (K : Int) = (M : Int) := by rw [hM]; push_cast; rfl
        have hZi : (size : Int) + (M : Int) = (Z : Int) := by omega
        have hZb : Z <= 2305843009213693952 + 36028797018963968 := by omega
        have hcI : (c : Int) < 128 := by omega
        have hKb : K <= 36028797018963968 := by omega
        clear hM hZ hK hRN hc hbig hnot hk1 hk2 hk3 hk4 hk5 hk6
        obtain ⟨NN, hNN⟩ : ∃ NN : Int, NN = sgn f Z := ⟨_, rfl⟩
        have hNb : -4611686018427387904 <= NN /\ NN <= 4611686018427387904 := by rw [hNN]; unfold sgn; split <;> omega
        have HTT := jh HT
        have HNN := jh hNN
        clear HT hNN
        go_upto_if 47 with fail
        go_cut [4] (fun n4 wx => n4 = .int .i64 NN /\ wx = wr)
        case first =>
         rcases (show f.toNat / 64 % 2 = 1 \/ f.toNat / 64 % 2 = 0 from by omega) with hsg | hsg
         ·have hand : bits .and .u8 (f.toNat : Int) 64 = 64 := by rw [andu8, hsg]; rfl
          have HS : Hid (NN = -(Z : Int)) := by rw [HNN.out]; unfold sgn; rw [if_pos hsg]; rfl
          go_wp2_with fail
          go_meet
          exact ⟨by rw [HS.out], rfl⟩
         ·have hand : bits .and .u8 (f.toNat : Int) 64 = 0 := by rw [andu8, hsg]; rfl
          have HS : Hid (NN = (Z : Int)) := by rw [HNN.out]; unfold sgn; rw [if_neg (by omega)]; rfl
          go_wp2_with fail
          go_meet
          exact ⟨by rw [HS.out], rfl⟩
        case rest =>
         obtain ⟨rfl, rfl⟩ := hcut
         have hxi := hx.out (8 + 1) (by omega)
         have HX := jh (fun w => rtext_any NN hNb w)
         have hw1 : IntKind.i64.wrap 9 = 9 := by decide
         have hw0 : IntKind.i64.wrap (8 + 1) = 9 := by decide
         have hL3 : (9 : Int) <= (L : Int) := by omega
         by_cases hin : -1152921504606846976 <= NN /\ NN <= 1152921504606846976
         ·have HI := jh (fun w => rin_yes NN hin w)
          by_cases heq : encN NN = (f :: l0).take (8 + 1)
          ·have HZ := jh (fin_yes hi2 (by rw [← HNN.out]; exact hin) (by rw [← HNN.out]; exact heq))
           rw [← HNN.out] at HZ
           rw [← heq] at hxi
           clear heq hin hx
           generalize bs (encN NN) = st at *
           go_wp2_with fail
           go_region_held3 (fun w' => wc.grownBy w' none) (first | assumption | exact grow_drew (grow_refl _ _)) (first | (go_at_call 42; refine (HI.out _).mono ?_; rintro e w' ⟨rfl, rfl⟩) | (go_at_call 107; refine (HX.out _).mono ?_; rintro e w' ⟨rfl, hg'⟩; have hg'' := Lf.gbt (show wc.grownBy _ none by first | assumption | exact grow_drew (grow_refl _ _)) hg'; clear hg'))
           all_goals
            go_wp2_with fail
            go_ret2
            rw [HZ.out]
            exact ⟨rfl, Lf.gbt hgw.out (by assumption)⟩
          ·have HZ := jh (fin_no hi2 HTT.out (by rw [← HNN.out]; exact fun h => heq h.2))
           have hne : ((bs (encN NN)).toList == (bs ((f :: l0).take (8 + 1))).toList) = false := by
            have e1 : ∀ l : List UInt8, (bs l).toList = l := fun l => by simp [bs]
            rw [e1, e1]; simpa using heq
           clear heq hin hx
           generalize bs (encN NN) = st at *
           generalize bs ((f :: l0).take (8 + 1)) = su at *
           go_wp2_with fail
           go_region_held3 (fun w' => wc.grownBy w' none) (first | assumption | exact grow_drew (grow_refl _ _)) (first | (go_at_call 42; refine (HI.out _).mono ?_; rintro e w' ⟨rfl, rfl⟩) | (go_at_call 107; refine (HX.out _).mono ?_; rintro e w' ⟨rfl, hg'⟩; have hg'' := Lf.gbt (show wc.grownBy _ none by first | assumption | exact grow_drew (grow_refl _ _)) hg'; clear hg'))
           all_goals
            go_wp2_with fail
            go_ret2
            rw [HZ.out]
            exact ⟨rfl, Lf.gbt hgw.out (by assumption)⟩
         ·have HI := jh (fun w => rin_no NN hin hNb w)
          have HZ := jh (fin_no hi2 HTT.out (by rw [← HNN.out]; exact fun h => hin h.1))
          clear hin hx
          go_wp2_with fail
          first
           | go_region_with ((go_at_call 42; refine (HI.out _).mono ?_; rintro e w' ⟨rfl, rfl⟩))
           | fail
          all_goals
           go_wp2_with fail
           go_ret2
           rw [HZ.out]
           exact ⟨rfl, grow_drew hgw.out⟩
       ·have HN := jh (rn_next hRN hi2 (by omega) (by rw [← hc]; omega))
        rw [← hc] at HN
        obtain ⟨K, hK⟩ : ∃ K : Nat, K = 2 ^ (6 + 7 * (8 - 1)) := ⟨_, rfl⟩
        have HK6 := jh hk6
        rw [← hK] at HN HK6 hsz4 hk5 ⊢
        obtain ⟨M, hM⟩ : ∃ M : Nat, M = c % 128 * K := ⟨_, rfl⟩
        have hMb : M <= 2305843009213693952 := by rw [hM]; exact Nat.le_trans (Nat.mul_le_mul hc63n hk5) (by omega)
        rw [← hM] at HN
        have hMi : (c : Int) % 128 * (K : Int) = (M : Int) := by rw [hM]; push_cast; rfl
        have hcI : (128 : Int) <= (c : Int) := by omega
        have hKb : K <= 36028797018963968 := by omega
        clear hM hK hRN hc hbig hnot hk1 hk2 hk3 hk4 hk5 hk6
        go_wp2_with fail
        go_roundw
        case rel => exact ⟨8 + 1, by omega, by go_num, .inr ⟨size + M, HN.out, by go_num, by rw [show 8 + 1 - 1 = 8 from rfl, ← HK6.out]; go_num⟩, by first | trivial | rfl⟩
        case measure => simp [intOf]; omega
      ·have h8b : ((i : Int) == 8) = false := by simp; omega
       have h0b : ((i : Int) == 0) = false := by simp; omega
       have hi7 : i <= 7 := by omega
       have hk7 := hk4 hi7
       by_cases hc128 : c < 128
       ·have HT := rn_fin hRN hi2 (by omega) (by rw [← hc]; exact hc128)
        rw [← hc] at HT
        obtain ⟨K, hK⟩ : ∃ K : Nat, K = 2 ^ (6 + 7 * (i - 1)) := ⟨_, rfl⟩
        rw [← hK] at HT hsz4 hk7 ⊢
        obtain ⟨M, hM⟩ : ∃ M : Nat, M = c % 128 * K := ⟨_, rfl⟩
        have hMb : M <= 35747322042253312 := by rw [hM]; exact Nat.le_trans (Nat.mul_le_mul (show c % 128 <= 127 by omega) hk7) (by omega)
        rw [← hM] at HT
        obtain ⟨Z, hZ⟩ : ∃ Z : Nat, Z = size + M := ⟨_, rfl⟩
        rw [← hZ] at HT
        have hMi : (c : Int) % 128 * (K : Int) = (M : Int) := by rw [hM]; push_cast; rfl
        have hZi : (size : Int) + (M : Int) = (Z : Int) := by omega
        have hZb : Z <= 2305843009213693952 + 36028797018963968 := by omega
        have hcI : (c : Int) < 128 := by omega
        have hKb : K <= 36028797018963968 := by omega
        clear hM hZ hK hRN hc hbig hnot hk1 hk2 hk3 hk4 hk5 hk6
        obtain ⟨NN, hNN⟩ : ∃ NN : Int, NN = sgn f Z := ⟨_, rfl⟩
        have hNb : -4611686018427387904 <= NN /\ NN <= 4611686018427387904 := by rw [hNN]; unfold sgn; split <;> omega
        have HTT := jh HT
        have HNN := jh hNN
        clear HT hNN
        go_upto_if 47 with fail
        go_cut [4] (fun n4 wx => n4 = .int .i64 NN /\ wx = wr)
        case first =>
         rcases (show f.toNat / 64 % 2 = 1 \/ f.toNat / 64 % 2 = 0 from by omega) with hsg | hsg
         ·have hand : bits .and .u8 (f.toNat : Int) 64 = 64 := by rw [andu8, hsg]; rfl
          have HS : Hid (NN = -(Z : Int)) := by rw [HNN.out]; unfold sgn; rw [if_pos hsg]; rfl
          go_wp2_with fail
          go_meet
          exact ⟨by rw [HS.out], rfl⟩
         ·have hand : bits .and .u8 (f.toNat : Int) 64 = 0 := by rw [andu8, hsg]; rfl
          have HS : Hid (NN = (Z : Int)) := by rw [HNN.out]; unfold sgn; rw [if_neg (by omega)]; rfl
          go_wp2_with fail
          go_meet
          exact ⟨by rw [HS.out], rfl⟩
        case rest =>
         obtain ⟨rfl, rfl⟩ := hcut
         have hxi := hx.out (i + 1) (by omega)
         have HX := jh (fun w => rtext_any NN hNb w)
         have hw1 : IntKind.i64.wrap ((i : Int) + 1) = (i : Int) + 1 := by rw [show (i : Int) + 1 = ((i + 1 : Nat) : Int) from rfl]; exact wrap_i64_nat (i + 1) (by omega)
         have htn : ((i : Int) + 1).toNat = i + 1 := by omega
         have hL3 : (i : Int) + 1 <= (L : Int) := by omega
         by_cases hin : -1152921504606846976 <= NN /\ NN <= 1152921504606846976
         ·have HI := jh (fun w => rin_yes NN hin w)
          by_cases heq : encN NN = (f :: l0).take (i + 1)
          ·have HZ := jh (fin_yes hi2 (by rw [← HNN.out]; exact hin) (by rw [← HNN.out]; exact heq))
           rw [← HNN.out] at HZ
           rw [← heq] at hxi
           clear heq hin hx
           generalize bs (encN NN) = st at *
           go_wp2_with fail
           go_region_with (first | (go_at_call 42; refine (HI.out _).mono ?_; rintro e w' ⟨rfl, rfl⟩) | (go_at_call 107; refine (HX.out _).mono ?_; rintro e w' ⟨rfl, hg'⟩; have hg'' := Lf.gbt (show wc.grownBy _ none by first | assumption | exact grow_drew (grow_refl _ _)) hg'; clear hg'))
           all_goals
            go_wp2_with fail
            go_ret2
            rw [HZ.out]
            exact ⟨rfl, Lf.gbt hgw.out (by assumption)⟩
          ·have HZ := jh (fin_no hi2 HTT.out (by rw [← HNN.out]; exact fun h => heq h.2))
           have hne : ((bs (encN NN)).toList == (bs ((f :: l0).take (i + 1))).toList) = false := by
            have e1 : ∀ l : List UInt8, (bs l).toList = l := fun l => by simp [bs]
            rw [e1, e1]; simpa using heq
           clear heq hin hx
           generalize bs (encN NN) = st at *
           generalize bs ((f :: l0).take (i + 1)) = su at *
           go_wp2_with fail
           go_region_with (first | (go_at_call 42; refine (HI.out _).mono ?_; rintro e w' ⟨rfl, rfl⟩) | (go_at_call 107; refine (HX.out _).mono ?_; rintro e w' ⟨rfl, hg'⟩; have hg'' := Lf.gbt (show wc.grownBy _ none by first | assumption | exact grow_drew (grow_refl _ _)) hg'; clear hg'))
           all_goals
            go_wp2_with fail
            go_ret2
            rw [HZ.out]
            exact ⟨rfl, Lf.gbt hgw.out (by assumption)⟩
         ·have HI := jh (fun w => rin_no NN hin hNb w)
          have HZ := jh (fin_no hi2 HTT.out (by rw [← HNN.out]; exact fun h => hin h.1))
          clear hin hx
          go_wp2_with fail
          first
           | go_region_with ((go_at_call 42; refine (HI.out _).mono ?_; rintro e w' ⟨rfl, rfl⟩))
           | fail
          all_goals
           go_wp2_with fail
           go_ret2
           rw [HZ.out]
           exact ⟨rfl, grow_drew hgw.out⟩
       ·have HN := jh (rn_next hRN hi2 (by omega) (by rw [← hc]; omega))
        rw [← hc] at HN
        obtain ⟨K, hK⟩ : ∃ K : Nat, K = 2 ^ (6 + 7 * (i - 1)) := ⟨_, rfl⟩
        have HK6 := jh hk6
        rw [← hK] at HN HK6 hsz4 hk7 ⊢
        obtain ⟨M, hM⟩ : ∃ M : Nat, M = c % 128 * K := ⟨_, rfl⟩
        have hMb : M <= 35747322042253312 := by rw [hM]; exact Nat.le_trans (Nat.mul_le_mul (show c % 128 <= 127 by omega) hk7) (by omega)
        rw [← hM] at HN
        have hMi : (c : Int) % 128 * (K : Int) = (M : Int) := by rw [hM]; push_cast; rfl
        have hcI : (128 : Int) <= (c : Int) := by omega
        have hKb : K <= 36028797018963968 := by omega
        clear hM hK hRN hc hbig hnot hk1 hk2 hk3 hk4 hk5 hk6
        go_wp2_with fail
        go_roundw
        case rel => exact ⟨i + 1, by omega, by go_num, .inr ⟨size + M, HN.out, by go_num, by rw [show i + 1 - 1 = i from rfl, ← HK6.out]; go_num⟩, by first | trivial | rfl⟩
        case measure => simp [intOf]; omega
  ·rcases hcase with ⟨rfl, _, _⟩ | ⟨size, hRN, rfl, rfl⟩
   ·omega
   ·have HZ := jh (rn_end hRN (by rw [← HLN.out]; omega))
    clear hRN
    generalize (2 : Nat) ^ (6 + 7 * (i - 1)) = K at *
    go_wp2_with fail
    go_ret2
    rw [HZ.out]
    exact ⟨rfl, hgw.out⟩
theorem rnum_nil (w : World) : Calls Tryz.prog 101 #[.string (bs [])] w fun e w' => e = .returned (.tuple #[.int .i64 (rnumF []).1, .int .i64 (rnumF []).2]) /\ w.grownBy w' none := by
 have hconv := run_bytes_of_string (P := Tryz.prog) w 9 100 5 (bs []) Tryz.underlying9 Tryz.underlying100 Tryz.underlying5
 have hsz := bs_size []
 rw [hsz] at hconv
 have hgw : Hid (w.grownBy (w.drew.alloc (.cells (bytesRow (bs []) (grownCap w ([] : List UInt8).length 0 5)) 5 ((bytesRow (bs []) (grownCap w ([] : List UInt8).length 0 5)).size, (bytesRow (bs []) (grownCap w ([] : List UInt8).length 0 5)).size + 1))) none) := grow_trans (grow_drew (grow_refl w none)) (Lf.gb _)
 have h00 : rnumF [] = (0, 0) := rfl
 rw [h00]
 generalize w.drew.alloc (.cells (bytesRow (bs []) (grownCap w ([] : List UInt8).length 0 5)) 5 ((bytesRow (bs []) (grownCap w ([] : List UInt8).length 0 5)).size, (bytesRow (bs []) (grownCap w ([] : List UInt8).length 0 5)).size + 1)) = wb at *
 generalize grownCap w ([] : List UInt8).length 0 5 = cap at *
 simp only [List.length_nil] at hconv
 generalize bs [] = s at *
 clear hsz h00
 go_enter Tryz.func101, Tryz.ntmps101
 go_wp2_with fail
 refine wp_loop_rounds 1 ?_; rw [rounds_succ]
 go_wp2_with fail
 go_ret2
 exact ⟨rfl, hgw.out⟩
theorem rnum_any (l : List UInt8) (hl : l.length <= maxLen) (w : World) : Calls Tryz.prog 101 #[.string (bs l)] w fun e w' => e = .returned (.tuple #[.int .i64 (rnumF l).1, .int .i64 (rnumF l).2]) /\ w.grownBy w' none := by
 cases l with
 | nil => exact rnum_nil w
 | cons f l0 => exact rnum_cons f l0 hl w
theorem no_any (e : Int) (w : World) : Calls Tryz.prog 100 #[.int .i64 e] w fun r w' => r = .returned (.tuple #[.agg #[.int .i64 0, .int .i64 0, .int .i64 0, .string ⟨#[]⟩, .slice none 0 0], .string ⟨#[]⟩, .int .i64 0, .int .i64 e]) /\ w.grownBy w' none := by
 go_enter Tryz.func100, Tryz.ntmps100
 go_wp2_with fail
 exact bodyPost_ret (v := .tuple #[.agg #[.int .i64 0, .int .i64 0, .int .i64 0, .string ⟨#[]⟩, .slice none 0 0], .string ⟨#[]⟩, .int .i64 0, .int .i64 e]) (by simp [results, Tryz.results100, go_sem]) rfl ⟨rfl, Lf.gb _⟩
def RRPost (w : World) (d n : Nat) (l : List UInt8) (r : Ending) (w' : World) : Prop := w.grownBy w' none /\ match pNode d n l with
 | .ok (t, n', l') => ∃ v, r = .returned (.tuple #[v, .string (bs l'), .int .i64 ((n' : Int) - n), .int .i64 0]) /\ Lies (w.heap.size <= ·) w' t v
 | .error e => e ≠ 0 /\ r = .returned (.tuple #[nodeV 0 0 0 ⟨#[]⟩ none 0 0, .string ⟨#[]⟩, .int .i64 0, .int .i64 e])
theorem rr_no {w w' : World} {d n : Nat} {l : List UInt8} {e : Int} (hp : pNode d n l = .error e) (he : e ≠ 0) (hg : w.grownBy w' none) : RRPost w d n l (.returned (.tuple #[nodeV 0 0 0 ⟨#[]⟩ none 0 0, .string ⟨#[]⟩, .int .i64 0, .int .i64 e])) w' := by
 refine ⟨hg, ?_⟩
 rw [hp]
 exact ⟨he, rfl⟩
theorem rr_long (dI LI : Int) (d n : Nat) (l : List UInt8) (hl : l.length <= maxLen) (w : World) (h : dI = 0 \/ (¬ dI = 0 /\ LI = 0)) (hp : pNode d n l = .error 4) :
 Calls Tryz.prog 68 #[.string (bs l), .int .i64 dI, .int .i64 LI] w (RRPost w d n l) := by
 have HP := jh (fun w' hg => rr_no (w := w) (w' := w') hp (by decide) hg)
 have HR := jh (heap_alloc_new w (.cells #[.int .i64 0, .int .i64 0, .int .i64 0, .string ⟨#[]⟩, .slice none 0 0] 30))
 clear hp hl
 generalize bs l = s at *
 have e50 : ∀ args w, (callFunc 100 args).run Tryz.prog w = .ok (.enter 100 args) w := fun args w => by simp [go_sem]
 rcases h with rfl | ⟨h, rfl⟩
 all_goals
  go_enter Tryz.func68, Tryz.ntmps68
  go_wp2_with fail
  refine (no_any _ _).mono ?_; rintro e w1 ⟨rfl, hg⟩
  have hr1 := (hg.block _ (lt_of_block HR.out) (by simp)).trans HR.out
  obtain ⟨r0, r1, r2, r3, r4⟩ := box5 hr1
  obtain ⟨f0, f1, f2, f3, f4⟩ := box5f hr1
  have HR1 := jh hr1
  have HG1 := jh (Lf.gbt (Lf.gb _) hg)
  clear hg hr1
  go_wp2_with fail
  change bodyPost _ _ _ _ _ (set5 w1 w.heap.size (.int .i64 0) (.int .i64 0) (.int .i64 0) (.string ⟨#[]⟩) (.slice none 0 0))
  have hb' := set5_block HR1.out (.int .i64 0) (.int .i64 0) (.int .i64 0) (.string ⟨#[]⟩) (.slice none 0 0)
  have hg' := grow_new HG1.out (set5_grow w1 w.heap.size (.int .i64 0) (.int .i64 0) (.int .i64 0) (.string ⟨#[]⟩) (.slice none 0 0)) (Nat.le_refl _)
  generalize set5 w1 w.heap.size (.int .i64 0) (.int .i64 0) (.int .i64 0) (.string ⟨#[]⟩) (.slice none 0 0) = wf at *
  obtain ⟨z0, z1, z2, z3, z4⟩ := box5 hb'
  exact bodyPost_ret (v := .tuple #[nodeV 0 0 0 ⟨#[]⟩ none 0 0, .string ⟨#[]⟩, .int .i64 0, .int .i64 4]) (by simp [results, Tryz.results68, go_sem, z0, z1, z2, z3, z4, nodeV]) rfl (HP.out _ hg')
theorem e50 : ∀ args w, (callFunc 100 args).run Tryz.prog w = .ok (.enter 100 args) w := fun args w => by simp [go_sem]
theorem bs_ne (b : UInt8) (l : List UInt8) : (bs (b :: l)).toList.isEmpty = false := by simp [bs]
theorem rr_empty (dI LI : Int) (d n : Nat) (w : World) (hd : ¬ dI = 0) (hL : ¬ LI = 0) (hp : pNode d n [] = .error 1) :
 Calls Tryz.prog 68 #[.string (bs []), .int .i64 dI, .int .i64 LI] w (RRPost w d n []) := by
 have HP := jh (fun w' hg => rr_no (w := w) (w' := w') hp (by decide) hg)
 have HR := jh (heap_alloc_new w (.cells #[.int .i64 0, .int .i64 0, .int .i64 0, .string ⟨#[]⟩, .slice none 0 0] 30))
 have HG := jh (Lf.gb (w := w) (.cells #[.int .i64 0, .int .i64 0, .int .i64 0, .string ⟨#[]⟩, .slice none 0 0] 30))
 clear hp
 have hd' : (dI == 0) = false := by simpa using hd
 have hL' : (LI == 0) = false := by simpa using hL
 have hs : (bs []).toList.isEmpty = true := by simp [bs]
 have e50' := e50
 generalize bs [] = s at *
 go_enter Tryz.func68, Tryz.ntmps68
 go_wp2_with fail
 refine (no_any _ _).mono ?_; rintro e w1 ⟨rfl, hg⟩
 have hr1 := (hg.block _ (lt_of_block HR.out) (by simp)).trans HR.out
 obtain ⟨r0, r1, r2, r3, r4⟩ := box5 hr1
 obtain ⟨f0, f1, f2, f3, f4⟩ := box5f hr1
 have HR1 := jh hr1
 have HG1 := jh (Lf.gbt HG.out hg)
 clear hg hr1
 go_wp2_with fail
 change bodyPost _ _ _ _ _ (set5 w1 w.heap.size (.int .i64 0) (.int .i64 0) (.int .i64 0) (.string ⟨#[]⟩) (.slice none 0 0))
 have hb' := set5_block HR1.out (.int .i64 0) (.int .i64 0) (.int .i64 0) (.string ⟨#[]⟩) (.slice none 0 0)
 have hg' := grow_new HG1.out (set5_grow w1 w.heap.size (.int .i64 0) (.int .i64 0) (.int .i64 0) (.string ⟨#[]⟩) (.slice none 0 0)) (Nat.le_refl _)
 generalize set5 w1 w.heap.size (.int .i64 0) (.int .i64 0) (.int .i64 0) (.string ⟨#[]⟩) (.slice none 0 0) = wf at *
 obtain ⟨z0, z1, z2, z3, z4⟩ := box5 hb'
 exact bodyPost_ret (v := .tuple #[nodeV 0 0 0 ⟨#[]⟩ none 0 0, .string ⟨#[]⟩, .int .i64 0, .int .i64 1]) (by simp [results, Tryz.results68, go_sem, z0, z1, z2, z3, z4, nodeV]) rfl (HP.out _ hg')
theorem rr_kind (dI LI : Int) (d n : Nat) (b : UInt8) (l1 : List UInt8) (hl : (b :: l1).length <= maxLen) (w : World) (hd : ¬ dI = 0) (hL : ¬ LI = 0) (hb : 3 < b.toNat) (hp : pNode d n (b :: l1) = .error 1) :
 Calls Tryz.prog 68 #[.string (bs (b :: l1)), .int .i64 dI, .int .i64 LI] w (RRPost w d n (b :: l1)) := by
 have HP := jh (fun w' hg => rr_no (w := w) (w' := w') hp (by decide) hg)
 have HR := jh (heap_alloc_new w (.cells #[.int .i64 0, .int .i64 0, .int .i64 0, .string ⟨#[]⟩, .slice none 0 0] 30))
 have HG := jh (Lf.gb (w := w) (.cells #[.int .i64 0, .int .i64 0, .int .i64 0, .string ⟨#[]⟩, .slice none 0 0] 30))
 clear hp
 have hd' : (dI == 0) = false := by simpa using hd
 have hL' : (LI == 0) = false := by simpa using hL
 have hs := bs_ne b l1
 have h0 : ∀ h, (bs (b :: l1))[0]'h = b := fun _ => rfl
 have hsz := bs_size (b :: l1)
 have hbI : (3 : Int) < (b.toNat : Int) := by omega
 have e50' := e50
 unfold maxLen at hl
 obtain ⟨L, hLN⟩ : ∃ L, L = (b :: l1).length := ⟨_, rfl⟩
 have hLpos : 0 < L := by rw [hLN]; simp
 rw [← hLN] at hsz hl
 clear hLN
 generalize bs (b :: l1) = s at *
 go_enter Tryz.func68, Tryz.ntmps68
 go_wp2_with fail
 refine (no_any _ _).mono ?_; rintro e w1 ⟨rfl, hg⟩
 have hr1 := (hg.block _ (lt_of_block HR.out) (by simp)).trans HR.out
 obtain ⟨r0, r1, r2, r3, r4⟩ := box5 hr1
 obtain ⟨f0, f1, f2, f3, f4⟩ := box5f hr1
 have HR1 := jh hr1
 have HG1 := jh (Lf.gbt HG.out hg)
 clear hg hr1
 go_wp2_with fail
 change bodyPost _ _ _ _ _ (set5 w1 w.heap.size (.int .i64 0) (.int .i64 0) (.int .i64 0) (.string ⟨#[]⟩) (.slice none 0 0))
 have hb' := set5_block HR1.out (.int .i64 0) (.int .i64 0) (.int .i64 0) (.string ⟨#[]⟩) (.slice none 0 0)
 have hg' := grow_new HG1.out (set5_grow w1 w.heap.size (.int .i64 0) (.int .i64 0) (.int .i64 0) (.string ⟨#[]⟩) (.slice none 0 0)) (Nat.le_refl _)
 generalize set5 w1 w.heap.size (.int .i64 0) (.int .i64 0) (.int .i64 0) (.string ⟨#[]⟩) (.slice none 0 0) = wf at *
 obtain ⟨z0, z1, z2, z3, z4⟩ := box5 hb'
 exact bodyPost_ret (v := .tuple #[nodeV 0 0 0 ⟨#[]⟩ none 0 0, .string ⟨#[]⟩, .int .i64 0, .int .i64 1]) (by simp [results, Tryz.results68, go_sem, z0, z1, z2, z3, z4, nodeV]) rfl (HP.out _ hg')
theorem num_yes {l l' : List UInt8} {m : Int} (h : pNum l = some (m, l')) : ∃ sz : Nat, rnumF l = (m, sz) /\ 0 < sz /\ sz <= l.length /\ l.drop sz = l' := by
 obtain ⟨_, h2⟩ := pNum_sound h
 refine ⟨(encN m).length, ?_, (encT_len (m.natAbs / 64) _).1, by rw [h2]; simp, by rw [h2]; simp⟩
 unfold rnumF
 rw [h]
 simp only [Prod.mk.injEq, true_and]
 rw [h2]; simp
theorem rr_yes {w w' : World} {d n n' : Nat} {l l' : List UInt8} {t : Tr} {v : Value} (hp : pNode d n l = .ok (t, n', l')) (hg : w.grownBy w' none) (hL : Lies (w.heap.size <= ·) w' t v) : RRPost w d n l (.returned (.tuple #[v, .string (bs l'), .int .i64 ((n' : Int) - n), .int .i64 0])) w' := by
 refine ⟨hg, ?_⟩
 rw [hp]
 exact ⟨v, rfl, hL⟩
theorem num_no {l : List UInt8} (h : pNum l = none) : rnumF l = (0, 0) := by unfold rnumF; rw [h]
theorem rr_noprim1 (dI LI : Int) (d n : Nat) (b : UInt8) (l1 : List UInt8) (hl : (b :: l1).length <= maxLen) (w : World) (hd : ¬ dI = 0) (hL : ¬ LI = 0) (q : UInt8) (l2 : List UInt8) (hb : b.toNat = 2) (hl0 : l1 = q :: l2) (hq : Lf.isPrimB q.toNat = false) (hp : pNode d n (b :: l1) = .error 1) :
 Calls Tryz.prog 68 #[.string (bs (b :: l1)), .int .i64 dI, .int .i64 LI] w (RRPost w d n (b :: l1)) := by
 have HP := jh (fun w' hg => rr_no (w := w) (w' := w') hp (by decide) hg)
 clear hp
 have HR := jh (heap_keep (o := .cells #[.int .i64 2, .int .i64 0, .int .i64 0, .string ⟨#[]⟩, .slice none 0 0] 30) (heap_alloc_new w (.cells #[.int .i64 0, .int .i64 0, .int .i64 0, .string ⟨#[]⟩, .slice none 0 0] 30)))
 have HN0 := jh (heap_alloc_new (w.alloc (.cells #[.int .i64 0, .int .i64 0, .int .i64 0, .string ⟨#[]⟩, .slice none 0 0] 30)) (.cells #[.int .i64 2, .int .i64 0, .int .i64 0, .string ⟨#[]⟩, .slice none 0 0] 30))
 have HG := jh (Lf.gbt (Lf.gb (w := w) (.cells #[.int .i64 0, .int .i64 0, .int .i64 0, .string ⟨#[]⟩, .slice none 0 0] 30)) (Lf.gb (.cells #[.int .i64 2, .int .i64 0, .int .i64 0, .string ⟨#[]⟩, .slice none 0 0] 30)))
 have hd' : (dI == 0) = false := by simpa using hd
 have hL' : (LI == 0) = false := by simpa using hL
 have hs := bs_ne b l1
 have h0 : ∀ h, (bs (b :: l1))[0]'h = b := fun _ => rfl
 have hsz := bs_size (b :: l1)
 have hx1 : (bs (b :: l1)).extract 1 (b :: l1).length = bs l1 := bs_drop (b :: l1) 1
 have e50' := e50
 have hl1 : l1.length <= maxLen := by simp at hl; omega
 unfold maxLen at hl hl1
 obtain ⟨L, hLN⟩ : ∃ L, L = (b :: l1).length := ⟨_, rfl⟩
 have hLpos : 0 < L := by rw [hLN]; simp
 have hL1 : l1.length + 1 = L := by rw [hLN]; simp
 rw [← hLN] at hsz hl hx1
 clear hLN
 generalize bs (b :: l1) = s at *
 have hbI : (b.toNat : Int) = 2 := by omega
 have hs1 : (bs l1).toList.isEmpty = false := by rw [hl0]; simp [bs]
 have hq0 : ∀ h, (bs l1)[0]'h = q := by subst hl0; exact fun _ => rfl
 have hsz1 := bs_size l1
 have hl1p : 0 < l1.length := by rw [hl0]; simp
 have hq255 : (q.toNat : Int) <= 255 := by have := q.toNat_lt; omega
 have hpr := rprim_any q.toNat
 rw [hq] at hpr
 have HPR := jh hpr
 clear hpr hl0 hq
 generalize bs l1 = s1 at *
 generalize l1.length = L1 at *
 go_enter Tryz.func68, Tryz.ntmps68
 go_wp2_with fail
 refine (HPR.out _).mono ?_; rintro e y0 ⟨rfl, rfl⟩
 go_wp2_with fail
 refine (no_any _ _).mono ?_; rintro e y1 ⟨rfl, hg⟩
 have hr1 := (hg.block _ (lt_of_block HR.out) (by simp)).trans HR.out
 obtain ⟨r0, r1, r2, r3, r4⟩ := box5 hr1
 obtain ⟨f0, f1, f2, f3, f4⟩ := box5f hr1
 have HR1 := jh hr1
 have HG1 := jh (Lf.gbt HG.out hg)
 clear hg hr1
 go_wp2_with fail
 change bodyPost _ _ _ _ _ (set5 y1 w.heap.size (.int .i64 0) (.int .i64 0) (.int .i64 0) (.string ⟨#[]⟩) (.slice none 0 0))
 have hb' := set5_block HR1.out (.int .i64 0) (.int .i64 0) (.int .i64 0) (.string ⟨#[]⟩) (.slice none 0 0)
 have hg' := grow_new HG1.out (set5_grow y1 w.heap.size (.int .i64 0) (.int .i64 0) (.int .i64 0) (.string ⟨#[]⟩) (.slice none 0 0)) (Nat.le_refl _)
 generalize set5 y1 w.heap.size (.int .i64 0) (.int .i64 0) (.int .i64 0) (.string ⟨#[]⟩) (.slice none 0 0) = wf at *
 obtain ⟨z0, z1, z2, z3, z4⟩ := box5 hb'
 exact bodyPost_ret (v := .tuple #[nodeV 0 0 0 ⟨#[]⟩ none 0 0, .string ⟨#[]⟩, .int .i64 0, .int .i64 1]) (by simp [results, Tryz.results68, go_sem, z0, z1, z2, z3, z4, nodeV]) rfl (HP.out _ hg')
theorem rr_xnonum (dI LI : Int) (d n : Nat) (b : UInt8) (l1 : List UInt8) (hl : (b :: l1).length <= maxLen) (w : World) (hd : ¬ dI = 0) (hL : ¬ LI = 0) (hb3 : b.toNat <= 3) (hb2 : ¬ b.toNat = 2) (hn : pNum l1 = none) (hp : pNode d n (b :: l1) = .error 1) :
 Calls Tryz.prog 68 #[.string (bs (b :: l1)), .int .i64 dI, .int .i64 LI] w (RRPost w d n (b :: l1)) := by
 have HP := jh (fun w' hg => rr_no (w := w) (w' := w') hp (by decide) hg)
 clear hp
 have hrn := num_no hn
 have HR := jh (heap_keep (o := .cells #[.int .i64 (b.toNat : Int), .int .i64 0, .int .i64 0, .string ⟨#[]⟩, .slice none 0 0] 30) (heap_alloc_new w (.cells #[.int .i64 0, .int .i64 0, .int .i64 0, .string ⟨#[]⟩, .slice none 0 0] 30)))
 have HN0 := jh (heap_alloc_new (w.alloc (.cells #[.int .i64 0, .int .i64 0, .int .i64 0, .string ⟨#[]⟩, .slice none 0 0] 30)) (.cells #[.int .i64 (b.toNat : Int), .int .i64 0, .int .i64 0, .string ⟨#[]⟩, .slice none 0 0] 30))
 have HG := jh (Lf.gbt (Lf.gb (w := w) (.cells #[.int .i64 0, .int .i64 0, .int .i64 0, .string ⟨#[]⟩, .slice none 0 0] 30)) (Lf.gb (.cells #[.int .i64 (b.toNat : Int), .int .i64 0, .int .i64 0, .string ⟨#[]⟩, .slice none 0 0] 30)))
 have hd' : (dI == 0) = false := by simpa using hd
 have hL' : (LI == 0) = false := by simpa using hL
 have hs := bs_ne b l1
 have h0 : ∀ h, (bs (b :: l1))[0]'h = b := fun _ => rfl
 have hsz := bs_size (b :: l1)
 have hx1 : (bs (b :: l1)).extract 1 (b :: l1).length = bs l1 := bs_drop (b :: l1) 1
 have e50' := e50
 have hl1 : l1.length <= maxLen := by simp at hl; omega
 unfold maxLen at hl hl1
 obtain ⟨L, hLN⟩ : ∃ L, L = (b :: l1).length := ⟨_, rfl⟩
 have hLpos : 0 < L := by rw [hLN]; simp
 have hL1 : l1.length + 1 = L := by rw [hLN]; simp
 rw [← hLN] at hsz hl hx1
 clear hLN
 generalize bs (b :: l1) = s at *
 rw [World.size_alloc] at HN0
 have HNM : Hid (∀ W, Calls Tryz.prog 101 #[.string (bs l1)] W fun e w' => e = .returned (.tuple #[.int .i64 0, .int .i64 0]) /\ W.grownBy w' none) := by
  intro W
  have h := rnum_any l1 (by unfold maxLen; omega) W
  rw [hrn] at h
  exact h
 have hbI : (b.toNat : Int) <= 3 := by omega
 have hbJ : ¬ (b.toNat : Int) = 2 := by omega
 have hbK : ((b.toNat : Int) == 2) = false := by simpa using hbJ
 clear hrn hn
 generalize bs l1 = s1 at *
 go_enter Tryz.func68, Tryz.ntmps68
 go_wp2_with fail
 refine (HNM.out _).mono ?_; rintro e y2 ⟨rfl, hg2⟩
 have HR2 := jh ((hg2.block _ (lt_of_block HR.out) (by simp)).trans HR.out)
 have HN2 := jh ((hg2.block _ (lt_of_block HN0.out) (by simp)).trans HN0.out)
 have HG2 := jh (Lf.gbt HG.out hg2)
 obtain ⟨n0, n1, n2, n3, n4⟩ := box5 HN2.out
 obtain ⟨nf0, nf1, nf2, nf3, nf4⟩ := box5f HN2.out
 have hz2 := lt_of_block HN2.out
 clear hg2
 go_wp2_with fail
 refine (no_any _ _).mono ?_; rintro e y1 ⟨rfl, hg⟩
 have hr1 := (hg.block _ (lt_of_block HR2.out) (by simp)).trans HR2.out
 obtain ⟨r0, r1, r2, r3, r4⟩ := box5 hr1
 obtain ⟨f0, f1, f2, f3, f4⟩ := box5f hr1
 have HR1 := jh hr1
 have HG1 := jh (Lf.gbt HG2.out hg)
 clear hg hr1
 go_wp2_with fail
 change bodyPost _ _ _ _ _ (set5 y1 w.heap.size (.int .i64 0) (.int .i64 0) (.int .i64 0) (.string ⟨#[]⟩) (.slice none 0 0))
 have hb' := set5_block HR1.out (.int .i64 0) (.int .i64 0) (.int .i64 0) (.string ⟨#[]⟩) (.slice none 0 0)
 have hg' := grow_new HG1.out (set5_grow y1 w.heap.size (.int .i64 0) (.int .i64 0) (.int .i64 0) (.string ⟨#[]⟩) (.slice none 0 0)) (Nat.le_refl _)
 generalize set5 y1 w.heap.size (.int .i64 0) (.int .i64 0) (.int .i64 0) (.string ⟨#[]⟩) (.slice none 0 0) = wf at *
 obtain ⟨z0, z1, z2, z3, z4⟩ := box5 hb'
 exact bodyPost_ret (v := .tuple #[nodeV 0 0 0 ⟨#[]⟩ none 0 0, .string ⟨#[]⟩, .int .i64 0, .int .i64 1]) (by simp [results, Tryz.results68, go_sem, z0, z1, z2, z3, z4, nodeV]) rfl (HP.out _ hg')
theorem rr_pnonum (dI LI : Int) (d n : Nat) (b : UInt8) (l1 : List UInt8) (hl : (b :: l1).length <= maxLen) (w : World) (hd : ¬ dI = 0) (hL : ¬ LI = 0) (q : UInt8) (l2 : List UInt8) (hb : b.toNat = 2) (hl0 : l1 = q :: l2) (hq : Lf.isPrimB q.toNat = true) (hn : pNum l2 = none) (hp : pNode d n (b :: l1) = .error 1) :
 Calls Tryz.prog 68 #[.string (bs (b :: l1)), .int .i64 dI, .int .i64 LI] w (RRPost w d n (b :: l1)) := by
 have HP := jh (fun w' hg => rr_no (w := w) (w' := w') hp (by decide) hg)
 clear hp
 have hrn := num_no hn
 have HR := jh (heap_keep (o := .cells #[.int .i64 2, .int .i64 0, .int .i64 (q.toNat : Int), .string ⟨#[]⟩, .slice none 0 0] 30) (heap_alloc_new w (.cells #[.int .i64 0, .int .i64 0, .int .i64 0, .string ⟨#[]⟩, .slice none 0 0] 30)))
 have HN0 := jh (heap_alloc_new (w.alloc (.cells #[.int .i64 0, .int .i64 0, .int .i64 0, .string ⟨#[]⟩, .slice none 0 0] 30)) (.cells #[.int .i64 2, .int .i64 0, .int .i64 (q.toNat : Int), .string ⟨#[]⟩, .slice none 0 0] 30))
 have HG := jh (Lf.gbt (Lf.gb (w := w) (.cells #[.int .i64 0, .int .i64 0, .int .i64 0, .string ⟨#[]⟩, .slice none 0 0] 30)) (Lf.gb (.cells #[.int .i64 2, .int .i64 0, .int .i64 (q.toNat : Int), .string ⟨#[]⟩, .slice none 0 0] 30)))
 have hd' : (dI == 0) = false := by simpa using hd
 have hL' : (LI == 0) = false := by simpa using hL
 have hs := bs_ne b l1
 have h0 : ∀ h, (bs (b :: l1))[0]'h = b := fun _ => rfl
 have hsz := bs_size (b :: l1)
 have hx1 : (bs (b :: l1)).extract 1 (b :: l1).length = bs l1 := bs_drop (b :: l1) 1
 have e50' := e50
 have hl1 : l1.length <= maxLen := by simp at hl; omega
 unfold maxLen at hl hl1
 obtain ⟨L, hLN⟩ : ∃ L, L = (b :: l1).length := ⟨_, rfl⟩
 have hLpos : 0 < L := by rw [hLN]; simp
 have hL1 : l1.length + 1 = L := by rw [hLN]; simp
 rw [← hLN] at hsz hl hx1
 clear hLN
 generalize bs (b :: l1) = s at *
 rw [World.size_alloc] at HN0
 have hbI : (b.toNat : Int) = 2 := by omega
 have hs1 : (bs l1).toList.isEmpty = false := by rw [hl0]; simp [bs]
 have hq0 : ∀ h, (bs l1)[0]'h = q := by subst hl0; exact fun _ => rfl
 have hsz1 := bs_size l1
 have hl1p : 0 < l1.length := by rw [hl0]; simp
 have hq255 : (q.toNat : Int) <= 255 := by have := q.toNat_lt; omega
 have hx2 : (bs l1).extract 1 l1.length = bs l2 := by subst hl0; exact bs_drop (q :: l2) 1
 have hl2 : l2.length + 1 = l1.length := by rw [hl0]; simp
 have hpr := rprim_any q.toNat
 rw [hq] at hpr
 have HPR := jh hpr
 clear hpr hl0 hq
 have HNM : Hid (∀ W, Calls Tryz.prog 101 #[.string (bs l2)] W fun e w' => e = .returned (.tuple #[.int .i64 0, .int .i64 0]) /\ W.grownBy w' none) := by
  intro W
  have h := rnum_any l2 (by unfold maxLen; omega) W
  rw [hrn] at h
  exact h
 clear hrn hn
 generalize bs l2 = s2 at *
 generalize bs l1 = s1 at *
 generalize l1.length = L1 at *
 go_enter Tryz.func68, Tryz.ntmps68
 go_wp2_with fail
 refine (HPR.out _).mono ?_; rintro e y0 ⟨rfl, rfl⟩
 go_wp2_with fail
 refine (HNM.out _).mono ?_; rintro e y2 ⟨rfl, hg2⟩
 have HR2 := jh ((hg2.block _ (lt_of_block HR.out) (by simp)).trans HR.out)
 have HN2 := jh ((hg2.block _ (lt_of_block HN0.out) (by simp)).trans HN0.out)
 have HG2 := jh (Lf.gbt HG.out hg2)
 obtain ⟨n0, n1, n2, n3, n4⟩ := box5 HN2.out
 obtain ⟨nf0, nf1, nf2, nf3, nf4⟩ := box5f HN2.out
 have hz2 := lt_of_block HN2.out
 clear hg2
 go_wp2_with fail
 refine (no_any _ _).mono ?_; rintro e y1 ⟨rfl, hg⟩
 have hr1 := (hg.block _ (lt_of_block HR2.out) (by simp)).trans HR2.out
 obtain ⟨r0, r1, r2, r3, r4⟩ := box5 hr1
 obtain ⟨f0, f1, f2, f3, f4⟩ := box5f hr1
 have HR1 := jh hr1
 have HG1 := jh (Lf.gbt HG2.out hg)
 clear hg hr1
 go_wp2_with fail
 change bodyPost _ _ _ _ _ (set5 y1 w.heap.size (.int .i64 0) (.int .i64 0) (.int .i64 0) (.string ⟨#[]⟩) (.slice none 0 0))
 have hb' := set5_block HR1.out (.int .i64 0) (.int .i64 0) (.int .i64 0) (.string ⟨#[]⟩) (.slice none 0 0)
 have hg' := grow_new HG1.out (set5_grow y1 w.heap.size (.int .i64 0) (.int .i64 0) (.int .i64 0) (.string ⟨#[]⟩) (.slice none 0 0)) (Nat.le_refl _)
 generalize set5 y1 w.heap.size (.int .i64 0) (.int .i64 0) (.int .i64 0) (.string ⟨#[]⟩) (.slice none 0 0) = wf at *
 obtain ⟨z0, z1, z2, z3, z4⟩ := box5 hb'
 exact bodyPost_ret (v := .tuple #[nodeV 0 0 0 ⟨#[]⟩ none 0 0, .string ⟨#[]⟩, .int .i64 0, .int .i64 1]) (by simp [results, Tryz.results68, go_sem, z0, z1, z2, z3, z4, nodeV]) rfl (HP.out _ hg')
theorem rr_xneg (dI LI : Int) (d n : Nat) (b : UInt8) (l1 : List UInt8) (hl : (b :: l1).length <= maxLen) (w : World) (hd : ¬ dI = 0) (hL : ¬ LI = 0) (hb3 : b.toNat <= 3) (hb2 : ¬ b.toNat = 2) (hb0 : ¬ b.toNat = 0) (m : Int) (l3 : List UInt8) (hn : pNum l1 = some (m, l3)) (hm : m < 0) (hp : pNode d n (b :: l1) = .error 1) :
 Calls Tryz.prog 68 #[.string (bs (b :: l1)), .int .i64 dI, .int .i64 LI] w (RRPost w d n (b :: l1)) := by
 have HP := jh (fun w' hg => rr_no (w := w) (w' := w') hp (by decide) hg)
 clear hp
 obtain ⟨sz, hrn, hsz0, hszl, hdr⟩ := num_yes hn
 have hx3 : (bs l1).extract sz l1.length = bs l3 := by rw [bs_drop, hdr]
 have hl3 : l3.length + sz = l1.length := by rw [← hdr, List.length_drop]; omega
 have hmb := (pNum_sound hn).1
 have hszs := bs_size l1
 have HR := jh (heap_keep (o := .cells #[.int .i64 (b.toNat : Int), .int .i64 0, .int .i64 0, .string ⟨#[]⟩, .slice none 0 0] 30) (heap_alloc_new w (.cells #[.int .i64 0, .int .i64 0, .int .i64 0, .string ⟨#[]⟩, .slice none 0 0] 30)))
 have HN0 := jh (heap_alloc_new (w.alloc (.cells #[.int .i64 0, .int .i64 0, .int .i64 0, .string ⟨#[]⟩, .slice none 0 0] 30)) (.cells #[.int .i64 (b.toNat : Int), .int .i64 0, .int .i64 0, .string ⟨#[]⟩, .slice none 0 0] 30))
 have HG := jh (Lf.gbt (Lf.gb (w := w) (.cells #[.int .i64 0, .int .i64 0, .int .i64 0, .string ⟨#[]⟩, .slice none 0 0] 30)) (Lf.gb (.cells #[.int .i64 (b.toNat : Int), .int .i64 0, .int .i64 0, .string ⟨#[]⟩, .slice none 0 0] 30)))
 have hd' : (dI == 0) = false := by simpa using hd
 have hL' : (LI == 0) = false := by simpa using hL
 have hs := bs_ne b l1
 have h0 : ∀ h, (bs (b :: l1))[0]'h = b := fun _ => rfl
 have hsz := bs_size (b :: l1)
 have hx1 : (bs (b :: l1)).extract 1 (b :: l1).length = bs l1 := bs_drop (b :: l1) 1
 have e50' := e50
 have hl1 : l1.length <= maxLen := by simp at hl; omega
 unfold maxLen at hl hl1
 obtain ⟨L, hLN⟩ : ∃ L, L = (b :: l1).length := ⟨_, rfl⟩
 have hLpos : 0 < L := by rw [hLN]; simp
 have hL1 : l1.length + 1 = L := by rw [hLN]; simp
 rw [← hLN] at hsz hl hx1
 clear hLN
 generalize bs (b :: l1) = s at *
 rw [World.size_alloc] at HN0
 have HNM : Hid (∀ W, Calls Tryz.prog 101 #[.string (bs l1)] W fun e w' => e = .returned (.tuple #[.int .i64 m, .int .i64 (sz : Int)]) /\ W.grownBy w' none) := by
  intro W
  have h := rnum_any l1 (by unfold maxLen; omega) W
  rw [hrn] at h
  exact h
 have hbI : (b.toNat : Int) <= 3 := by omega
 have hbJ : ¬ (b.toNat : Int) = 2 := by omega
 have hbK : ((b.toNat : Int) == 2) = false := by simpa using hbJ
 have hbZ : ((b.toNat : Int) == 0) = false := by simp; omega
 have hbZ2 : ¬ (b.toNat : Int) = 0 := by omega
 have hszI : ((sz : Int) == 0) = false := by simp; omega
 have hszJ : ¬ (sz : Int) = 0 := by omega
 have hszL : (sz : Int) <= (l1.length : Int) := by omega
 clear hrn hn hdr
 generalize bs l3 = s3 at *
 generalize bs l1 = s1 at *
 generalize l1.length = L1 at *
 go_enter Tryz.func68, Tryz.ntmps68
 go_wp2_with fail
 refine (HNM.out _).mono ?_; rintro e y2 ⟨rfl, hg2⟩
 have HR2 := jh ((hg2.block _ (lt_of_block HR.out) (by simp)).trans HR.out)
 have HN2 := jh ((hg2.block _ (lt_of_block HN0.out) (by simp)).trans HN0.out)
 have HG2 := jh (Lf.gbt HG.out hg2)
 obtain ⟨n0, n1, n2, n3, n4⟩ := box5 HN2.out
 obtain ⟨nf0, nf1, nf2, nf3, nf4⟩ := box5f HN2.out
 have hz2 := lt_of_block HN2.out
 clear hg2
 go_wp2_with fail
 refine (no_any _ _).mono ?_; rintro e y1 ⟨rfl, hg⟩
 have hr1 := (hg.block _ (lt_of_block HR2.out) (by simp)).trans HR2.out
 obtain ⟨r0, r1, r2, r3, r4⟩ := box5 hr1
 obtain ⟨f0, f1, f2, f3, f4⟩ := box5f hr1
 have HR1 := jh hr1
 have HG1 := jh (Lf.gbt HG2.out hg)
 clear hg hr1
 go_wp2_with fail
 change bodyPost _ _ _ _ _ (set5 y1 w.heap.size (.int .i64 0) (.int .i64 0) (.int .i64 0) (.string ⟨#[]⟩) (.slice none 0 0))
 have hb' := set5_block HR1.out (.int .i64 0) (.int .i64 0) (.int .i64 0) (.string ⟨#[]⟩) (.slice none 0 0)
 have hg' := grow_new HG1.out (set5_grow y1 w.heap.size (.int .i64 0) (.int .i64 0) (.int .i64 0) (.string ⟨#[]⟩) (.slice none 0 0)) (Nat.le_refl _)
 generalize set5 y1 w.heap.size (.int .i64 0) (.int .i64 0) (.int .i64 0) (.string ⟨#[]⟩) (.slice none 0 0) = wf at *
 obtain ⟨z0, z1, z2, z3, z4⟩ := box5 hb'
 exact bodyPost_ret (v := .tuple #[nodeV 0 0 0 ⟨#[]⟩ none 0 0, .string ⟨#[]⟩, .int .i64 0, .int .i64 1]) (by simp [results, Tryz.results68, go_sem, z0, z1, z2, z3, z4, nodeV]) rfl (HP.out _ hg')
theorem rr_noprim0 (dI LI : Int) (d n : Nat) (b : UInt8) (l1 : List UInt8) (hl : (b :: l1).length <= maxLen) (w : World) (hd : ¬ dI = 0) (hL : ¬ LI = 0) (hb : b.toNat = 2) (hl0 : l1 = []) (hp : pNode d n (b :: l1) = .error 1) :
 Calls Tryz.prog 68 #[.string (bs (b :: l1)), .int .i64 dI, .int .i64 LI] w (RRPost w d n (b :: l1)) := by
 have HP := jh (fun w' hg => rr_no (w := w) (w' := w') hp (by decide) hg)
 clear hp
 have HR := jh (heap_keep (o := .cells #[.int .i64 2, .int .i64 0, .int .i64 0, .string ⟨#[]⟩, .slice none 0 0] 30) (heap_alloc_new w (.cells #[.int .i64 0, .int .i64 0, .int .i64 0, .string ⟨#[]⟩, .slice none 0 0] 30)))
 have HN0 := jh (heap_alloc_new (w.alloc (.cells #[.int .i64 0, .int .i64 0, .int .i64 0, .string ⟨#[]⟩, .slice none 0 0] 30)) (.cells #[.int .i64 2, .int .i64 0, .int .i64 0, .string ⟨#[]⟩, .slice none 0 0] 30))
 have HG := jh (Lf.gbt (Lf.gb (w := w) (.cells #[.int .i64 0, .int .i64 0, .int .i64 0, .string ⟨#[]⟩, .slice none 0 0] 30)) (Lf.gb (.cells #[.int .i64 2, .int .i64 0, .int .i64 0, .string ⟨#[]⟩, .slice none 0 0] 30)))
 have hd' : (dI == 0) = false := by simpa using hd
 have hL' : (LI == 0) = false := by simpa using hL
 have hs := bs_ne b l1
 have h0 : ∀ h, (bs (b :: l1))[0]'h = b := fun _ => rfl
 have hsz := bs_size (b :: l1)
 have hx1 : (bs (b :: l1)).extract 1 (b :: l1).length = bs l1 := bs_drop (b :: l1) 1
 have e50' := e50
 have hl1 : l1.length <= maxLen := by simp at hl; omega
 unfold maxLen at hl hl1
 obtain ⟨L, hLN⟩ : ∃ L, L = (b :: l1).length := ⟨_, rfl⟩
 have hLpos : 0 < L := by rw [hLN]; simp
 have hL1 : l1.length + 1 = L := by rw [hLN]; simp
 rw [← hLN] at hsz hl hx1
 clear hLN
 generalize bs (b :: l1) = s at *
 have hbI : (b.toNat : Int) = 2 := by omega
 have hs1 : (bs l1).toList.isEmpty = true := by rw [hl0]; simp [bs]
 generalize bs l1 = s1 at *
 go_enter Tryz.func68, Tryz.ntmps68
 go_wp2_with fail
 refine (no_any _ _).mono ?_; rintro e y1 ⟨rfl, hg⟩
 have hr1 := (hg.block _ (lt_of_block HR.out) (by simp)).trans HR.out
 obtain ⟨r0, r1, r2, r3, r4⟩ := box5 hr1
 obtain ⟨f0, f1, f2, f3, f4⟩ := box5f hr1
 have HR1 := jh hr1
 have HG1 := jh (Lf.gbt HG.out hg)
 clear hg hr1
 go_wp2_with fail
 change bodyPost _ _ _ _ _ (set5 y1 w.heap.size (.int .i64 0) (.int .i64 0) (.int .i64 0) (.string ⟨#[]⟩) (.slice none 0 0))
 have hb' := set5_block HR1.out (.int .i64 0) (.int .i64 0) (.int .i64 0) (.string ⟨#[]⟩) (.slice none 0 0)
 have hg' := grow_new HG1.out (set5_grow y1 w.heap.size (.int .i64 0) (.int .i64 0) (.int .i64 0) (.string ⟨#[]⟩) (.slice none 0 0)) (Nat.le_refl _)
 generalize set5 y1 w.heap.size (.int .i64 0) (.int .i64 0) (.int .i64 0) (.string ⟨#[]⟩) (.slice none 0 0) = wf at *
 obtain ⟨z0, z1, z2, z3, z4⟩ := box5 hb'
 exact bodyPost_ret (v := .tuple #[nodeV 0 0 0 ⟨#[]⟩ none 0 0, .string ⟨#[]⟩, .int .i64 0, .int .i64 1]) (by simp [results, Tryz.results68, go_sem, z0, z1, z2, z3, z4, nodeV]) rfl (HP.out _ hg')
theorem rr_pneg (dI LI : Int) (d n : Nat) (b : UInt8) (l1 : List UInt8) (hl : (b :: l1).length <= maxLen) (w : World) (hd : ¬ dI = 0) (hL : ¬ LI = 0) (q : UInt8) (l2 : List UInt8) (hb : b.toNat = 2) (hl0 : l1 = q :: l2) (hq : Lf.isPrimB q.toNat = true) (m : Int) (l3 : List UInt8) (hn : pNum l2 = some (m, l3)) (hm : m < 0) (hp : pNode d n (b :: l1) = .error 1) :
 Calls Tryz.prog 68 #[.string (bs (b :: l1)), .int .i64 dI, .int .i64 LI] w (RRPost w d n (b :: l1)) := by
 have HP := jh (fun w' hg => rr_no (w := w) (w' := w') hp (by decide) hg)
 clear hp
 obtain ⟨sz, hrn, hsz0, hszl, hdr⟩ := num_yes hn
 have hx3 : (bs l2).extract sz l2.length = bs l3 := by rw [bs_drop, hdr]
 have hl3 : l3.length + sz = l2.length := by rw [← hdr, List.length_drop]; omega
 have hmb := (pNum_sound hn).1
 have hszs2 := bs_size l2
 have HR := jh (heap_keep (o := .cells #[.int .i64 2, .int .i64 0, .int .i64 (q.toNat : Int), .string ⟨#[]⟩, .slice none 0 0] 30) (heap_alloc_new w (.cells #[.int .i64 0, .int .i64 0, .int .i64 0, .string ⟨#[]⟩, .slice none 0 0] 30)))
 have HN0 := jh (heap_alloc_new (w.alloc (.cells #[.int .i64 0, .int .i64 0, .int .i64 0, .string ⟨#[]⟩, .slice none 0 0] 30)) (.cells #[.int .i64 2, .int .i64 0, .int .i64 (q.toNat : Int), .string ⟨#[]⟩, .slice none 0 0] 30))
 have HG := jh (Lf.gbt (Lf.gb (w := w) (.cells #[.int .i64 0, .int .i64 0, .int .i64 0, .string ⟨#[]⟩, .slice none 0 0] 30)) (Lf.gb (.cells #[.int .i64 2, .int .i64 0, .int .i64 (q.toNat : Int), .string ⟨#[]⟩, .slice none 0 0] 30)))
 have hd' : (dI == 0) = false := by simpa using hd
 have hL' : (LI == 0) = false := by simpa using hL
 have hs := bs_ne b l1
 have h0 : ∀ h, (bs (b :: l1))[0]'h = b := fun _ => rfl
 have hsz := bs_size (b :: l1)
 have hx1 : (bs (b :: l1)).extract 1 (b :: l1).length = bs l1 := bs_drop (b :: l1) 1
 have e50' := e50
 have hl1 : l1.length <= maxLen := by simp at hl; omega
 unfold maxLen at hl hl1
 obtain ⟨L, hLN⟩ : ∃ L, L = (b :: l1).length := ⟨_, rfl⟩
 have hLpos : 0 < L := by rw [hLN]; simp
 have hL1 : l1.length + 1 = L := by rw [hLN]; simp
 rw [← hLN] at hsz hl hx1
 clear hLN
 generalize bs (b :: l1) = s at *
 rw [World.size_alloc] at HN0
 have hbI : (b.toNat : Int) = 2 := by omega
 have hs1 : (bs l1).toList.isEmpty = false := by rw [hl0]; simp [bs]
 have hq0 : ∀ h, (bs l1)[0]'h = q := by subst hl0; exact fun _ => rfl
 have hsz1 := bs_size l1
 have hl1p : 0 < l1.length := by rw [hl0]; simp
 have hq255 : (q.toNat : Int) <= 255 := by have := q.toNat_lt; omega
 have hx2 : (bs l1).extract 1 l1.length = bs l2 := by subst hl0; exact bs_drop (q :: l2) 1
 have hl2 : l2.length + 1 = l1.length := by rw [hl0]; simp
 have hpr := rprim_any q.toNat
 rw [hq] at hpr
 have HPR := jh hpr
 clear hpr hl0 hq
 have HNM : Hid (∀ W, Calls Tryz.prog 101 #[.string (bs l2)] W fun e w' => e = .returned (.tuple #[.int .i64 m, .int .i64 (sz : Int)]) /\ W.grownBy w' none) := by
  intro W
  have h := rnum_any l2 (by unfold maxLen; omega) W
  rw [hrn] at h
  exact h
 have hszI : ((sz : Int) == 0) = false := by simp; omega
 have hszJ : ¬ (sz : Int) = 0 := by omega
 have hszL : (sz : Int) <= (l2.length : Int) := by omega
 clear hrn hn hdr
 generalize bs l3 = s3 at *
 generalize bs l2 = s2 at *
 generalize bs l1 = s1 at *
 generalize l1.length = L1 at *
 generalize l2.length = L2 at *
 go_enter Tryz.func68, Tryz.ntmps68
 go_wp2_with fail
 refine (HPR.out _).mono ?_; rintro e y0 ⟨rfl, rfl⟩
 go_wp2_with fail
 refine (HNM.out _).mono ?_; rintro e y2 ⟨rfl, hg2⟩
 have HR2 := jh ((hg2.block _ (lt_of_block HR.out) (by simp)).trans HR.out)
 have HN2 := jh ((hg2.block _ (lt_of_block HN0.out) (by simp)).trans HN0.out)
 have HG2 := jh (Lf.gbt HG.out hg2)
 obtain ⟨n0, n1, n2, n3, n4⟩ := box5 HN2.out
 obtain ⟨nf0, nf1, nf2, nf3, nf4⟩ := box5f HN2.out
 have hz2 := lt_of_block HN2.out
 clear hg2
 go_wp2_with fail
 refine (no_any _ _).mono ?_; rintro e y1 ⟨rfl, hg⟩
 have hr1 := (hg.block _ (lt_of_block HR2.out) (by simp)).trans HR2.out
 obtain ⟨r0, r1, r2, r3, r4⟩ := box5 hr1
 obtain ⟨f0, f1, f2, f3, f4⟩ := box5f hr1
 have HR1 := jh hr1
 have HG1 := jh (Lf.gbt HG2.out hg)
 clear hg hr1
 go_wp2_with fail
 change bodyPost _ _ _ _ _ (set5 y1 w.heap.size (.int .i64 0) (.int .i64 0) (.int .i64 0) (.string ⟨#[]⟩) (.slice none 0 0))
 have hb' := set5_block HR1.out (.int .i64 0) (.int .i64 0) (.int .i64 0) (.string ⟨#[]⟩) (.slice none 0 0)
 have hg' := grow_new HG1.out (set5_grow y1 w.heap.size (.int .i64 0) (.int .i64 0) (.int .i64 0) (.string ⟨#[]⟩) (.slice none 0 0)) (Nat.le_refl _)
 generalize set5 y1 w.heap.size (.int .i64 0) (.int .i64 0) (.int .i64 0) (.string ⟨#[]⟩) (.slice none 0 0) = wf at *
 obtain ⟨z0, z1, z2, z3, z4⟩ := box5 hb'
 exact bodyPost_ret (v := .tuple #[nodeV 0 0 0 ⟨#[]⟩ none 0 0, .string ⟨#[]⟩, .int .i64 0, .int .i64 1]) (by simp [results, Tryz.results68, go_sem, z0, z1, z2, z3, z4, nodeV]) rfl (HP.out _ hg')
theorem rr_int (dI LI : Int) (d n : Nat) (b : UInt8) (l1 : List UInt8) (hl : (b :: l1).length <= maxLen) (w : World) (hd : ¬ dI = 0) (hL : ¬ LI = 0) (hb : b.toNat = 0) (m : Int) (l3 : List UInt8) (hn : pNum l1 = some (m, l3)) (hp : pNode d n (b :: l1) = .ok (.nd 0 m 0 (bs []) [], n + 1, l3)) :
 Calls Tryz.prog 68 #[.string (bs (b :: l1)), .int .i64 dI, .int .i64 LI] w (RRPost w d n (b :: l1)) := by
 have HP := jh (fun w' v hg hL => rr_yes (w := w) (w' := w') (v := v) hp hg hL)
 clear hp
 obtain ⟨sz, hrn, hsz0, hszl, hdr⟩ := num_yes hn
 have hx3 : (bs l1).extract sz l1.length = bs l3 := by rw [bs_drop, hdr]
 have hl3 : l3.length + sz = l1.length := by rw [← hdr, List.length_drop]; omega
 have hmb := (pNum_sound hn).1
 have hszs := bs_size l1
 have HR := jh (heap_keep (o := .cells #[.int .i64 0, .int .i64 0, .int .i64 0, .string ⟨#[]⟩, .slice none 0 0] 30) (heap_alloc_new w (.cells #[.int .i64 0, .int .i64 0, .int .i64 0, .string ⟨#[]⟩, .slice none 0 0] 30)))
 have HN0 := jh (heap_alloc_new (w.alloc (.cells #[.int .i64 0, .int .i64 0, .int .i64 0, .string ⟨#[]⟩, .slice none 0 0] 30)) (.cells #[.int .i64 0, .int .i64 0, .int .i64 0, .string ⟨#[]⟩, .slice none 0 0] 30))
 have HG := jh (Lf.gbt (Lf.gb (w := w) (.cells #[.int .i64 0, .int .i64 0, .int .i64 0, .string ⟨#[]⟩, .slice none 0 0] 30)) (Lf.gb (.cells #[.int .i64 0, .int .i64 0, .int .i64 0, .string ⟨#[]⟩, .slice none 0 0] 30)))
 have hd' : (dI == 0) = false := by simpa using hd
 have hL' : (LI == 0) = false := by simpa using hL
 have hs := bs_ne b l1
 have h0 : ∀ h, (bs (b :: l1))[0]'h = b := fun _ => rfl
 have hsz := bs_size (b :: l1)
 have hx1 : (bs (b :: l1)).extract 1 (b :: l1).length = bs l1 := bs_drop (b :: l1) 1
 have e50' := e50
 have hl1 : l1.length <= maxLen := by simp at hl; omega
 unfold maxLen at hl hl1
 obtain ⟨L, hLN⟩ : ∃ L, L = (b :: l1).length := ⟨_, rfl⟩
 have hLpos : 0 < L := by rw [hLN]; simp
 have hL1 : l1.length + 1 = L := by rw [hLN]; simp
 rw [← hLN] at hsz hl hx1
 clear hLN
 generalize bs (b :: l1) = s at *
 rw [World.size_alloc] at HN0
 have HNM : Hid (∀ W, Calls Tryz.prog 101 #[.string (bs l1)] W fun e w' => e = .returned (.tuple #[.int .i64 m, .int .i64 (sz : Int)]) /\ W.grownBy w' none) := by
  intro W
  have h := rnum_any l1 (by unfold maxLen; omega) W
  rw [hrn] at h
  exact h
 have hbI : (b.toNat : Int) = 0 := by omega
 have hszI : ((sz : Int) == 0) = false := by simp; omega
 have hszJ : ¬ (sz : Int) = 0 := by omega
 have hszL : (sz : Int) <= (l1.length : Int) := by omega
 rw [show (((n + 1 : Nat) : Int) - n) = 1 from by omega] at HP
 have HMB := jh hmb
 clear hmb
 generalize bs l3 = s3 at *
 clear hrn hn hdr
 generalize bs l1 = s1 at *
 generalize l1.length = L1 at *
 go_enter Tryz.func68, Tryz.ntmps68
 go_wp2_with fail
 refine (HNM.out _).mono ?_; rintro e y2 ⟨rfl, hg2⟩
 have HR2 := jh ((hg2.block _ (lt_of_block HR.out) (by simp)).trans HR.out)
 have HN2 := jh ((hg2.block _ (lt_of_block HN0.out) (by simp)).trans HN0.out)
 have HG2 := jh (Lf.gbt HG.out hg2)
 obtain ⟨n0, n1, n2, n3, n4⟩ := box5 HN2.out
 obtain ⟨nf0, nf1, nf2, nf3, nf4⟩ := box5f HN2.out
 have hz2 := lt_of_block HN2.out
 obtain ⟨r0, r1, r2, r3, r4⟩ := box5 HR2.out
 obtain ⟨f0, f1, f2, f3, f4⟩ := box5f HR2.out
 clear hg2
 go_wp2_with fail
 change bodyPost _ _ _ _ _ (set5 (y2.setCell ⟨w.heap.size + 1, 1, none⟩ (.int .i64 m)) w.heap.size (.int .i64 0) (.int .i64 m) (.int .i64 0) (.string ⟨#[]⟩) (.slice none 0 0))
 have hy : y2.grownBy (y2.setCell ⟨w.heap.size + 1, 1, none⟩ (.int .i64 m)) (some (w.heap.size + 1)) := grow_set (grow_refl _ _) _ _ _
 have hr3 := (hy.block _ (lt_of_block HR2.out) (by simp)).trans HR2.out
 have hb' := set5_block hr3 (.int .i64 0) (.int .i64 m) (.int .i64 0) (.string ⟨#[]⟩) (.slice none 0 0)
 have hg' := grow_new (grow_new HG2.out hy (by omega)) (set5_grow (y2.setCell ⟨w.heap.size + 1, 1, none⟩ (.int .i64 m)) w.heap.size (.int .i64 0) (.int .i64 m) (.int .i64 0) (.string ⟨#[]⟩) (.slice none 0 0)) (Nat.le_refl _)
 generalize set5 (y2.setCell ⟨w.heap.size + 1, 1, none⟩ (.int .i64 m)) w.heap.size (.int .i64 0) (.int .i64 m) (.int .i64 0) (.string ⟨#[]⟩) (.slice none 0 0) = wf at *
 obtain ⟨z0, z1, z2, z3, z4⟩ := box5 hb'
 exact bodyPost_ret (v := .tuple #[nodeV 0 m 0 ⟨#[]⟩ none 0 0, .string s3, .int .i64 1, .int .i64 0]) (by simp [results, Tryz.results68, go_sem, z0, z1, z2, z3, z4, nodeV]) rfl (HP.out _ _ hg' (lies_leaf (Nat.zero_le _) ⟨by omega, by omega⟩ ⟨by have := HMB.out; omega, by have := HMB.out; omega⟩ ⟨by omega, by omega⟩))
theorem rr_tlong (dI LI : Int) (d n : Nat) (b : UInt8) (l1 : List UInt8) (hl : (b :: l1).length <= maxLen) (w : World) (hd : ¬ dI = 0) (hL : ¬ LI = 0) (hb : b.toNat = 1) (m : Int) (l3 : List UInt8) (hn : pNum l1 = some (m, l3)) (hm : 200 < m) (hp : pNode d n (b :: l1) = .error 1) :
 Calls Tryz.prog 68 #[.string (bs (b :: l1)), .int .i64 dI, .int .i64 LI] w (RRPost w d n (b :: l1)) := by
 have HP := jh (fun w' hg => rr_no (w := w) (w' := w') hp (by decide) hg)
 clear hp
 obtain ⟨sz, hrn, hsz0, hszl, hdr⟩ := num_yes hn
 have hx3 : (bs l1).extract sz l1.length = bs l3 := by rw [bs_drop, hdr]
 have hl3 : l3.length + sz = l1.length := by rw [← hdr, List.length_drop]; omega
 have hmb := (pNum_sound hn).1
 have hszs := bs_size l1
 have HR := jh (heap_keep (o := .cells #[.int .i64 1, .int .i64 0, .int .i64 0, .string ⟨#[]⟩, .slice none 0 0] 30) (heap_alloc_new w (.cells #[.int .i64 0, .int .i64 0, .int .i64 0, .string ⟨#[]⟩, .slice none 0 0] 30)))
 have HN0 := jh (heap_alloc_new (w.alloc (.cells #[.int .i64 0, .int .i64 0, .int .i64 0, .string ⟨#[]⟩, .slice none 0 0] 30)) (.cells #[.int .i64 1, .int .i64 0, .int .i64 0, .string ⟨#[]⟩, .slice none 0 0] 30))
 have HG := jh (Lf.gbt (Lf.gb (w := w) (.cells #[.int .i64 0, .int .i64 0, .int .i64 0, .string ⟨#[]⟩, .slice none 0 0] 30)) (Lf.gb (.cells #[.int .i64 1, .int .i64 0, .int .i64 0, .string ⟨#[]⟩, .slice none 0 0] 30)))
 have hd' : (dI == 0) = false := by simpa using hd
 have hL' : (LI == 0) = false := by simpa using hL
 have hs := bs_ne b l1
 have h0 : ∀ h, (bs (b :: l1))[0]'h = b := fun _ => rfl
 have hsz := bs_size (b :: l1)
 have hx1 : (bs (b :: l1)).extract 1 (b :: l1).length = bs l1 := bs_drop (b :: l1) 1
 have e50' := e50
 have hl1 : l1.length <= maxLen := by simp at hl; omega
 unfold maxLen at hl hl1
 obtain ⟨L, hLN⟩ : ∃ L, L = (b :: l1).length := ⟨_, rfl⟩
 have hLpos : 0 < L := by rw [hLN]; simp
 have hL1 : l1.length + 1 = L := by rw [hLN]; simp
 rw [← hLN] at hsz hl hx1
 clear hLN
 generalize bs (b :: l1) = s at *
 rw [World.size_alloc] at HN0
 have HNM : Hid (∀ W, Calls Tryz.prog 101 #[.string (bs l1)] W fun e w' => e = .returned (.tuple #[.int .i64 m, .int .i64 (sz : Int)]) /\ W.grownBy w' none) := by
  intro W
  have h := rnum_any l1 (by unfold maxLen; omega) W
  rw [hrn] at h
  exact h
 have hbI : (b.toNat : Int) = 1 := by omega
 have hszI : ((sz : Int) == 0) = false := by simp; omega
 have hszJ : ¬ (sz : Int) = 0 := by omega
 have hszL : (sz : Int) <= (l1.length : Int) := by omega
 clear hrn hn hdr
 have hsz3 := bs_size l3
 generalize bs l3 = s3 at *
 generalize l3.length = L3 at *
 generalize bs l1 = s1 at *
 generalize l1.length = L1 at *
 go_enter Tryz.func68, Tryz.ntmps68
 go_wp2_with fail
 refine (HNM.out _).mono ?_; rintro e y2 ⟨rfl, hg2⟩
 have HR2 := jh ((hg2.block _ (lt_of_block HR.out) (by simp)).trans HR.out)
 have HN2 := jh ((hg2.block _ (lt_of_block HN0.out) (by simp)).trans HN0.out)
 have HG2 := jh (Lf.gbt HG.out hg2)
 obtain ⟨n0, n1, n2, n3, n4⟩ := box5 HN2.out
 obtain ⟨nf0, nf1, nf2, nf3, nf4⟩ := box5f HN2.out
 have hz2 := lt_of_block HN2.out
 clear hg2
 go_wp2_with fail
 refine (no_any _ _).mono ?_; rintro e y1 ⟨rfl, hg⟩
 have hr1 := (hg.block _ (lt_of_block HR2.out) (by simp)).trans HR2.out
 obtain ⟨r0, r1, r2, r3, r4⟩ := box5 hr1
 obtain ⟨f0, f1, f2, f3, f4⟩ := box5f hr1
 have HR1 := jh hr1
 have HG1 := jh (Lf.gbt HG2.out hg)
 clear hg hr1
 go_wp2_with fail
 change bodyPost _ _ _ _ _ (set5 y1 w.heap.size (.int .i64 0) (.int .i64 0) (.int .i64 0) (.string ⟨#[]⟩) (.slice none 0 0))
 have hb' := set5_block HR1.out (.int .i64 0) (.int .i64 0) (.int .i64 0) (.string ⟨#[]⟩) (.slice none 0 0)
 have hg' := grow_new HG1.out (set5_grow y1 w.heap.size (.int .i64 0) (.int .i64 0) (.int .i64 0) (.string ⟨#[]⟩) (.slice none 0 0)) (Nat.le_refl _)
 generalize set5 y1 w.heap.size (.int .i64 0) (.int .i64 0) (.int .i64 0) (.string ⟨#[]⟩) (.slice none 0 0) = wf at *
 obtain ⟨z0, z1, z2, z3, z4⟩ := box5 hb'
 exact bodyPost_ret (v := .tuple #[nodeV 0 0 0 ⟨#[]⟩ none 0 0, .string ⟨#[]⟩, .int .i64 0, .int .i64 1]) (by simp [results, Tryz.results68, go_sem, z0, z1, z2, z3, z4, nodeV]) rfl (HP.out _ hg')
theorem rr_tshort (dI LI : Int) (d n : Nat) (b : UInt8) (l1 : List UInt8) (hl : (b :: l1).length <= maxLen) (w : World) (hd : ¬ dI = 0) (hL : ¬ LI = 0) (hb : b.toNat = 1) (m : Int) (l3 : List UInt8) (hn : pNum l1 = some (m, l3)) (hm0 : 0 <= m) (hm2 : m <= 200) (hm : (l3.length : Int) < m) (hp : pNode d n (b :: l1) = .error 1) :
 Calls Tryz.prog 68 #[.string (bs (b :: l1)), .int .i64 dI, .int .i64 LI] w (RRPost w d n (b :: l1)) := by
 have HP := jh (fun w' hg => rr_no (w := w) (w' := w') hp (by decide) hg)
 clear hp
 obtain ⟨sz, hrn, hsz0, hszl, hdr⟩ := num_yes hn
 have hx3 : (bs l1).extract sz l1.length = bs l3 := by rw [bs_drop, hdr]
 have hl3 : l3.length + sz = l1.length := by rw [← hdr, List.length_drop]; omega
 have hmb := (pNum_sound hn).1
 have hszs := bs_size l1
 have HR := jh (heap_keep (o := .cells #[.int .i64 1, .int .i64 0, .int .i64 0, .string ⟨#[]⟩, .slice none 0 0] 30) (heap_alloc_new w (.cells #[.int .i64 0, .int .i64 0, .int .i64 0, .string ⟨#[]⟩, .slice none 0 0] 30)))
 have HN0 := jh (heap_alloc_new (w.alloc (.cells #[.int .i64 0, .int .i64 0, .int .i64 0, .string ⟨#[]⟩, .slice none 0 0] 30)) (.cells #[.int .i64 1, .int .i64 0, .int .i64 0, .string ⟨#[]⟩, .slice none 0 0] 30))
 have HG := jh (Lf.gbt (Lf.gb (w := w) (.cells #[.int .i64 0, .int .i64 0, .int .i64 0, .string ⟨#[]⟩, .slice none 0 0] 30)) (Lf.gb (.cells #[.int .i64 1, .int .i64 0, .int .i64 0, .string ⟨#[]⟩, .slice none 0 0] 30)))
 have hd' : (dI == 0) = false := by simpa using hd
 have hL' : (LI == 0) = false := by simpa using hL
 have hs := bs_ne b l1
 have h0 : ∀ h, (bs (b :: l1))[0]'h = b := fun _ => rfl
 have hsz := bs_size (b :: l1)
 have hx1 : (bs (b :: l1)).extract 1 (b :: l1).length = bs l1 := bs_drop (b :: l1) 1
 have e50' := e50
 have hl1 : l1.length <= maxLen := by simp at hl; omega
 unfold maxLen at hl hl1
 obtain ⟨L, hLN⟩ : ∃ L, L = (b :: l1).length := ⟨_, rfl⟩
 have hLpos : 0 < L := by rw [hLN]; simp
 have hL1 : l1.length + 1 = L := by rw [hLN]; simp
 rw [← hLN] at hsz hl hx1
 clear hLN
 generalize bs (b :: l1) = s at *
 rw [World.size_alloc] at HN0
 have HNM : Hid (∀ W, Calls Tryz.prog 101 #[.string (bs l1)] W fun e w' => e = .returned (.tuple #[.int .i64 m, .int .i64 (sz : Int)]) /\ W.grownBy w' none) := by
  intro W
  have h := rnum_any l1 (by unfold maxLen; omega) W
  rw [hrn] at h
  exact h
 have hbI : (b.toNat : Int) = 1 := by omega
 have hszI : ((sz : Int) == 0) = false := by simp; omega
 have hszJ : ¬ (sz : Int) = 0 := by omega
 have hszL : (sz : Int) <= (l1.length : Int) := by omega
 clear hrn hn hdr
 have hsz3 := bs_size l3
 generalize bs l3 = s3 at *
 generalize l3.length = L3 at *
 generalize bs l1 = s1 at *
 generalize l1.length = L1 at *
 go_enter Tryz.func68, Tryz.ntmps68
 go_wp2_with fail
 refine (HNM.out _).mono ?_; rintro e y2 ⟨rfl, hg2⟩
 have HR2 := jh ((hg2.block _ (lt_of_block HR.out) (by simp)).trans HR.out)
 have HN2 := jh ((hg2.block _ (lt_of_block HN0.out) (by simp)).trans HN0.out)
 have HG2 := jh (Lf.gbt HG.out hg2)
 obtain ⟨n0, n1, n2, n3, n4⟩ := box5 HN2.out
 obtain ⟨nf0, nf1, nf2, nf3, nf4⟩ := box5f HN2.out
 have hz2 := lt_of_block HN2.out
 clear hg2
 go_wp2_with fail
 refine (no_any _ _).mono ?_; rintro e y1 ⟨rfl, hg⟩
 have hr1 := (hg.block _ (lt_of_block HR2.out) (by simp)).trans HR2.out
 obtain ⟨r0, r1, r2, r3, r4⟩ := box5 hr1
 obtain ⟨f0, f1, f2, f3, f4⟩ := box5f hr1
 have HR1 := jh hr1
 have HG1 := jh (Lf.gbt HG2.out hg)
 clear hg hr1
 go_wp2_with fail
 change bodyPost _ _ _ _ _ (set5 y1 w.heap.size (.int .i64 0) (.int .i64 0) (.int .i64 0) (.string ⟨#[]⟩) (.slice none 0 0))
 have hb' := set5_block HR1.out (.int .i64 0) (.int .i64 0) (.int .i64 0) (.string ⟨#[]⟩) (.slice none 0 0)
 have hg' := grow_new HG1.out (set5_grow y1 w.heap.size (.int .i64 0) (.int .i64 0) (.int .i64 0) (.string ⟨#[]⟩) (.slice none 0 0)) (Nat.le_refl _)
 generalize set5 y1 w.heap.size (.int .i64 0) (.int .i64 0) (.int .i64 0) (.string ⟨#[]⟩) (.slice none 0 0) = wf at *
 obtain ⟨z0, z1, z2, z3, z4⟩ := box5 hb'
 exact bodyPost_ret (v := .tuple #[nodeV 0 0 0 ⟨#[]⟩ none 0 0, .string ⟨#[]⟩, .int .i64 0, .int .i64 1]) (by simp [results, Tryz.results68, go_sem, z0, z1, z2, z3, z4, nodeV]) rfl (HP.out _ hg')
theorem rr_text (dI LI : Int) (d n : Nat) (b : UInt8) (l1 : List UInt8) (hl : (b :: l1).length <= maxLen) (w : World) (hd : ¬ dI = 0) (hL : ¬ LI = 0) (hb : b.toNat = 1) (M : Nat) (l3 : List UInt8) (hn : pNum l1 = some ((M : Int), l3)) (hM : M <= 200) (hM3 : M <= l3.length) (hp : pNode d n (b :: l1) = .ok (.nd 1 0 0 (bs (l3.take M)) [], n + 1, l3.drop M)) :
 Calls Tryz.prog 68 #[.string (bs (b :: l1)), .int .i64 dI, .int .i64 LI] w (RRPost w d n (b :: l1)) := by
 have HP := jh (fun w' v hg hL => rr_yes (w := w) (w' := w') (v := v) hp hg hL)
 clear hp
 obtain ⟨sz, hrn, hsz0, hszl, hdr⟩ := num_yes hn
 have hx3 : (bs l1).extract sz l1.length = bs l3 := by rw [bs_drop, hdr]
 have hl3 : l3.length + sz = l1.length := by rw [← hdr, List.length_drop]; omega
 have hmb := (pNum_sound hn).1
 have hszs := bs_size l1
 have HR := jh (heap_keep (o := .cells #[.int .i64 1, .int .i64 0, .int .i64 0, .string ⟨#[]⟩, .slice none 0 0] 30) (heap_alloc_new w (.cells #[.int .i64 0, .int .i64 0, .int .i64 0, .string ⟨#[]⟩, .slice none 0 0] 30)))
 have HN0 := jh (heap_alloc_new (w.alloc (.cells #[.int .i64 0, .int .i64 0, .int .i64 0, .string ⟨#[]⟩, .slice none 0 0] 30)) (.cells #[.int .i64 1, .int .i64 0, .int .i64 0, .string ⟨#[]⟩, .slice none 0 0] 30))
 have HG := jh (Lf.gbt (Lf.gb (w := w) (.cells #[.int .i64 0, .int .i64 0, .int .i64 0, .string ⟨#[]⟩, .slice none 0 0] 30)) (Lf.gb (.cells #[.int .i64 1, .int .i64 0, .int .i64 0, .string ⟨#[]⟩, .slice none 0 0] 30)))
 have hd' : (dI == 0) = false := by simpa using hd
 have hL' : (LI == 0) = false := by simpa using hL
 have hs := bs_ne b l1
 have h0 : ∀ h, (bs (b :: l1))[0]'h = b := fun _ => rfl
 have hsz := bs_size (b :: l1)
 have hx1 : (bs (b :: l1)).extract 1 (b :: l1).length = bs l1 := bs_drop (b :: l1) 1
 have e50' := e50
 have hl1 : l1.length <= maxLen := by simp at hl; omega
 unfold maxLen at hl hl1
 obtain ⟨L, hLN⟩ : ∃ L, L = (b :: l1).length := ⟨_, rfl⟩
 have hLpos : 0 < L := by rw [hLN]; simp
 have hL1 : l1.length + 1 = L := by rw [hLN]; simp
 rw [← hLN] at hsz hl hx1
 clear hLN
 generalize bs (b :: l1) = s at *
 rw [World.size_alloc] at HN0
 have HNM : Hid (∀ W, Calls Tryz.prog 101 #[.string (bs l1)] W fun e w' => e = .returned (.tuple #[.int .i64 (M : Int), .int .i64 (sz : Int)]) /\ W.grownBy w' none) := by
  intro W
  have h := rnum_any l1 (by unfold maxLen; omega) W
  rw [hrn] at h
  exact h
 have hbI : (b.toNat : Int) = 1 := by omega
 have hszI : ((sz : Int) == 0) = false := by simp; omega
 have hszJ : ¬ (sz : Int) = 0 := by omega
 have hszL : (sz : Int) <= (l1.length : Int) := by omega
 rw [show (((n + 1 : Nat) : Int) - n) = 1 from by omega] at HP
 have hsz3 := bs_size l3
 have hxt : (bs l3).extract 0 M = bs (l3.take M) := bs_take l3 M hM3
 have hxd : (bs l3).extract M l3.length = bs (l3.drop M) := bs_drop l3 M
 have hMI : (M : Int) <= 200 := by omega
 have hML : (M : Int) <= (l3.length : Int) := by omega
 have HTS : Hid ((bs (l3.take M)).size <= maxLen) := by show _ <= _; rw [bs_size, List.length_take]; unfold maxLen; omega
 clear hrn hn hdr hmb
 generalize bs (l3.take M) = st at *
 generalize bs (l3.drop M) = sd at *
 have hsz3 := bs_size l3
 generalize bs l3 = s3 at *
 generalize l3.length = L3 at *
 generalize bs l1 = s1 at *
 generalize l1.length = L1 at *
 go_enter Tryz.func68, Tryz.ntmps68
 go_wp2_with fail
 refine (HNM.out _).mono ?_; rintro e y2 ⟨rfl, hg2⟩
 have HR2 := jh ((hg2.block _ (lt_of_block HR.out) (by simp)).trans HR.out)
 have HN2 := jh ((hg2.block _ (lt_of_block HN0.out) (by simp)).trans HN0.out)
 have HG2 := jh (Lf.gbt HG.out hg2)
 obtain ⟨n0, n1, n2, n3, n4⟩ := box5 HN2.out
 obtain ⟨nf0, nf1, nf2, nf3, nf4⟩ := box5f HN2.out
 have hz2 := lt_of_block HN2.out
 obtain ⟨r0, r1, r2, r3, r4⟩ := box5 HR2.out
 obtain ⟨f0, f1, f2, f3, f4⟩ := box5f HR2.out
 clear hg2
 go_wp2_with fail
 go_region
 all_goals
  go_wp2_with fail
  have hy : y2.grownBy (y2.setCell ⟨w.heap.size + 1, 3, none⟩ (.string st)) (some (w.heap.size + 1)) := grow_set (grow_refl _ _) _ _ _
  have hr3 := (hy.block _ (lt_of_block HR2.out) (by simp)).trans HR2.out
  have hg3 := grow_new HG2.out hy (by omega)
  generalize y2.setCell ⟨w.heap.size + 1, 3, none⟩ (.string st) = y6 at *
  change bodyPost _ _ _ _ _ (set5 y6 w.heap.size (.int .i64 1) (.int .i64 0) (.int .i64 0) (.string st) (.slice none 0 0)).drew
  have hb' := set5_block hr3 (.int .i64 1) (.int .i64 0) (.int .i64 0) (.string st) (.slice none 0 0)
  have hb2 : (set5 y6 w.heap.size (.int .i64 1) (.int .i64 0) (.int .i64 0) (.string st) (.slice none 0 0)).drew.heap[w.heap.size]? = _ := hb'
  have hg2' : w.grownBy (set5 y6 w.heap.size (.int .i64 1) (.int .i64 0) (.int .i64 0) (.string st) (.slice none 0 0)).drew none := grow_drew (grow_new hg3 (set5_grow y6 w.heap.size (.int .i64 1) (.int .i64 0) (.int .i64 0) (.string st) (.slice none 0 0)) (Nat.le_refl _))
  clear hb'
  generalize (set5 y6 w.heap.size (.int .i64 1) (.int .i64 0) (.int .i64 0) (.string st) (.slice none 0 0)).drew = wf at *
  obtain ⟨z0, z1, z2, z3, z4⟩ := box5 hb2
  exact bodyPost_ret (v := .tuple #[nodeV 1 0 0 st none 0 0, .string sd, .int .i64 1, .int .i64 0]) (by simp [results, Tryz.results68, go_sem, z0, z1, z2, z3, z4, nodeV]) rfl (HP.out _ _ hg2' (lies_leaf HTS.out ⟨by omega, by omega⟩ ⟨by omega, by omega⟩ ⟨by omega, by omega⟩))
theorem own_lt_neD {w : World} {B : Nat} {e : TypeId} {size n : Nat} {v : Value} {xs : List Value} (h : w.ownsRow B e size v n xs) {y : Nat} (hy : y < B) : some y ≠ v.ownBlock := fun e => by have := (World.ownsRow.lt h y e.symm).1; omega
structure DInv (w2 w : World) (nb rb H : Nat) (kb p : Int) (lv : Value) (ts : List Tr) (vs : List Value) : Prop where
 grown : w2.grownBy w none
 blk : w.heap[nb]? = some (.cells #[.int .i64 kb, .int .i64 0, .int .i64 p, .string ⟨#[]⟩, lv] 30 (0, 0))
 res : w.heap[rb]? = some (.cells #[.int .i64 0, .int .i64 0, .int .i64 0, .string ⟨#[]⟩, .slice none 0 0] 30 (0, 0))
 list : ListOk H w lv ts vs
 hz : H <= w.heap.size
theorem DInv.call {w2 w w' : World} {nb rb H : Nat} {kb p : Int} {lv : Value} {ts : List Tr} {vs : List Value} (h : DInv w2 w nb rb H kb p lv ts vs) (hg : w.grownBy w' none) (hn : nb < H) : DInv w2 w' nb rb H kb p lv ts vs :=
 ⟨Lf.gbt h.grown hg, (hg.block _ (lt_of_block h.blk) (by simp)).trans h.blk, (hg.block _ (lt_of_block h.res) (by simp)).trans h.res, h.list.keep (rb := nb) (grow_any hg) hn, Nat.le_trans h.hz hg.size⟩
theorem DInv.push {w2 w w' : World} {nb rb H S : Nat} {kb p : Int} {lv lv' u : Value} {ts : List Tr} {vs : List Value} {t : Tr} (h : DInv w2 w nb rb H kb p lv ts vs) (hn : w2.heap.size <= nb) (hnH : nb < H) (hrH : rb < H) (hrn : rb ≠ nb) (hS : H <= S)
 (hvS : ∀ k, lv.ownBlock = some k -> k < S) (hL : Lies (S <= ·) w t u) (hg : Gr w lv w' lv') (ho : OwnsL H w' lv' (vs ++ [u])) : DInv w2 (w'.setCell ⟨nb, 4, none⟩ lv') nb rb H kb p lv' (ts ++ [t]) (vs ++ [u]) := by
 have hset : w'.grownBy (w'.setCell ⟨nb, 4, none⟩ lv') (some nb) := grow_set (grow_refl _ _) _ _ _
 have kbk : w'.heap[nb]? = _ := (hg.block (lt_of_block h.blk) (own_lt_neD h.list.own hnH)).trans h.blk
 have kr : w'.heap[rb]? = _ := (hg.block (lt_of_block h.res) (own_lt_neD h.list.own hrH)).trans h.res
 refine ⟨?_, (set_one kbk lv').2.2.2, (hset.block rb (lt_of_block kr) (by simpa using hrn)).trans kr, (h.list.push hS hvS hL hg ho).keep hset hnH, ?_⟩
 ·refine ⟨hg.1.os.trans h.grown.os, hg.1.tape.trans h.grown.tape, hg.1.output.trans h.grown.output, Nat.le_trans h.grown.size (Nat.le_trans hg.1.size hset.size), fun i hi hr => ?_⟩
  rw [hset.block i (by have := h.grown.size; have := hg.1.size; omega) (by simp; omega), hg.block (by have := h.grown.size; omega) (own_lt_neD h.list.own (by omega))]
  exact h.grown.block i hi hr
 ·have := h.hz; have := hg.1.size; have := hset.size; omega
def RROk (d : Nat) : Prop := ∀ (dI LI : Int) (n : Nat) (l : List UInt8) (w : World), dI = d -> LI = 300 - n -> n <= 300 -> l.length <= maxLen -> Calls Tryz.prog 68 #[.string (bs l), .int .i64 dI, .int .i64 LI] w (RRPost w d n l)
def ArgsAns (d n : Nat) (K : Nat) (l : List UInt8) : Except Int (List Tr × Nat × List UInt8) := pSeq (fun n l => pNode d n l) K (n + 1) l
def wrapA (kb p : Int) : Except Int (List Tr × Nat × List UInt8) -> Except Int (Tr × Nat × List UInt8)
 | .error e => .error e
 | .ok (ts, n', l') => .ok (.nd kb 0 p (bs []) ts, n', l')
def DRel (w : World) (d n K : Nat) (l3 : List UInt8) (kb p : Int) (sv mv iv : Value) (wr : World) : Prop :=
 ∃ (j m2 : Nat) (lv : Value) (ts : List Tr) (vs : List Value) (l4 : List UInt8), iv = .int .i64 j /\ mv = .int .i64 m2 /\ sv = .string (bs l4) /\ j <= K /\ 1 <= m2 /\ ts.length <= m2 /\ n + m2 <= 300 /\ l4.length <= maxLen /\
  DInv w wr (w.heap.size + 1) w.heap.size (w.heap.size + 1 + 1) kb p lv ts vs /\ ArgsAns d n K l3 = prep ts (pSeq (fun n l => pNode d n l) (K - j) (n + m2) l4)
theorem rr_seq (dI LI : Int) (d n : Nat) (b : UInt8) (l1 : List UInt8) (hl : (b :: l1).length <= maxLen) (w : World) (hd : ¬ dI = 0) (hL : ¬ LI = 0) (hb : b.toNat = 3) (K : Nat) (l3 : List UInt8) (hn : pNum l1 = some ((K : Int), l3)) (hd0 : dI = ((d + 1 : Nat) : Int)) (hLI : LI = 300 - n) (hn3 : n < 300) (hIH : RROk d) (hd24 : d <= 23) (hpn : pNode (d + 1) n (b :: l1) = wrapA 3 0 (ArgsAns d n K l3)) :
 Calls Tryz.prog 68 #[.string (bs (b :: l1)), .int .i64 dI, .int .i64 LI] w (RRPost w (d + 1) n (b :: l1)) := by
 have HPN := jh hpn
 clear hpn
 have IH := jh hIH
 have HDI := jh hd0
 have HLI := jh hLI
 have hdb : 1 <= dI /\ dI <= 24 := by omega
 have hLb : 1 <= LI /\ LI <= 300 := by omega
 obtain ⟨hdb1, hdb2⟩ := hdb
 obtain ⟨hLb1, hLb2⟩ := hLb
 clear hIH hd0 hLI
 obtain ⟨sz, hrn, hsz0, hszl, hdr⟩ := num_yes hn
 have hx3 : (bs l1).extract sz l1.length = bs l3 := by rw [bs_drop, hdr]
 have hl3 : l3.length + sz = l1.length := by rw [← hdr, List.length_drop]; omega
 have hmb := (pNum_sound hn).1
 have hszs := bs_size l1
 have HR := jh (heap_keep (o := .cells #[.int .i64 3, .int .i64 0, .int .i64 0, .string ⟨#[]⟩, .slice none 0 0] 30) (heap_alloc_new w (.cells #[.int .i64 0, .int .i64 0, .int .i64 0, .string ⟨#[]⟩, .slice none 0 0] 30)))
 have HN0 := jh (heap_alloc_new (w.alloc (.cells #[.int .i64 0, .int .i64 0, .int .i64 0, .string ⟨#[]⟩, .slice none 0 0] 30)) (.cells #[.int .i64 3, .int .i64 0, .int .i64 0, .string ⟨#[]⟩, .slice none 0 0] 30))
 have HG := jh (Lf.gbt (Lf.gb (w := w) (.cells #[.int .i64 0, .int .i64 0, .int .i64 0, .string ⟨#[]⟩, .slice none 0 0] 30)) (Lf.gb (.cells #[.int .i64 3, .int .i64 0, .int .i64 0, .string ⟨#[]⟩, .slice none 0 0] 30)))
 have hd' : (dI == 0) = false := by simpa using hd
 have hL' : (LI == 0) = false := by simpa using hL
 have hs := bs_ne b l1
 have h0 : ∀ h, (bs (b :: l1))[0]'h = b := fun _ => rfl
 have hsz := bs_size (b :: l1)
 have hx1 : (bs (b :: l1)).extract 1 (b :: l1).length = bs l1 := bs_drop (b :: l1) 1
 have e50' := e50
 have hl1 : l1.length <= maxLen := by simp at hl; omega
 unfold maxLen at hl hl1
 obtain ⟨L, hLN⟩ : ∃ L, L = (b :: l1).length := ⟨_, rfl⟩
 have hLpos : 0 < L := by rw [hLN]; simp
 have hL1 : l1.length + 1 = L := by rw [hLN]; simp
 rw [← hLN] at hsz hl hx1
 clear hLN
 generalize bs (b :: l1) = s at *
 rw [World.size_alloc] at HN0
 have HNM : Hid (∀ W, Calls Tryz.prog 101 #[.string (bs l1)] W fun e w' => e = .returned (.tuple #[.int .i64 (K : Int), .int .i64 (sz : Int)]) /\ W.grownBy w' none) := by
  intro W
  have h := rnum_any l1 (by unfold maxLen; omega) W
  rw [hrn] at h
  exact h
 have hbI : (b.toNat : Int) = 3 := by omega
 have hszI : ((sz : Int) == 0) = false := by simp; omega
 have hszJ : ¬ (sz : Int) = 0 := by omega
 have hszL : (sz : Int) <= (l1.length : Int) := by omega
 have hsz3 := bs_size l3
 have HL3 : Hid (l3.length <= maxLen) := by show _ <= _; unfold maxLen; omega
 obtain ⟨s3, hs3⟩ : ∃ s3, s3 = bs l3 := ⟨_, rfl⟩
 have HS3 : Hid (Value.string s3 = .string (bs l3)) := by show _ = _; rw [hs3]
 rw [← hs3] at hx3 hsz3
 clear hs3 hrn hn hdr
 generalize bs l1 = s1 at *
 generalize l1.length = L1 at *
 go_enter Tryz.func68, Tryz.ntmps68
 go_wp2_with fail
 refine (HNM.out _).mono ?_; rintro e y2 ⟨rfl, hg2⟩
 have HR2 := jh ((hg2.block _ (lt_of_block HR.out) (by simp)).trans HR.out)
 have HN2 := jh ((hg2.block _ (lt_of_block HN0.out) (by simp)).trans HN0.out)
 have HG2 := jh (Lf.gbt HG.out hg2)
 obtain ⟨n0, n1, n2, n3, n4⟩ := box5 HN2.out
 obtain ⟨nf0, nf1, nf2, nf3, nf4⟩ := box5f HN2.out
 have hz2 := lt_of_block HN2.out
 clear hg2
 go_wp2_with fail
 have hI0 : DInv w y2 (w.heap.size + 1) w.heap.size (w.heap.size + 1 + 1) 3 0 (.slice none 0 0) [] [] := ⟨HG2.out, HN2.out, HR2.out, ListOk.nil _ _, hz2⟩
 have HI0 := jh hI0
 clear hI0 n0 n1 n2 n3 n4 nf0 nf1 nf2 nf3 nf4 hz2 HR2 HN2 HG2
 go_loopw [0, 14, 15] (fun sv mv iv wr => DRel w d n K l3 3 0 sv mv iv wr) (fun _ _ iv _ => K - (intOf iv).toNat)
 case atStart => exact ⟨0, 1, _, [], [], l3, rfl, rfl, HS3.out, Nat.zero_le _, Nat.le_refl _, by simp, by omega, HL3.out, HI0.out, by unfold ArgsAns; cases pSeq (fun n l => pNode d n l) (K - 0) (n + 1) l3 <;> simp [prep, *]⟩
 case round =>
  obtain ⟨j, m2, lv, ts, vs, l4, rfl, rfl, rfl, hj, hm1, htm, hnm, hl4, hI, hans⟩ := hrel
  have hlv : ∃ la lc, lv = .slice la vs.length lc := by
   obtain ⟨la, lc, _, h, _, _⟩ := hI.list.done
   exact ⟨la, lc, by rw [h, hI.list.len]⟩
  obtain ⟨la, lc, rfl⟩ := hlv
  have hvl : vs.length <= 1000000000000 := by have := hI.list.len; omega
  obtain ⟨b0, b1, b2, b3, b4⟩ := box5 hI.blk
  obtain ⟨r0, r1, r2, r3, r4⟩ := box5 hI.res
  obtain ⟨rf0, rf1, rf2, rf3, rf4⟩ := box5f hI.res
  have lb : w.heap.size + 1 < wr.heap.size := lt_of_block hI.blk
  by_cases hlt : j < K
  ·have hltI : (j : Int) < (K : Int) := by omega
   have hih := IH.out (dI - 1) (LI - m2) (n + m2) l4 wr (by have := HDI.out; push_cast at this; omega) (by have := HLI.out; push_cast; omega) hnm hl4
   have HIH := jh hih
   have HI := jh hI
   have HANS := jh hans
   have HOB : Hid (∀ k, (Value.slice la vs.length lc).ownBlock = some k -> k < wr.heap.size) := fun k hk => (World.ownsRow.lt hI.list.own k hk).2
   have hm2I : (m2 : Int) <= 300 := by omega
   have hL4 := jh hl4
   clear hih hI hans hl4
   generalize hs4 : bs l4 = s4 at *
   clear hs4
   go_wp2_with fail
   refine HIH.out.mono ?_; rintro e y3 ⟨hg3, hp3⟩
   have hkj : K - j = (K - j - 1) + 1 := by omega
   cases hq : pNode d (n + m2) l4 with
   | error x =>
    rw [hq] at hp3
    obtain ⟨hx, rfl⟩ := hp3
    have ha : ArgsAns d n K l3 = .error x := by rw [HANS.out, hkj, pSeq]; simp only [hq, prep]
    have HP := jh (fun w' hg => rr_no (w := w) (w' := w') (show pNode (d + 1) n (b :: l1) = .error x by rw [HPN.out, ha]; rfl) hx hg)
    have hx1 : (x == 0) = false := by simpa using hx
    have HI3 := jh ((HI.out.call hg3 (by omega)).call (Lf.gb (.cells #[.int .i64 0, .int .i64 0, .int .i64 0, .string ⟨#[]⟩, .slice none 0 0] 30)) (by omega))
    have HRX := jh HI3.out.res
    have HGX := jh HI3.out.grown
    clear ha hq hg3 HIH HI
    unfold nodeV
    go_wp2_with fail
    refine (no_any _ _).mono ?_; rintro e y1 ⟨rfl, hg⟩
    have hr1 := (hg.block _ (lt_of_block HRX.out) (by simp)).trans HRX.out
    obtain ⟨r0, r1, r2, r3, r4⟩ := box5 hr1
    obtain ⟨f0, f1, f2, f3, f4⟩ := box5f hr1
    have HR1 := jh hr1
    have HG1 := jh (Lf.gbt HGX.out hg)
    clear hg hr1
    go_wp2_with fail
    change bodyPost _ _ _ _ _ (set5 y1 w.heap.size (.int .i64 0) (.int .i64 0) (.int .i64 0) (.string ⟨#[]⟩) (.slice none 0 0))
    have hb' := set5_block HR1.out (.int .i64 0) (.int .i64 0) (.int .i64 0) (.string ⟨#[]⟩) (.slice none 0 0)
    have hg' := grow_new HG1.out (set5_grow y1 w.heap.size (.int .i64 0) (.int .i64 0) (.int .i64 0) (.string ⟨#[]⟩) (.slice none 0 0)) (Nat.le_refl _)
    generalize set5 y1 w.heap.size (.int .i64 0) (.int .i64 0) (.int .i64 0) (.string ⟨#[]⟩) (.slice none 0 0) = wf at *
    obtain ⟨z0, z1, z2, z3, z4⟩ := box5 hb'
    exact bodyPost_ret (v := .tuple #[nodeV 0 0 0 ⟨#[]⟩ none 0 0, .string ⟨#[]⟩, .int .i64 0, .int .i64 x]) (by simp [results, Tryz.results68, go_sem, z0, z1, z2, z3, z4, nodeV]) rfl (HP.out _ hg')
   | ok y =>
    obtain ⟨t, n', l'⟩ := y
    rw [hq] at hp3
    obtain ⟨v, rfl, hLv⟩ := hp3
    obtain ⟨a1, a2, a3, a4⟩ := pNode_sound d (by omega) (n + m2) l4 t n' l' hnm hq
    obtain ⟨kv, nv, pv, sv, av, lv', cv, rfl⟩ := hLv.nodeV
    have hl' : l'.length <= maxLen := by
     have h := hL4.out
     rw [a1, List.length_append] at h; omega
    have htz := size_pos t
    have ha : ArgsAns d n K l3 = prep (ts ++ [t]) (pSeq (fun n l => pNode d n l) (K - (j + 1)) (n + (n' - n)) l') := by
     rw [HANS.out, hkj, pSeq]
     simp only [hq]
     rw [show K - j - 1 = K - (j + 1) from by omega, show n + (n' - n) = n' from by omega]
     cases pSeq (fun n l => pNode d n l) (K - (j + 1)) n' l' <;> simp [prep]
    have HA := jh ha
    have HI3 := jh (HI.out.call hg3 (by omega))
    have HI4 := jh (HI3.out.call (Lf.gb (.cells #[.int .i64 kv, .int .i64 nv, .int .i64 pv, .string sv, .slice av lv' cv] 30)) (by omega))
    have HLU := jh (hLv.same (w' := y3.alloc (.cells #[.int .i64 kv, .int .i64 nv, .int .i64 pv, .string sv, .slice av lv' cv] 30)) (fun b o _ hb => World.cell?_alloc_lt _ _ _ hb))
    have HL' := jh hl'
    obtain ⟨c0, c1, c2, c3, c4⟩ := box5 HI3.out.blk
    have lc3 : w.heap.size + 1 < y3.heap.size := lt_of_block HI3.out.blk
    have lc4 : w.heap.size + 1 < y3.heap.size + 1 := by omega
    have hz3 := hg3.size
    have hn' : (n' : Int) - ((n + m2 : Nat) : Int) = (t.size : Int) := by rw [a2]; push_cast; omega
    rw [hn']
    have htI : (t.size : Int) <= 300 := by omega
    have ha2 : n' - n = m2 + t.size := by omega
    have HA2 := jh ha2
    have hlim : n + (m2 + t.size) <= 300 := by omega
    obtain ⟨s5, hs5⟩ : ∃ s5, s5 = bs l' := ⟨_, rfl⟩
    have HS5 : Hid (Value.string s5 = .string (bs l')) := by show _ = _; rw [hs5]
    rw [← hs5]
    generalize t.size = tz at *
    clear ha hq hg3 HIH HI hLv a1 a2 a3 a4 hl' hs5 hn' ha2 b0 b1 b2 b3 b4
    unfold nodeV
    go_wp2_with (at_builtin; refine appN (w.heap.size + 1 + 1) vs kv nv pv sv av lv' cv (y3.alloc (.cells #[.int .i64 kv, .int .i64 nv, .int .i64 pv, .string sv, .slice av lv' cv] 30)) (.slice la vs.length lc) rfl (.tmp 159) (.tmp 161) rfl rfl rfl (World.size_alloc _ _) HI4.out.list.own HI4.out.hz hvl ?_; intro g cap y5 ho5 hg5; have HO5 := jh ho5; have HG5 := jh hg5; clear ho5 hg5; have HI5 := jh (HI4.out.push (S := wr.heap.size) (by omega) (by omega) (by omega) (by omega) (by omega) (fun k hk => HOB.out k hk) HLU.out HG5.out HO5.out); have k5 := (HG5.out.block (lt_of_block HI4.out.blk) (own_lt_neD HI4.out.list.own (by omega))).trans HI4.out.blk; obtain ⟨d0, d1, d2, d3, d4⟩ := box5 k5; obtain ⟨e0, e1, e2, e3, e4⟩ := box5f k5; clear k5)
    go_roundw
    case rel => exact ⟨j + 1, m2 + tz, _, ts ++ [t], _, l', by go_num, by go_num, HS5.out, by omega, by omega, by simp; omega, hlim, HL'.out, HI5.out, by have h := HA.out; rw [HA2.out] at h; exact h⟩
    case measure => simp [intOf]; omega
  ·have hje : j = K := by omega
   have hltI : ¬ (j : Int) < (K : Int) := by omega
   have ha : ArgsAns d n K l3 = .ok (ts, n + m2, l4) := by rw [hans, hje, Nat.sub_self, pSeq]; simp [prep]
   have HP := jh (fun w' v hg hL => rr_yes (w := w) (w' := w') (v := v) (show pNode (d + 1) n (b :: l1) = .ok (.nd 3 0 0 (bs []) ts, n + m2, l4) by rw [HPN.out, ha]; rfl) hg hL)
   rw [show (((n + m2 : Nat) : Int) - n) = m2 from by omega] at HP
   have HI := jh hI
   clear ha hans hI hje
   generalize bs l4 = s4 at *
   go_wp2_with fail
   change bodyPost _ _ _ _ _ (set5 wr w.heap.size (.int .i64 3) (.int .i64 0) (.int .i64 0) (.string ⟨#[]⟩) (.slice la vs.length lc))
   have hb' := set5_block HI.out.res (.int .i64 3) (.int .i64 0) (.int .i64 0) (.string ⟨#[]⟩) (.slice la vs.length lc)
   have hgs := set5_grow wr w.heap.size (.int .i64 3) (.int .i64 0) (.int .i64 0) (.string ⟨#[]⟩) (.slice la vs.length lc)
   have hg' := grow_new HI.out.grown hgs (Nat.le_refl _)
   generalize set5 wr w.heap.size (.int .i64 3) (.int .i64 0) (.int .i64 0) (.string ⟨#[]⟩) (.slice la vs.length lc) = wf at *
   obtain ⟨z0, z1, z2, z3, z4⟩ := box5 hb'
   refine bodyPost_ret (v := .tuple #[nodeV 3 0 0 ⟨#[]⟩ la vs.length lc, .string s4, .int .i64 m2, .int .i64 0]) (by simp [results, Tryz.results68, go_sem, z0, z1, z2, z3, z4, nodeV]) rfl (HP.out _ _ hg' ?_)
   obtain ⟨x1, x2, V1, hv1, hd1, hd2⟩ := HI.out.list.done
   have hsm : Same (w.heap.size + 1 + 1 <= ·) wr wf := fun b o hb hlt => World.cell?_of_block (hgs.block b hlt (by have : w.heap.size + 1 + 1 <= b := hb; simp; omega))
   have hm : ∀ b, b < wf.heap.size -> w.heap.size + 1 + 1 <= b -> w.heap.size <= b := fun b _ hb => by omega
   have hv2 : nodeV 3 0 0 ⟨#[]⟩ la vs.length lc = nodeV 3 0 0 (bs []) x1 ts.length x2 := by
    simp only [Value.slice.injEq] at hv1
    unfold nodeV
    rw [hv1.1, hv1.2.1, hv1.2.2]; rfl
   rw [hv2]
   exact (Lies.mk (ok := (w.heap.size + 1 + 1 <= ·)) V1 (by unfold maxLen; omega) (Nat.zero_le _) ⟨by omega, by omega⟩ ⟨by omega, by omega⟩ ⟨by omega, by omega⟩ (fun i hi => (hd1 i hi).same hsm) (fun i hi => (hd2 i hi).same hsm)).okMono hm
theorem rr_prim (dI LI : Int) (d n : Nat) (b : UInt8) (l1 : List UInt8) (hl : (b :: l1).length <= maxLen) (w : World) (hd : ¬ dI = 0) (hL : ¬ LI = 0) (q : UInt8) (l2 : List UInt8) (hb : b.toNat = 2) (hl0 : l1 = q :: l2) (hq : Lf.isPrimB q.toNat = true) (K : Nat) (l3 : List UInt8) (hn : pNum l2 = some ((K : Int), l3)) (hd0 : dI = ((d + 1 : Nat) : Int)) (hLI : LI = 300 - n) (hn3 : n < 300) (hIH : RROk d) (hd24 : d <= 23) (hpn : pNode (d + 1) n (b :: l1) = wrapA 2 (q.toNat : Int) (ArgsAns d n K l3)) :
 Calls Tryz.prog 68 #[.string (bs (b :: l1)), .int .i64 dI, .int .i64 LI] w (RRPost w (d + 1) n (b :: l1)) := by
 have HPN := jh hpn
 clear hpn
 have IH := jh hIH
 have HDI := jh hd0
 have HLI := jh hLI
 have hdb : 1 <= dI /\ dI <= 24 := by omega
 have hLb : 1 <= LI /\ LI <= 300 := by omega
 obtain ⟨hdb1, hdb2⟩ := hdb
 obtain ⟨hLb1, hLb2⟩ := hLb
 clear hIH hd0 hLI
 obtain ⟨sz, hrn, hsz0, hszl, hdr⟩ := num_yes hn
 have hx3 : (bs l2).extract sz l2.length = bs l3 := by rw [bs_drop, hdr]
 have hl3 : l3.length + sz = l2.length := by rw [← hdr, List.length_drop]; omega
 have hmb := (pNum_sound hn).1
 have hszs2 := bs_size l2
 have HR := jh (heap_keep (o := .cells #[.int .i64 2, .int .i64 0, .int .i64 (q.toNat : Int), .string ⟨#[]⟩, .slice none 0 0] 30) (heap_alloc_new w (.cells #[.int .i64 0, .int .i64 0, .int .i64 0, .string ⟨#[]⟩, .slice none 0 0] 30)))
 have HN0 := jh (heap_alloc_new (w.alloc (.cells #[.int .i64 0, .int .i64 0, .int .i64 0, .string ⟨#[]⟩, .slice none 0 0] 30)) (.cells #[.int .i64 2, .int .i64 0, .int .i64 (q.toNat : Int), .string ⟨#[]⟩, .slice none 0 0] 30))
 have HG := jh (Lf.gbt (Lf.gb (w := w) (.cells #[.int .i64 0, .int .i64 0, .int .i64 0, .string ⟨#[]⟩, .slice none 0 0] 30)) (Lf.gb (.cells #[.int .i64 2, .int .i64 0, .int .i64 (q.toNat : Int), .string ⟨#[]⟩, .slice none 0 0] 30)))
 have hd' : (dI == 0) = false := by simpa using hd
 have hL' : (LI == 0) = false := by simpa using hL
 have hs := bs_ne b l1
 have h0 : ∀ h, (bs (b :: l1))[0]'h = b := fun _ => rfl
 have hsz := bs_size (b :: l1)
 have hx1 : (bs (b :: l1)).extract 1 (b :: l1).length = bs l1 := bs_drop (b :: l1) 1
 have e50' := e50
 have hl1 : l1.length <= maxLen := by simp at hl; omega
 unfold maxLen at hl hl1
 obtain ⟨L, hLN⟩ : ∃ L, L = (b :: l1).length := ⟨_, rfl⟩
 have hLpos : 0 < L := by rw [hLN]; simp
 have hL1 : l1.length + 1 = L := by rw [hLN]; simp
 rw [← hLN] at hsz hl hx1
 clear hLN
 generalize bs (b :: l1) = s at *
 rw [World.size_alloc] at HN0
 have hbI : (b.toNat : Int) = 2 := by omega
 have hs1 : (bs l1).toList.isEmpty = false := by rw [hl0]; simp [bs]
 have hq0 : ∀ h, (bs l1)[0]'h = q := by subst hl0; exact fun _ => rfl
 have hsz1 := bs_size l1
 have hl1p : 0 < l1.length := by rw [hl0]; simp
 have hq255 : (q.toNat : Int) <= 255 := by have := q.toNat_lt; omega
 have hx2 : (bs l1).extract 1 l1.length = bs l2 := by subst hl0; exact bs_drop (q :: l2) 1
 have hl2 : l2.length + 1 = l1.length := by rw [hl0]; simp
 have hpr := rprim_any q.toNat
 rw [hq] at hpr
 have HPR := jh hpr
 clear hpr hl0 hq
 have HNM : Hid (∀ W, Calls Tryz.prog 101 #[.string (bs l2)] W fun e w' => e = .returned (.tuple #[.int .i64 (K : Int), .int .i64 (sz : Int)]) /\ W.grownBy w' none) := by
  intro W
  have h := rnum_any l2 (by unfold maxLen; omega) W
  rw [hrn] at h
  exact h
 have hszI : ((sz : Int) == 0) = false := by simp; omega
 have hszJ : ¬ (sz : Int) = 0 := by omega
 have hszL : (sz : Int) <= (l2.length : Int) := by omega
 have hsz3 := bs_size l3
 have HL3 : Hid (l3.length <= maxLen) := by show _ <= _; unfold maxLen; omega
 obtain ⟨s3, hs3⟩ : ∃ s3, s3 = bs l3 := ⟨_, rfl⟩
 have HS3 : Hid (Value.string s3 = .string (bs l3)) := by show _ = _; rw [hs3]
 rw [← hs3] at hx3 hsz3
 clear hs3 hrn hn hdr
 generalize bs l2 = s2 at *
 generalize bs l1 = s1 at *
 generalize l1.length = L1 at *
 generalize l2.length = L2 at *
 go_enter Tryz.func68, Tryz.ntmps68
 go_wp2_with fail
 refine (HPR.out _).mono ?_; rintro e y0 ⟨rfl, rfl⟩
 go_wp2_with fail
 refine (HNM.out _).mono ?_; rintro e y2 ⟨rfl, hg2⟩
 have HR2 := jh ((hg2.block _ (lt_of_block HR.out) (by simp)).trans HR.out)
 have HN2 := jh ((hg2.block _ (lt_of_block HN0.out) (by simp)).trans HN0.out)
 have HG2 := jh (Lf.gbt HG.out hg2)
 obtain ⟨n0, n1, n2, n3, n4⟩ := box5 HN2.out
 obtain ⟨nf0, nf1, nf2, nf3, nf4⟩ := box5f HN2.out
 have hz2 := lt_of_block HN2.out
 clear hg2
 go_wp2_with fail
 have hI0 : DInv w y2 (w.heap.size + 1) w.heap.size (w.heap.size + 1 + 1) 2 (q.toNat : Int) (.slice none 0 0) [] [] := ⟨HG2.out, HN2.out, HR2.out, ListOk.nil _ _, hz2⟩
 have HI0 := jh hI0
 clear hI0 n0 n1 n2 n3 n4 nf0 nf1 nf2 nf3 nf4 hz2 HR2 HN2 HG2
 go_loopw [0, 14, 15] (fun sv mv iv wr => DRel w d n K l3 2 (q.toNat : Int) sv mv iv wr) (fun _ _ iv _ => K - (intOf iv).toNat)
 case atStart => exact ⟨0, 1, _, [], [], l3, rfl, rfl, HS3.out, Nat.zero_le _, Nat.le_refl _, by simp, by omega, HL3.out, HI0.out, by unfold ArgsAns; cases pSeq (fun n l => pNode d n l) (K - 0) (n + 1) l3 <;> simp [prep, *]⟩
 case round =>
  obtain ⟨j, m2, lv, ts, vs, l4, rfl, rfl, rfl, hj, hm1, htm, hnm, hl4, hI, hans⟩ := hrel
  have hlv : ∃ la lc, lv = .slice la vs.length lc := by
   obtain ⟨la, lc, _, h, _, _⟩ := hI.list.done
   exact ⟨la, lc, by rw [h, hI.list.len]⟩
  obtain ⟨la, lc, rfl⟩ := hlv
  have hvl : vs.length <= 1000000000000 := by have := hI.list.len; omega
  obtain ⟨b0, b1, b2, b3, b4⟩ := box5 hI.blk
  obtain ⟨r0, r1, r2, r3, r4⟩ := box5 hI.res
  obtain ⟨rf0, rf1, rf2, rf3, rf4⟩ := box5f hI.res
  have lb : w.heap.size + 1 < wr.heap.size := lt_of_block hI.blk
  by_cases hlt : j < K
  ·have hltI : (j : Int) < (K : Int) := by omega
   have hih := IH.out (dI - 1) (LI - m2) (n + m2) l4 wr (by have := HDI.out; push_cast at this; omega) (by have := HLI.out; push_cast; omega) hnm hl4
   have HIH := jh hih
   have HI := jh hI
   have HANS := jh hans
   have HOB : Hid (∀ k, (Value.slice la vs.length lc).ownBlock = some k -> k < wr.heap.size) := fun k hk => (World.ownsRow.lt hI.list.own k hk).2
   have hm2I : (m2 : Int) <= 300 := by omega
   have hL4 := jh hl4
   clear hih hI hans hl4
   generalize hs4 : bs l4 = s4 at *
   clear hs4
   go_wp2_with fail
   refine HIH.out.mono ?_; rintro e y3 ⟨hg3, hp3⟩
   have hkj : K - j = (K - j - 1) + 1 := by omega
   cases hq : pNode d (n + m2) l4 with
   | error x =>
    rw [hq] at hp3
    obtain ⟨hx, rfl⟩ := hp3
    have ha : ArgsAns d n K l3 = .error x := by rw [HANS.out, hkj, pSeq]; simp only [hq, prep]
    have HP := jh (fun w' hg => rr_no (w := w) (w' := w') (show pNode (d + 1) n (b :: l1) = .error x by rw [HPN.out, ha]; rfl) hx hg)
    have hx1 : (x == 0) = false := by simpa using hx
    have HI3 := jh ((HI.out.call hg3 (by omega)).call (Lf.gb (.cells #[.int .i64 0, .int .i64 0, .int .i64 0, .string ⟨#[]⟩, .slice none 0 0] 30)) (by omega))
    have HRX := jh HI3.out.res
    have HGX := jh HI3.out.grown
    clear ha hq hg3 HIH HI
    unfold nodeV
    go_wp2_with fail
    refine (no_any _ _).mono ?_; rintro e y1 ⟨rfl, hg⟩
    have hr1 := (hg.block _ (lt_of_block HRX.out) (by simp)).trans HRX.out
    obtain ⟨r0, r1, r2, r3, r4⟩ := box5 hr1
    obtain ⟨f0, f1, f2, f3, f4⟩ := box5f hr1
    have HR1 := jh hr1
    have HG1 := jh (Lf.gbt HGX.out hg)
    clear hg hr1
    go_wp2_with fail
    change bodyPost _ _ _ _ _ (set5 y1 w.heap.size (.int .i64 0) (.int .i64 0) (.int .i64 0) (.string ⟨#[]⟩) (.slice none 0 0))
    have hb' := set5_block HR1.out (.int .i64 0) (.int .i64 0) (.int .i64 0) (.string ⟨#[]⟩) (.slice none 0 0)
    have hg' := grow_new HG1.out (set5_grow y1 w.heap.size (.int .i64 0) (.int .i64 0) (.int .i64 0) (.string ⟨#[]⟩) (.slice none 0 0)) (Nat.le_refl _)
    generalize set5 y1 w.heap.size (.int .i64 0) (.int .i64 0) (.int .i64 0) (.string ⟨#[]⟩) (.slice none 0 0) = wf at *
    obtain ⟨z0, z1, z2, z3, z4⟩ := box5 hb'
    exact bodyPost_ret (v := .tuple #[nodeV 0 0 0 ⟨#[]⟩ none 0 0, .string ⟨#[]⟩, .int .i64 0, .int .i64 x]) (by simp [results, Tryz.results68, go_sem, z0, z1, z2, z3, z4, nodeV]) rfl (HP.out _ hg')
   | ok y =>
    obtain ⟨t, n', l'⟩ := y
    rw [hq] at hp3
    obtain ⟨v, rfl, hLv⟩ := hp3
    obtain ⟨a1, a2, a3, a4⟩ := pNode_sound d (by omega) (n + m2) l4 t n' l' hnm hq
    obtain ⟨kv, nv, pv, sv, av, lv', cv, rfl⟩ := hLv.nodeV
    have hl' : l'.length <= maxLen := by
     have h := hL4.out
     rw [a1, List.length_append] at h; omega
    have htz := size_pos t
    have ha : ArgsAns d n K l3 = prep (ts ++ [t]) (pSeq (fun n l => pNode d n l) (K - (j + 1)) (n + (n' - n)) l') := by
     rw [HANS.out, hkj, pSeq]
     simp only [hq]
     rw [show K - j - 1 = K - (j + 1) from by omega, show n + (n' - n) = n' from by omega]
     cases pSeq (fun n l => pNode d n l) (K - (j + 1)) n' l' <;> simp [prep]
    have HA := jh ha
    have HI3 := jh (HI.out.call hg3 (by omega))
    have HI4 := jh (HI3.out.call (Lf.gb (.cells #[.int .i64 kv, .int .i64 nv, .int .i64 pv, .string sv, .slice av lv' cv] 30)) (by omega))
    have HLU := jh (hLv.same (w' := y3.alloc (.cells #[.int .i64 kv, .int .i64 nv, .int .i64 pv, .string sv, .slice av lv' cv] 30)) (fun b o _ hb => World.cell?_alloc_lt _ _ _ hb))
    have HL' := jh hl'
    obtain ⟨c0, c1, c2, c3, c4⟩ := box5 HI3.out.blk
    have lc3 : w.heap.size + 1 < y3.heap.size := lt_of_block HI3.out.blk
    have lc4 : w.heap.size + 1 < y3.heap.size + 1 := by omega
    have hz3 := hg3.size
    have hn' : (n' : Int) - ((n + m2 : Nat) : Int) = (t.size : Int) := by rw [a2]; push_cast; omega
    rw [hn']
    have htI : (t.size : Int) <= 300 := by omega
    have ha2 : n' - n = m2 + t.size := by omega
    have HA2 := jh ha2
    have hlim : n + (m2 + t.size) <= 300 := by omega
    obtain ⟨s5, hs5⟩ : ∃ s5, s5 = bs l' := ⟨_, rfl⟩
    have HS5 : Hid (Value.string s5 = .string (bs l')) := by show _ = _; rw [hs5]
    rw [← hs5]
    generalize t.size = tz at *
    clear ha hq hg3 HIH HI hLv a1 a2 a3 a4 hl' hs5 hn' ha2 b0 b1 b2 b3 b4
    unfold nodeV
    go_wp2_with (at_builtin; refine appN (w.heap.size + 1 + 1) vs kv nv pv sv av lv' cv (y3.alloc (.cells #[.int .i64 kv, .int .i64 nv, .int .i64 pv, .string sv, .slice av lv' cv] 30)) (.slice la vs.length lc) rfl (.tmp 159) (.tmp 161) rfl rfl rfl (World.size_alloc _ _) HI4.out.list.own HI4.out.hz hvl ?_; intro g cap y5 ho5 hg5; have HO5 := jh ho5; have HG5 := jh hg5; clear ho5 hg5; have HI5 := jh (HI4.out.push (S := wr.heap.size) (by omega) (by omega) (by omega) (by omega) (by omega) (fun k hk => HOB.out k hk) HLU.out HG5.out HO5.out); have k5 := (HG5.out.block (lt_of_block HI4.out.blk) (own_lt_neD HI4.out.list.own (by omega))).trans HI4.out.blk; obtain ⟨d0, d1, d2, d3, d4⟩ := box5 k5; obtain ⟨e0, e1, e2, e3, e4⟩ := box5f k5; clear k5)
    go_roundw
    case rel => exact ⟨j + 1, m2 + tz, _, ts ++ [t], _, l', by go_num, by go_num, HS5.out, by omega, by omega, by simp; omega, hlim, HL'.out, HI5.out, by have h := HA.out; rw [HA2.out] at h; exact h⟩
    case measure => simp [intOf]; omega
  ·have hje : j = K := by omega
   have hltI : ¬ (j : Int) < (K : Int) := by omega
   have ha : ArgsAns d n K l3 = .ok (ts, n + m2, l4) := by rw [hans, hje, Nat.sub_self, pSeq]; simp [prep]
   have HP := jh (fun w' v hg hL => rr_yes (w := w) (w' := w') (v := v) (show pNode (d + 1) n (b :: l1) = .ok (.nd 2 0 (q.toNat : Int) (bs []) ts, n + m2, l4) by rw [HPN.out, ha]; rfl) hg hL)
   rw [show (((n + m2 : Nat) : Int) - n) = m2 from by omega] at HP
   have HI := jh hI
   clear ha hans hI hje
   generalize bs l4 = s4 at *
   go_wp2_with fail
   change bodyPost _ _ _ _ _ (set5 wr w.heap.size (.int .i64 2) (.int .i64 0) (.int .i64 (q.toNat : Int)) (.string ⟨#[]⟩) (.slice la vs.length lc))
   have hb' := set5_block HI.out.res (.int .i64 2) (.int .i64 0) (.int .i64 (q.toNat : Int)) (.string ⟨#[]⟩) (.slice la vs.length lc)
   have hgs := set5_grow wr w.heap.size (.int .i64 2) (.int .i64 0) (.int .i64 (q.toNat : Int)) (.string ⟨#[]⟩) (.slice la vs.length lc)
   have hg' := grow_new HI.out.grown hgs (Nat.le_refl _)
   generalize set5 wr w.heap.size (.int .i64 2) (.int .i64 0) (.int .i64 (q.toNat : Int)) (.string ⟨#[]⟩) (.slice la vs.length lc) = wf at *
   obtain ⟨z0, z1, z2, z3, z4⟩ := box5 hb'
   refine bodyPost_ret (v := .tuple #[nodeV 2 0 (q.toNat : Int) ⟨#[]⟩ la vs.length lc, .string s4, .int .i64 m2, .int .i64 0]) (by simp [results, Tryz.results68, go_sem, z0, z1, z2, z3, z4, nodeV]) rfl (HP.out _ _ hg' ?_)
   obtain ⟨x1, x2, V1, hv1, hd1, hd2⟩ := HI.out.list.done
   have hsm : Same (w.heap.size + 1 + 1 <= ·) wr wf := fun b o hb hlt => World.cell?_of_block (hgs.block b hlt (by have : w.heap.size + 1 + 1 <= b := hb; simp; omega))
   have hm : ∀ b, b < wf.heap.size -> w.heap.size + 1 + 1 <= b -> w.heap.size <= b := fun b _ hb => by omega
   have hv2 : nodeV 2 0 (q.toNat : Int) ⟨#[]⟩ la vs.length lc = nodeV 2 0 (q.toNat : Int) (bs []) x1 ts.length x2 := by
    simp only [Value.slice.injEq] at hv1
    unfold nodeV
    rw [hv1.1, hv1.2.1, hv1.2.2]; rfl
   rw [hv2]
   exact (Lies.mk (ok := (w.heap.size + 1 + 1 <= ·)) V1 (by unfold maxLen; omega) (Nat.zero_le _) ⟨by omega, by omega⟩ ⟨by omega, by omega⟩ ⟨by omega, by omega⟩ (fun i hi => (hd1 i hi).same hsm) (fun i hi => (hd2 i hi).same hsm)).okMono hm
theorem pn_cons {d n : Nat} {b : UInt8} {l : List UInt8} (hn : ¬ n = 300) : pNode (d + 1) n (b :: l) = (
 if b.toNat = 0 then match pNum l with
  | none => .error 1
  | some (m, l') => .ok (.nd 0 m 0 (bs []) [], n + 1, l')
 else if b.toNat = 1 then match pText l with
  | none => .error 1
  | some (s, l') => .ok (.nd 1 0 0 (bs s) [], n + 1, l')
 else if b.toNat = 2 then match l with
  | [] => .error 1
  | p :: l => if Lf.isPrimB p.toNat = false then .error 1 else match pArgs (fun n l => pNode d n l) (n + 1) l with
   | .error e => .error e
   | .ok (ts, n', l') => .ok (.nd 2 0 p.toNat (bs []) ts, n', l')
 else if b.toNat = 3 then match pArgs (fun n l => pNode d n l) (n + 1) l with
  | .error e => .error e
  | .ok (ts, n', l') => .ok (.nd 3 0 0 (bs []) ts, n', l')
 else .error 1) := by
 rw [pNode.eq_def]; simp only; rw [if_neg hn]; rfl
theorem rr_all : ∀ d, d <= 24 -> RROk d := by
 intro d
 induction d with
 | zero =>
  intro _ dI LI n l w hdI hLI hn hl
  exact rr_long dI LI 0 n l hl w (.inl (by simpa using hdI)) (by simp [pNode])
 | succ d ih =>
  intro hd24 dI LI n l w hdI hLI hn hl
  have hd0 : ¬ dI = 0 := by rw [hdI]; omega
  by_cases hn3 : n = 300
  ·exact rr_long dI LI (d + 1) n l hl w (.inr ⟨hd0, by rw [hLI, hn3]; omega⟩) (by rw [pNode.eq_def]; simp [hn3])
  have hL0 : ¬ LI = 0 := by rw [hLI]; omega
  cases l with
  | nil => exact rr_empty dI LI (d + 1) n w hd0 hL0 (by rw [pNode.eq_def]; simp [hn3])
  | cons b l1 =>
   have hpn := pn_cons (d := d) (b := b) (l := l1) hn3
   by_cases hb3 : 3 < b.toNat
   ·exact rr_kind dI LI (d + 1) n b l1 hl w hd0 hL0 hb3 (by rw [hpn, if_neg (by omega), if_neg (by omega), if_neg (by omega), if_neg (by omega)])
   by_cases hb0 : b.toNat = 0
   ·rw [if_pos hb0] at hpn
    cases hq : pNum l1 with
    | none => exact rr_xnonum dI LI (d + 1) n b l1 hl w hd0 hL0 (by omega) (by omega) hq (by rw [hpn, hq])
    | some r =>
     obtain ⟨m, l3⟩ := r
     exact rr_int dI LI (d + 1) n b l1 hl w hd0 hL0 hb0 m l3 hq (by rw [hpn, hq])
   rw [if_neg hb0] at hpn
   by_cases hb1 : b.toNat = 1
   ·rw [if_pos hb1] at hpn
    cases hq : pNum l1 with
    | none => exact rr_xnonum dI LI (d + 1) n b l1 hl w hd0 hL0 (by omega) (by omega) hq (by rw [hpn]; simp [pText, pCount, hq])
    | some r =>
     obtain ⟨m, l3⟩ := r
     by_cases hm0 : m < 0
     ·exact rr_xneg dI LI (d + 1) n b l1 hl w hd0 hL0 (by omega) (by omega) hb0 m l3 hq hm0 (by rw [hpn]; simp [pText, pCount, hq, hm0])
     ·have hc : pCount l1 = some (m.toNat, l3) := by unfold pCount; rw [hq]; simp only; rw [if_neg hm0]
      by_cases hm2 : 200 < m
      ·refine rr_tlong dI LI (d + 1) n b l1 hl w hd0 hL0 hb1 m l3 hq hm2 ?_
       have : pText l1 = none := by unfold pText; rw [hc]; simp only; rw [if_pos (.inl (by omega))]
       rw [hpn, this]
      ·by_cases hml : (l3.length : Int) < m
       ·refine rr_tshort dI LI (d + 1) n b l1 hl w hd0 hL0 hb1 m l3 hq (by omega) (by omega) hml ?_
        have : pText l1 = none := by unfold pText; rw [hc]; simp only; rw [if_pos (.inr (by omega))]
        rw [hpn, this]
       ·obtain ⟨M, hM⟩ := Int.eq_ofNat_of_zero_le (show 0 <= m from by omega)
        subst hM
        refine rr_text dI LI (d + 1) n b l1 hl w hd0 hL0 hb1 M l3 hq (by omega) (by omega) ?_
        have : pText l1 = some (l3.take M, l3.drop M) := by unfold pText; rw [hc]; simp only [Int.toNat_natCast]; rw [if_neg (by omega)]
        rw [hpn, this]
   rw [if_neg hb1] at hpn
   by_cases hb2 : b.toNat = 2
   ·rw [if_pos hb2] at hpn
    cases l1 with
    | nil => exact rr_noprim0 dI LI (d + 1) n b [] hl w hd0 hL0 hb2 rfl hpn
    | cons q l2 =>
     simp only at hpn
     cases hpr : Lf.isPrimB q.toNat with
     | false => exact rr_noprim1 dI LI (d + 1) n b (q :: l2) hl w hd0 hL0 q l2 hb2 rfl hpr (by rw [hpn, if_pos hpr])
     | true =>
      rw [if_neg (by rw [hpr]; simp)] at hpn
      cases hq : pNum l2 with
      | none => exact rr_pnonum dI LI (d + 1) n b (q :: l2) hl w hd0 hL0 q l2 hb2 rfl hpr hq (by rw [hpn]; simp [pArgs, pCount, hq])
      | some r =>
       obtain ⟨m, l3⟩ := r
       by_cases hm0 : m < 0
       ·exact rr_pneg dI LI (d + 1) n b (q :: l2) hl w hd0 hL0 q l2 hb2 rfl hpr m l3 hq hm0 (by rw [hpn]; simp [pArgs, pCount, hq, hm0])
       ·obtain ⟨K, hK⟩ := Int.eq_ofNat_of_zero_le (show 0 <= m from by omega)
        subst hK
        refine rr_prim dI LI d n b (q :: l2) hl w hd0 hL0 q l2 hb2 rfl hpr K l3 hq hdI hLI (by omega) (ih (by omega)) (by omega) ?_
        have ha : pArgs (fun n l => pNode d n l) (n + 1) l2 = ArgsAns d n K l3 := by
         unfold pArgs pCount ArgsAns
         rw [hq]; simp only; rw [if_neg hm0]; simp
        rw [hpn, ha]
        unfold wrapA
        cases ArgsAns d n K l3 <;> rfl
   rw [if_neg hb2, if_pos (show b.toNat = 3 by omega)] at hpn
   cases hq : pNum l1 with
   | none => exact rr_xnonum dI LI (d + 1) n b l1 hl w hd0 hL0 (by omega) hb2 hq (by rw [hpn]; simp [pArgs, pCount, hq])
   | some r =>
    obtain ⟨m, l3⟩ := r
    by_cases hm0 : m < 0
    ·exact rr_xneg dI LI (d + 1) n b l1 hl w hd0 hL0 (by omega) hb2 hb0 m l3 hq hm0 (by rw [hpn]; simp [pArgs, pCount, hq, hm0])
    ·obtain ⟨K, hK⟩ := Int.eq_ofNat_of_zero_le (show 0 <= m from by omega)
     subst hK
     refine rr_seq dI LI d n b l1 hl w hd0 hL0 (by omega) K l3 hq hdI hLI (by omega) (ih (by omega)) (by omega) ?_
     have ha : pArgs (fun n l => pNode d n l) (n + 1) l1 = ArgsAns d n K l3 := by
      unfold pArgs pCount ArgsAns
      rw [hq]; simp only; rw [if_neg hm0]; simp
     rw [hpn, ha]
     unfold wrapA
     cases ArgsAns d n K l3 <;> rfl
theorem bs_neD (b : UInt8) (l : List UInt8) : (bs (b :: l)).toList.isEmpty = false := by simp [bs]
def DecPost (l : List UInt8) (w : World) (r : Ending) (w' : World) : Prop := w.grownBy w' none /\ match pDecode l with
 | .ok t => ∃ v, r = .returned (.tuple #[v, .int .i64 0]) /\ Lies (w.heap.size <= ·) w' t v
 | .error e => e ≠ 0 /\ r = .returned (.tuple #[nodeV 0 0 0 ⟨#[]⟩ none 0 0, .int .i64 e])
theorem rdec_any (l : List UInt8) (hl : l.length <= maxLen) (w : World) : Calls Tryz.prog 36 #[.string (bs l)] w (DecPost l w) := by
 have hR := rr_all 24 (by omega) 24 300 0 l (w.alloc (.cells #[.int .i64 0, .int .i64 0, .int .i64 0, .string ⟨#[]⟩, .slice none 0 0] 30)) rfl rfl (by omega) hl
 have HRD := jh hR
 have HR := jh (heap_alloc_new w (.cells #[.int .i64 0, .int .i64 0, .int .i64 0, .string ⟨#[]⟩, .slice none 0 0] 30))
 have hdec : ∀ x, pNode 24 0 l = .error x -> pDecode l = .error x := fun x h => by unfold pDecode; rw [h]
 have hdec1 : ∀ t n' l', pNode 24 0 l = .ok (t, n', l') -> ¬ l' = [] -> pDecode l = .error 1 := fun t n' l' h h2 => by unfold pDecode; rw [h]; simp only; rw [if_neg h2]
 have hdec0 : ∀ t n', pNode 24 0 l = .ok (t, n', []) -> pDecode l = .ok t := fun t n' h => by unfold pDecode; rw [h]; simp
 have H1 := jh hdec
 have H2 := jh hdec1
 have H3 := jh hdec0
 have HSO := jh (fun t n' l' h => pNode_sound 24 (by omega) 0 l t n' l' (by omega) h)
 clear hR hdec hdec1 hdec0 hl
 generalize hs : bs l = s at *
 clear hs
 go_enter Tryz.func36, Tryz.ntmps36
 go_wp2_with fail
 refine HRD.out.mono ?_; rintro e w1 ⟨hg, hp⟩
 have hr1 := (hg.block _ (lt_of_block HR.out) (by simp)).trans HR.out
 obtain ⟨r0, r1, r2, r3, r4⟩ := box5 hr1
 obtain ⟨f0, f1, f2, f3, f4⟩ := box5f hr1
 have lr := lt_of_block hr1
 have HR1 := jh hr1
 have HG1 := jh (Lf.gbt (Lf.gb _) hg)
 cases hq : pNode 24 0 l with
 | error x =>
  rw [hq] at hp
  obtain ⟨hx, rfl⟩ := hp
  have HD := jh (H1.out x hq)
  have hx1 : (x == 0) = false := by simpa using hx
  clear hg hr1 hq HRD
  unfold nodeV
  go_wp2_with fail
  change bodyPost _ _ _ _ _ ((set5 w1 w.heap.size (.int .i64 0) (.int .i64 0) (.int .i64 0) (.string ⟨#[]⟩) (.slice none 0 0)).alloc (.cells #[.int .i64 0, .int .i64 0, .int .i64 0, .string ⟨#[]⟩, .slice none 0 0] 30))
  have hb' := heap_keep (o := .cells #[.int .i64 0, .int .i64 0, .int .i64 0, .string ⟨#[]⟩, .slice none 0 0] 30) (set5_block HR1.out (.int .i64 0) (.int .i64 0) (.int .i64 0) (.string ⟨#[]⟩) (.slice none 0 0))
  have hg' := Lf.gbt (grow_new HG1.out (set5_grow w1 w.heap.size (.int .i64 0) (.int .i64 0) (.int .i64 0) (.string ⟨#[]⟩) (.slice none 0 0)) (Nat.le_refl _)) (Lf.gb (.cells #[.int .i64 0, .int .i64 0, .int .i64 0, .string ⟨#[]⟩, .slice none 0 0] 30))
  generalize (set5 w1 w.heap.size (.int .i64 0) (.int .i64 0) (.int .i64 0) (.string ⟨#[]⟩) (.slice none 0 0)).alloc (.cells #[.int .i64 0, .int .i64 0, .int .i64 0, .string ⟨#[]⟩, .slice none 0 0] 30) = wf at *
  obtain ⟨z0, z1, z2, z3, z4⟩ := box5 hb'
  refine bodyPost_ret (v := .tuple #[nodeV 0 0 0 ⟨#[]⟩ none 0 0, .int .i64 x]) (by simp [results, Tryz.results36, go_sem, z0, z1, z2, z3, z4, nodeV]) rfl ⟨hg', ?_⟩
  rw [HD.out]
  exact ⟨hx, rfl⟩
 | ok y =>
  obtain ⟨t, n', l'⟩ := y
  rw [hq] at hp
  obtain ⟨v, rfl, hLv⟩ := hp
  obtain ⟨kv, nv, pv, sv, av, lv, cv, rfl⟩ := hLv.nodeV
  have hn3 : n' <= 300 := (HSO.out t n' l' hq).2.2.1
  have hn4 : (n' : Int) - ((0 : Nat) : Int) <= 300 := by omega
  cases l' with
  | cons b0 l0 =>
   have HD := jh (H2.out t n' _ hq (by simp))
   have hsb := bs_neD b0 l0
   generalize bs (b0 :: l0) = s2 at *
   clear hg hr1 hq HRD hLv
   unfold nodeV
   go_wp2_with fail
   change bodyPost _ _ _ _ _ ((set5 w1 w.heap.size (.int .i64 0) (.int .i64 0) (.int .i64 0) (.string ⟨#[]⟩) (.slice none 0 0)).alloc (.cells #[.int .i64 kv, .int .i64 nv, .int .i64 pv, .string sv, .slice av lv cv] 30))
   have hb' := heap_keep (o := .cells #[.int .i64 kv, .int .i64 nv, .int .i64 pv, .string sv, .slice av lv cv] 30) (set5_block HR1.out (.int .i64 0) (.int .i64 0) (.int .i64 0) (.string ⟨#[]⟩) (.slice none 0 0))
   have hg' := Lf.gbt (grow_new HG1.out (set5_grow w1 w.heap.size (.int .i64 0) (.int .i64 0) (.int .i64 0) (.string ⟨#[]⟩) (.slice none 0 0)) (Nat.le_refl _)) (Lf.gb (.cells #[.int .i64 kv, .int .i64 nv, .int .i64 pv, .string sv, .slice av lv cv] 30))
   generalize (set5 w1 w.heap.size (.int .i64 0) (.int .i64 0) (.int .i64 0) (.string ⟨#[]⟩) (.slice none 0 0)).alloc (.cells #[.int .i64 kv, .int .i64 nv, .int .i64 pv, .string sv, .slice av lv cv] 30) = wf at *
   obtain ⟨z0, z1, z2, z3, z4⟩ := box5 hb'
   refine bodyPost_ret (v := .tuple #[nodeV 0 0 0 ⟨#[]⟩ none 0 0, .int .i64 1]) (by simp [results, Tryz.results36, go_sem, z0, z1, z2, z3, z4, nodeV]) rfl ⟨hg', ?_⟩
   rw [HD.out]
   exact ⟨by decide, rfl⟩
  | nil =>
   have HD := jh (H3.out t n' hq)
   have hsb : (bs []).toList.isEmpty = true := by simp [bs]
   generalize bs [] = s2 at *
   have HLV := jh hLv
   clear hg hr1 hq HRD hLv
   unfold nodeV
   go_wp2_with fail
   change bodyPost _ _ _ _ _ ((set5 w1 w.heap.size (.int .i64 kv) (.int .i64 nv) (.int .i64 pv) (.string sv) (.slice av lv cv)).alloc (.cells #[.int .i64 kv, .int .i64 nv, .int .i64 pv, .string sv, .slice av lv cv] 30))
   have hb' := heap_keep (o := .cells #[.int .i64 kv, .int .i64 nv, .int .i64 pv, .string sv, .slice av lv cv] 30) (set5_block HR1.out (.int .i64 kv) (.int .i64 nv) (.int .i64 pv) (.string sv) (.slice av lv cv))
   have hgs := grow_trans (set5_grow w1 w.heap.size (.int .i64 kv) (.int .i64 nv) (.int .i64 pv) (.string sv) (.slice av lv cv)) (grow_any (Lf.gb (.cells #[.int .i64 kv, .int .i64 nv, .int .i64 pv, .string sv, .slice av lv cv] 30)))
   have hg' := grow_new HG1.out hgs (Nat.le_refl _)
   generalize (set5 w1 w.heap.size (.int .i64 kv) (.int .i64 nv) (.int .i64 pv) (.string sv) (.slice av lv cv)).alloc (.cells #[.int .i64 kv, .int .i64 nv, .int .i64 pv, .string sv, .slice av lv cv] 30) = wf at *
   obtain ⟨z0, z1, z2, z3, z4⟩ := box5 hb'
   refine bodyPost_ret (v := .tuple #[nodeV kv nv pv sv av lv cv, .int .i64 0]) (by simp [results, Tryz.results36, go_sem, z0, z1, z2, z3, z4, nodeV]) rfl ⟨hg', ?_⟩
   rw [HD.out]
   refine ⟨_, rfl, ?_⟩
   exact (HLV.out.same (w' := wf) (fun b o hb hlt => World.cell?_of_block (hgs.block b hlt (by have : (w.alloc _).heap.size <= b := hb; rw [World.size_alloc] at this; simp; omega)))).okMono (fun b _ hb => by have : (w.alloc _).heap.size <= b := hb; rw [World.size_alloc] at this; show _ <= b; omega)
end Go.Proofs.YthjpngaapflclacGreat
