/- The reader's method number by its contract. -/
import Derived.Test.YtmmgihaoahhkjaaTreeC
namespace Go.Proofs.Ytmmgihaoahhkjaa
set_option maxRecDepth 20000
open Go.ChangeShapes Go.WideShapes Go.ChangeAt Go.RowKit
set_option linter.unusedVariables false

/-- what number leaves -/
def NumPost (w : World) (rb : Nat) (n : Int) (l : List UInt8) (r : Ending) (w' : World) : Prop :=
  w.grownBy w' (some rb) ∧ match pNum l with
    | some (m, l') => r = .returned (.int .i64 m) ∧ Rd w' rb (bs l') n 0
    | none => r = .returned (.int .i64 0) ∧ ∃ s, s.size ≤ maxLen ∧ Rd w' rb s n 1

theorem number_stuck {w : World} {rb : Nat} {s : ByteArray} {n x : Int} (h : Rd w rb s n x) (hs : s.size ≤ maxLen) (hx : x ≠ 0) :
    Calls Try.prog 112 #[.pointer (some ⟨rb, 0, none⟩)] w fun r w' => r = .returned (.int .i64 0) ∧ w' = w := by
  have HT := Lf.hide (octet_stuck h hs hx)
  have a1 : bits .and .i64 0 64 = 0 := by decide
  have a2 : bits .and .i64 0 63 = 0 := by decide
  clear h
  go_enter Try.func112, Try.ntmps112
  go_wp2_with fail
  refine HT.out.mono ?_; rintro e w' ⟨rfl, rfl⟩
  go_wp2_with fail
  refine wp_loop_rounds 1 ?_; rw [rounds_succ]
  go_wp2_with fail
  go_ret
  exact ⟨rfl, rfl⟩

theorem number_nil {w : World} {rb : Nat} {n : Int} (h : Rd w rb (bs []) n 0) :
    Calls Try.prog 112 #[.pointer (some ⟨rb, 0, none⟩)] w (NumPost w rb n []) := by
  have HT := Lf.hide (octet_no h)
  have a1 : bits .and .i64 0 64 = 0 := by decide
  have a2 : bits .and .i64 0 63 = 0 := by decide
  clear h
  go_enter Try.func112, Try.ntmps112
  go_wp2_with fail
  refine HT.out.mono ?_; rintro e w' ⟨rfl, h', hg⟩
  have H' := Lf.hide h'
  have HG := Lf.hide hg
  clear h' hg
  go_wp2_with fail
  refine wp_loop_rounds 1 ?_; rw [rounds_succ]
  go_wp2_with fail
  go_ret
  exact ⟨HG.out, rfl, _, by rw [bs_size]; simp, H'.out⟩

/-- where reading a number stands -/
def NumRel (w : World) (rb : Nat) (n : Int) (f : UInt8) (l : List UInt8) (sz la sh : Value) (wr : World) : Prop :=
  w.grownBy wr (some rb) ∧ ((∃ (k size : Nat) (last : UInt8) (l1 : List UInt8), k ≤ 8 ∧ size < 2 ^ (6 + 7 * (8 - k)) ∧ l1.length ≤ maxLen ∧ sz = .int .i64 size ∧ la = .int .i64 last.toNat ∧ sh = .int .i64 (6 + 7 * (8 - k) : Nat) ∧ Rd wr rb (bs l1) n 0 ∧
        numTail k (6 + 7 * (8 - k)) size last l1 = numTail 8 6 (f.toNat % 64) f l ∧ (128 ≤ last.toNat → 128 ≤ f.toNat)) ∨
        (∃ (size k : Nat) (s : ByteArray), size < 9223372036854775808 ∧ k ≤ 8 ∧ sz = .int .i64 size ∧ la = .int .i64 0 ∧ sh = .int .i64 (6 + 7 * (8 - k) : Nat) ∧ s.size ≤ maxLen ∧ Rd wr rb s n 1 ∧ numTail 8 6 (f.toNat % 64) f l = none ∧ 128 ≤ f.toNat))

theorem pow_lt (k : Nat) (hk : k ≤ 8) : 2 ^ (6 + 7 * (8 - k)) ≤ 4611686018427387904 := by
  have : ∀ k : Fin 9, 2 ^ (6 + 7 * (8 - k.val)) ≤ 4611686018427387904 := by decide +kernel
  exact this ⟨k, by omega⟩

theorem wrap64_nat (x : Nat) (h : x < 9223372036854775808) : wrap64 (x : Int) = (x : Int) := by
  unfold wrap64; omega

theorem or_shl (sh size x : Nat) (h : size < 2 ^ sh) (hx : x < 128) (hs : sh ≤ 55) : bits .or .i64 (size : Int) (wrap64 ((x : Int) * 2 ^ sh)) = ((size + x * 2 ^ sh : Nat) : Int) ∧ size + x * 2 ^ sh < 2 ^ (sh + 7) := by
  have hp : 2 ^ sh ≤ 36028797018963968 := by
    have : (36028797018963968 : Nat) = 2 ^ 55 := by decide +kernel
    rw [this]; exact Nat.pow_le_pow_right (by omega) hs
  have hp0 : 0 < 2 ^ sh := Nat.pow_pos (by omega)
  have hxs : x * 2 ^ sh + 2 ^ sh ≤ 128 * 2 ^ sh := by
    have := Nat.mul_le_mul_right (2 ^ sh) (show x + 1 ≤ 128 by omega)
    rw [Nat.add_mul, Nat.one_mul] at this; exact this
  have e : ((x : Int) * 2 ^ sh) = ((x * 2 ^ sh : Nat) : Int) := by push_cast; rfl
  rw [e, wrap64_nat _ (by omega), or_i64_nat _ _ (by omega) (by omega)]
  have h2 := Nat.two_pow_add_eq_or_of_lt h x
  rw [Nat.or_comm, Nat.mul_comm x, ← h2]
  refine ⟨by congr 1; omega, ?_⟩
  rw [Nat.pow_add, Nat.mul_comm]
  have : (2 : Nat) ^ 7 = 128 := rfl
  rw [this]; omega

theorem rel_start {w w1 : World} {rb : Nat} {n : Int} {f : UInt8} {l : List UInt8} (hl : (f :: l).length ≤ maxLen) (h : Rd w1 rb (bs l) n 0) (hg : w.grownBy w1 (some rb)) {a : Int} (ha : a = ((f.toNat % 64 : Nat) : Int)) :
    NumRel w rb n f l (.int .i64 a) (.int .i64 f.toNat) (.int .i64 6) w1 := by
  subst ha
  exact ⟨hg, .inl ⟨8, f.toNat % 64, f, l, by omega, by show _ < 64; omega, by simp at hl; omega, rfl, rfl, rfl, h, rfl, fun h => h⟩⟩

theorem rel_next {w wr w2 : World} {rb : Nat} {n : Int} {f b last : UInt8} {l l2 : List UInt8} {k size sh : Nat} (hsh : sh = 6 + 7 * (8 - (k + 1))) (hk : k + 1 ≤ 8) (hsz : size < 2 ^ sh) (hl : (b :: l2).length ≤ maxLen)
    (hN : numTail (k + 1) sh size last (b :: l2) = numTail 8 6 (f.toNat % 64) f l) (hlast : 128 ≤ last.toNat) (hf : 128 ≤ f.toNat) (hg : w.grownBy wr (some rb)) (h : Rd w2 rb (bs l2) n 0) (hg2 : wr.grownBy w2 (some rb)) {a : Int} (ha : a = bits .or .i64 (size : Int) (wrap64 (((b.toNat % 128 : Nat) : Int) * 2 ^ sh))) :
    NumRel w rb n f l (.int .i64 a) (.int .i64 b.toNat) (.int .i64 ((sh : Int) + 7)) w2 := by
  have ho := or_shl sh size (b.toNat % 128) hsz (by omega) (by omega)
  rw [ho.1] at ha
  subst ha
  rw [numTail_cons _ _ _ _ _ _ (by omega)] at hN
  have e : 6 + 7 * (8 - k) = sh + 7 := by omega
  exact ⟨grow_trans hg hg2, .inl ⟨k, _, b, l2, by omega, by rw [e]; exact ho.2, by simp at hl; omega, rfl, rfl, by rw [e]; rfl, h, by rw [e]; exact hN, fun _ => hf⟩⟩

theorem rel_gone {w wr w2 : World} {rb : Nat} {n : Int} {f last : UInt8} {l : List UInt8} {k size sh : Nat} (hsh : sh = 6 + 7 * (8 - (k + 1))) (hk : k + 1 ≤ 8) (hsz : size < 2 ^ sh)
    (hN : numTail (k + 1) sh size last [] = numTail 8 6 (f.toNat % 64) f l) (hlast : 128 ≤ last.toNat) (hf : 128 ≤ f.toNat) (hg : w.grownBy wr (some rb)) (h : Rd w2 rb (bs []) n 1) (hg2 : wr.grownBy w2 (some rb)) {a : Int} (ha : a = bits .or .i64 (size : Int) 0) :
    NumRel w rb n f l (.int .i64 a) (.int .i64 0) (.int .i64 ((sh : Int) + 7)) w2 := by
  have hp := pow_lt (k + 1) hk
  rw [← hsh] at hp
  have ho := or_i64_nat size 0 (by omega) (by omega)
  rw [Nat.or_zero] at ho
  rw [show ((0 : Nat) : Int) = 0 from rfl] at ho
  rw [ho] at ha
  subst ha
  rw [numTail_nil _ _ _ _ (by omega)] at hN
  have e : 6 + 7 * (8 - k) = sh + 7 := by omega
  exact ⟨grow_trans hg hg2, .inr ⟨size, k, _, by omega, by omega, rfl, rfl, by rw [e]; rfl, by rw [bs_size]; simp, h, hN.symm, hf⟩⟩

theorem post_none {w w' : World} {rb : Nat} {n : Int} {l : List UInt8} {s : ByteArray} (hp : pNum l = none) (hg : w.grownBy w' (some rb)) (hs : s.size ≤ maxLen) (h : Rd w' rb s n 1) : NumPost w rb n l (.returned (.int .i64 0)) w' := by
  refine ⟨hg, ?_⟩; rw [hp]; exact ⟨rfl, s, hs, h⟩

theorem post_some {w w' : World} {rb : Nat} {n m m' : Int} {l l' : List UInt8} (hp : pNum l = some (m, l')) (hm : m' = m) (hg : w.grownBy w' (some rb)) (h : Rd w' rb (bs l') n 0) : NumPost w rb n l (.returned (.int .i64 m')) w' := by
  subst hm
  refine ⟨hg, ?_⟩; rw [hp]; exact ⟨rfl, h⟩

set_option maxHeartbeats 1000000 in
set_option maxRecDepth 100000 in
theorem number_pos {w : World} {rb : Nat} {n : Int} {f : UInt8} {l : List UInt8} (h : Rd w rb (bs (f :: l)) n 0) (hl : (f :: l).length ≤ maxLen) (hneg : f.toNat / 64 % 2 = 0) :
    Calls Try.prog 112 #[.pointer (some ⟨rb, 0, none⟩)] w (NumPost w rb n (f :: l)) := by
  have HT := Lf.hide (octet_ok h hl)
  have hf := f.toNat_lt
  have a1 := and64 f.toNat (by omega)
  rw [hneg, show (((0 : Nat) * 64 : Nat) : Int) = 0 from rfl] at a1
  have a2 := and63 f.toNat (by omega)
  have HSN := Lf.hide hneg
  have HL := Lf.hide hl
  clear h hneg hl
  go_enter Try.func112, Try.ntmps112
  go_wp2_with fail
  refine HT.out.mono ?_; rintro e w1 ⟨rfl, h1, hg1⟩
  have H1 := Lf.hide h1
  have HG1 := Lf.hide hg1
  clear h1 hg1
  go_wp2_with fail
  go_loopw [5, 6, 7] (fun sz la sh wr => NumRel w rb n f l sz la sh wr) (fun sz la sh wr => (2 * (100 - intOf sh)).toNat)
  case atStart => exact rel_start HL.out H1.out HG1.out (by push_cast; rfl)
  case round =>
    obtain ⟨hg, hr⟩ := hrel
    rcases hr with ⟨k, size, last, l1, hk, hsz, hl1, rfl, rfl, rfl, hR, hN, hF⟩ | ⟨size, k, s, hsz, hk, rfl, rfl, rfl, hs, hR, hN, hF⟩
    · by_cases hlast : 128 ≤ last.toNat
      · have hF := hF hlast
        cases k with
        | zero =>
          have HP : Hid (pNum (f :: l) = none) := by
            show _ = _
            rw [numTail.eq_def] at hN; simp [show ¬ last.toNat < 128 by omega] at hN
            rw [pNum, ← hN]
          have HFL := Lf.hide (fail_ok hR 1)
          have HG := Lf.hide hg
          have HS : Hid ((bs l1).size ≤ maxLen) := by show _ ≤ _; rw [bs_size]; exact hl1
          clear hR hN hsz hl1 hg hF
          go_wp2_with (go_at_call 124; refine (len61 _).mono ?_; rintro e w' ⟨rfl, rfl⟩)
          refine HFL.out.mono ?_; rintro e w2 ⟨rfl, h2, hg2⟩
          have H2 := Lf.hide h2
          have HG2 := Lf.hide hg2
          clear h2 hg2
          go_wp2_with fail
          go_ret
          exact post_none HP.out (grow_trans HG.out HG2.out) HS.out H2.out
        | succ k =>
          obtain ⟨sh, hsh⟩ : ∃ sh, sh = 6 + 7 * (8 - (k + 1)) := ⟨_, rfl⟩
          rw [← hsh] at hN hsz ⊢
          have hsh1 : 6 ≤ sh := by omega
          have hsh2 : sh ≤ 55 := by omega
          have HSH := Lf.hide hsh
          have HN := Lf.hide hN
          have HSZ := Lf.hide hsz
          have HL1 := Lf.hide hl1
          have HF := Lf.hide hF
          have HG := Lf.hide hg
          cases l1 with
          | nil =>
            have hO := Lf.hide (octet_no hR)
            have a4 : bits .and .i64 0 127 = 0 := by decide
            clear hsh hR hN hsz hl1 hF hg
            go_wp2_with (go_at_call 124; refine (len61 _).mono ?_; rintro e w' ⟨rfl, rfl⟩)
            refine hO.out.mono ?_; rintro e w2 ⟨rfl, h2, hg2⟩
            have H2 := Lf.hide h2
            have HG2 := Lf.hide hg2
            clear h2 hg2
            go_wp2_with fail
            go_roundw
            case rel => exact rel_gone HSH.out hk HSZ.out HN.out hlast HF.out HG.out H2.out HG2.out (by simp)
            case measure => simp [intOf]; omega
          | cons b l2 =>
            have hO := Lf.hide (octet_ok hR hl1)
            have a4 := and127 b.toNat (by have := b.toNat_lt; omega)
            clear hsh hR hN hsz hl1 hF hg
            go_wp2_with (go_at_call 124; refine (len61 _).mono ?_; rintro e w' ⟨rfl, rfl⟩)
            refine hO.out.mono ?_; rintro e w2 ⟨rfl, h2, hg2⟩
            have H2 := Lf.hide h2
            have HG2 := Lf.hide hg2
            clear h2 hg2
            go_wp2_with fail
            go_roundw
            case rel => exact rel_next HSH.out hk HSZ.out HL1.out HN.out hlast HF.out HG.out H2.out HG2.out (by push_cast; rfl)
            case measure => simp [intOf]; omega
      · rw [numTail_lo _ _ _ _ _ (by omega)] at hN
        have HPN : Hid (pNum (f :: l) = if (128 ≤ f.toNat ∧ last.toNat = 0) ∨ 1152921504606846976 < size ∨ (f.toNat / 64 % 2 = 1 ∧ size = 0) then none else some (if f.toNat / 64 % 2 = 1 then -(size : Int) else size, l1)) := by show _ = _; rw [pNum, ← hN]
        have hp := pow_lt k hk
        have HFL := Lf.hide (fail_ok hR 1)
        have HR := Lf.hide hR
        have HG := Lf.hide hg
        have HS : Hid ((bs l1).size ≤ maxLen) := by show _ ≤ _; rw [bs_size]; exact hl1
        have hsz2 : size < 4611686018427387904 := by omega
        clear hR hN hsz hl1 hg hF hp hk
        by_cases h3 : 1152921504606846976 < size
        · by_cases h1 : 128 ≤ f.toNat
          · by_cases h2 : last.toNat = 0
            · go_wp2_with fail
              refine HFL.out.mono ?_; rintro e w2 ⟨rfl, h2', hg2⟩
              have H2 := Lf.hide h2'
              have HG2 := Lf.hide hg2
              clear h2' hg2
              go_wp2_with fail
              go_ret
              exact post_none (by rw [HPN.out, if_pos (by omega)]) (grow_trans HG.out HG2.out) HS.out H2.out
            · go_wp2_with fail
              refine HFL.out.mono ?_; rintro e w2 ⟨rfl, h2', hg2⟩
              have H2 := Lf.hide h2'
              have HG2 := Lf.hide hg2
              clear h2' hg2
              go_wp2_with fail
              go_ret
              exact post_none (by rw [HPN.out, if_pos (by omega)]) (grow_trans HG.out HG2.out) HS.out H2.out
          · go_wp2_with fail
            refine HFL.out.mono ?_; rintro e w2 ⟨rfl, h2', hg2⟩
            have H2 := Lf.hide h2'
            have HG2 := Lf.hide hg2
            clear h2' hg2
            go_wp2_with fail
            go_ret
            exact post_none (by rw [HPN.out, if_pos (by omega)]) (grow_trans HG.out HG2.out) HS.out H2.out
        · by_cases h4 : size = 0
          · by_cases h1 : 128 ≤ f.toNat
            · by_cases h2 : last.toNat = 0
              · go_wp2_with fail
                refine HFL.out.mono ?_; rintro e w2 ⟨rfl, h2', hg2⟩
                have H2 := Lf.hide h2'
                have HG2 := Lf.hide hg2
                clear h2' hg2
                go_wp2_with fail
                go_ret
                exact post_none (by rw [HPN.out, if_pos (by omega)]) (grow_trans HG.out HG2.out) HS.out H2.out
              · have h2b : ((last.toNat : Int) == 0) = false := by simp; omega
                go_wp2_with fail
                have hsn := HSN.out
                first
                | (go_ret
                   exact post_some (by rw [HPN.out, if_neg (by omega)]) (by split <;> omega) HG.out HR.out)
                | (refine HFL.out.mono ?_; rintro e w2 ⟨rfl, h2', hg2⟩
                   have H2 := Lf.hide h2'
                   have HG2 := Lf.hide hg2
                   clear h2' hg2
                   go_wp2_with fail
                   go_ret
                   exact post_none (by rw [HPN.out, if_pos (by omega)]) (grow_trans HG.out HG2.out) HS.out H2.out)
            · go_wp2_with fail
              have hsn := HSN.out
              first
              | (go_ret
                 exact post_some (by rw [HPN.out, if_neg (by omega)]) (by split <;> omega) HG.out HR.out)
              | (refine HFL.out.mono ?_; rintro e w2 ⟨rfl, h2', hg2⟩
                 have H2 := Lf.hide h2'
                 have HG2 := Lf.hide hg2
                 clear h2' hg2
                 go_wp2_with fail
                 go_ret
                 exact post_none (by rw [HPN.out, if_pos (by omega)]) (grow_trans HG.out HG2.out) HS.out H2.out)
          · have h4' : ((size : Int) == 0) = false := by simp; omega
            have h4'' : -(size : Int) ≠ 0 := by omega
            by_cases h1 : 128 ≤ f.toNat
            · by_cases h2 : last.toNat = 0
              · go_wp2_with fail
                refine HFL.out.mono ?_; rintro e w2 ⟨rfl, h2', hg2⟩
                have H2 := Lf.hide h2'
                have HG2 := Lf.hide hg2
                clear h2' hg2
                go_wp2_with fail
                go_ret
                exact post_none (by rw [HPN.out, if_pos (by omega)]) (grow_trans HG.out HG2.out) HS.out H2.out
              · have h2b : ((last.toNat : Int) == 0) = false := by simp; omega
                go_wp2_with fail
                have hsn := HSN.out
                go_ret
                exact post_some (by rw [HPN.out, if_neg (by omega)]) (by split <;> omega) HG.out HR.out
            · go_wp2_with fail
              have hsn := HSN.out
              go_ret
              exact post_some (by rw [HPN.out, if_neg (by omega)]) (by split <;> omega) HG.out HR.out
    · have HP : Hid (pNum (f :: l) = none) := by
        show _ = _
        rw [pNum, hN]
      have HFL := Lf.hide (fail_stuck hR (by decide) 1)
      have HR := Lf.hide hR
      have HG := Lf.hide hg
      have HS := Lf.hide hs
      clear hR hN hs hg
      have hF' : (128 : Int) ≤ f.toNat := by omega
      go_wp2_with fail
      refine HFL.out.mono ?_; rintro e w2 ⟨rfl, rfl⟩
      go_wp2_with fail
      go_ret
      exact post_none HP.out HG.out HS.out HR.out
set_option maxHeartbeats 1000000 in
set_option maxRecDepth 100000 in
theorem number_neg {w : World} {rb : Nat} {n : Int} {f : UInt8} {l : List UInt8} (h : Rd w rb (bs (f :: l)) n 0) (hl : (f :: l).length ≤ maxLen) (hneg : f.toNat / 64 % 2 = 1) :
    Calls Try.prog 112 #[.pointer (some ⟨rb, 0, none⟩)] w (NumPost w rb n (f :: l)) := by
  have HT := Lf.hide (octet_ok h hl)
  have hf := f.toNat_lt
  have a1 := and64 f.toNat (by omega)
  rw [hneg, show (((1 : Nat) * 64 : Nat) : Int) = 64 from rfl] at a1
  have a2 := and63 f.toNat (by omega)
  have HSN := Lf.hide hneg
  have HL := Lf.hide hl
  clear h hneg hl
  go_enter Try.func112, Try.ntmps112
  go_wp2_with fail
  refine HT.out.mono ?_; rintro e w1 ⟨rfl, h1, hg1⟩
  have H1 := Lf.hide h1
  have HG1 := Lf.hide hg1
  clear h1 hg1
  go_wp2_with fail
  go_loopw [5, 6, 7] (fun sz la sh wr => NumRel w rb n f l sz la sh wr) (fun sz la sh wr => (2 * (100 - intOf sh)).toNat)
  case atStart => exact rel_start HL.out H1.out HG1.out (by push_cast; rfl)
  case round =>
    obtain ⟨hg, hr⟩ := hrel
    rcases hr with ⟨k, size, last, l1, hk, hsz, hl1, rfl, rfl, rfl, hR, hN, hF⟩ | ⟨size, k, s, hsz, hk, rfl, rfl, rfl, hs, hR, hN, hF⟩
    · by_cases hlast : 128 ≤ last.toNat
      · have hF := hF hlast
        cases k with
        | zero =>
          have HP : Hid (pNum (f :: l) = none) := by
            show _ = _
            rw [numTail.eq_def] at hN; simp [show ¬ last.toNat < 128 by omega] at hN
            rw [pNum, ← hN]
          have HFL := Lf.hide (fail_ok hR 1)
          have HG := Lf.hide hg
          have HS : Hid ((bs l1).size ≤ maxLen) := by show _ ≤ _; rw [bs_size]; exact hl1
          clear hR hN hsz hl1 hg hF
          go_wp2_with (go_at_call 124; refine (len61 _).mono ?_; rintro e w' ⟨rfl, rfl⟩)
          refine HFL.out.mono ?_; rintro e w2 ⟨rfl, h2, hg2⟩
          have H2 := Lf.hide h2
          have HG2 := Lf.hide hg2
          clear h2 hg2
          go_wp2_with fail
          go_ret
          exact post_none HP.out (grow_trans HG.out HG2.out) HS.out H2.out
        | succ k =>
          obtain ⟨sh, hsh⟩ : ∃ sh, sh = 6 + 7 * (8 - (k + 1)) := ⟨_, rfl⟩
          rw [← hsh] at hN hsz ⊢
          have hsh1 : 6 ≤ sh := by omega
          have hsh2 : sh ≤ 55 := by omega
          have HSH := Lf.hide hsh
          have HN := Lf.hide hN
          have HSZ := Lf.hide hsz
          have HL1 := Lf.hide hl1
          have HF := Lf.hide hF
          have HG := Lf.hide hg
          cases l1 with
          | nil =>
            have hO := Lf.hide (octet_no hR)
            have a4 : bits .and .i64 0 127 = 0 := by decide
            clear hsh hR hN hsz hl1 hF hg
            go_wp2_with (go_at_call 124; refine (len61 _).mono ?_; rintro e w' ⟨rfl, rfl⟩)
            refine hO.out.mono ?_; rintro e w2 ⟨rfl, h2, hg2⟩
            have H2 := Lf.hide h2
            have HG2 := Lf.hide hg2
            clear h2 hg2
            go_wp2_with fail
            go_roundw
            case rel => exact rel_gone HSH.out hk HSZ.out HN.out hlast HF.out HG.out H2.out HG2.out (by simp)
            case measure => simp [intOf]; omega
          | cons b l2 =>
            have hO := Lf.hide (octet_ok hR hl1)
            have a4 := and127 b.toNat (by have := b.toNat_lt; omega)
            clear hsh hR hN hsz hl1 hF hg
            go_wp2_with (go_at_call 124; refine (len61 _).mono ?_; rintro e w' ⟨rfl, rfl⟩)
            refine hO.out.mono ?_; rintro e w2 ⟨rfl, h2, hg2⟩
            have H2 := Lf.hide h2
            have HG2 := Lf.hide hg2
            clear h2 hg2
            go_wp2_with fail
            go_roundw
            case rel => exact rel_next HSH.out hk HSZ.out HL1.out HN.out hlast HF.out HG.out H2.out HG2.out (by push_cast; rfl)
            case measure => simp [intOf]; omega
      · rw [numTail_lo _ _ _ _ _ (by omega)] at hN
        have HPN : Hid (pNum (f :: l) = if (128 ≤ f.toNat ∧ last.toNat = 0) ∨ 1152921504606846976 < size ∨ (f.toNat / 64 % 2 = 1 ∧ size = 0) then none else some (if f.toNat / 64 % 2 = 1 then -(size : Int) else size, l1)) := by show _ = _; rw [pNum, ← hN]
        have hp := pow_lt k hk
        have HFL := Lf.hide (fail_ok hR 1)
        have HR := Lf.hide hR
        have HG := Lf.hide hg
        have HS : Hid ((bs l1).size ≤ maxLen) := by show _ ≤ _; rw [bs_size]; exact hl1
        have hsz2 : size < 4611686018427387904 := by omega
        clear hR hN hsz hl1 hg hF hp hk
        by_cases h3 : 1152921504606846976 < size
        · by_cases h1 : 128 ≤ f.toNat
          · by_cases h2 : last.toNat = 0
            · go_wp2_with fail
              refine HFL.out.mono ?_; rintro e w2 ⟨rfl, h2', hg2⟩
              have H2 := Lf.hide h2'
              have HG2 := Lf.hide hg2
              clear h2' hg2
              go_wp2_with fail
              go_ret
              exact post_none (by rw [HPN.out, if_pos (by omega)]) (grow_trans HG.out HG2.out) HS.out H2.out
            · go_wp2_with fail
              refine HFL.out.mono ?_; rintro e w2 ⟨rfl, h2', hg2⟩
              have H2 := Lf.hide h2'
              have HG2 := Lf.hide hg2
              clear h2' hg2
              go_wp2_with fail
              go_ret
              exact post_none (by rw [HPN.out, if_pos (by omega)]) (grow_trans HG.out HG2.out) HS.out H2.out
          · go_wp2_with fail
            refine HFL.out.mono ?_; rintro e w2 ⟨rfl, h2', hg2⟩
            have H2 := Lf.hide h2'
            have HG2 := Lf.hide hg2
            clear h2' hg2
            go_wp2_with fail
            go_ret
            exact post_none (by rw [HPN.out, if_pos (by omega)]) (grow_trans HG.out HG2.out) HS.out H2.out
        · by_cases h4 : size = 0
          · by_cases h1 : 128 ≤ f.toNat
            · by_cases h2 : last.toNat = 0
              · go_wp2_with fail
                refine HFL.out.mono ?_; rintro e w2 ⟨rfl, h2', hg2⟩
                have H2 := Lf.hide h2'
                have HG2 := Lf.hide hg2
                clear h2' hg2
                go_wp2_with fail
                go_ret
                exact post_none (by rw [HPN.out, if_pos (by omega)]) (grow_trans HG.out HG2.out) HS.out H2.out
              · have h2b : ((last.toNat : Int) == 0) = false := by simp; omega
                go_wp2_with fail
                have hsn := HSN.out
                first
                | (go_ret
                   exact post_some (by rw [HPN.out, if_neg (by omega)]) (by split <;> omega) HG.out HR.out)
                | (refine HFL.out.mono ?_; rintro e w2 ⟨rfl, h2', hg2⟩
                   have H2 := Lf.hide h2'
                   have HG2 := Lf.hide hg2
                   clear h2' hg2
                   go_wp2_with fail
                   go_ret
                   exact post_none (by rw [HPN.out, if_pos (by omega)]) (grow_trans HG.out HG2.out) HS.out H2.out)
            · go_wp2_with fail
              have hsn := HSN.out
              first
              | (go_ret
                 exact post_some (by rw [HPN.out, if_neg (by omega)]) (by split <;> omega) HG.out HR.out)
              | (refine HFL.out.mono ?_; rintro e w2 ⟨rfl, h2', hg2⟩
                 have H2 := Lf.hide h2'
                 have HG2 := Lf.hide hg2
                 clear h2' hg2
                 go_wp2_with fail
                 go_ret
                 exact post_none (by rw [HPN.out, if_pos (by omega)]) (grow_trans HG.out HG2.out) HS.out H2.out)
          · have h4' : ((size : Int) == 0) = false := by simp; omega
            have h4'' : -(size : Int) ≠ 0 := by omega
            by_cases h1 : 128 ≤ f.toNat
            · by_cases h2 : last.toNat = 0
              · go_wp2_with fail
                refine HFL.out.mono ?_; rintro e w2 ⟨rfl, h2', hg2⟩
                have H2 := Lf.hide h2'
                have HG2 := Lf.hide hg2
                clear h2' hg2
                go_wp2_with fail
                go_ret
                exact post_none (by rw [HPN.out, if_pos (by omega)]) (grow_trans HG.out HG2.out) HS.out H2.out
              · have h2b : ((last.toNat : Int) == 0) = false := by simp; omega
                go_wp2_with fail
                have hsn := HSN.out
                go_ret
                exact post_some (by rw [HPN.out, if_neg (by omega)]) (by split <;> omega) HG.out HR.out
            · go_wp2_with fail
              have hsn := HSN.out
              go_ret
              exact post_some (by rw [HPN.out, if_neg (by omega)]) (by split <;> omega) HG.out HR.out
    · have HP : Hid (pNum (f :: l) = none) := by
        show _ = _
        rw [pNum, hN]
      have HFL := Lf.hide (fail_stuck hR (by decide) 1)
      have HR := Lf.hide hR
      have HG := Lf.hide hg
      have HS := Lf.hide hs
      clear hR hN hs hg
      have hF' : (128 : Int) ≤ f.toNat := by omega
      go_wp2_with fail
      refine HFL.out.mono ?_; rintro e w2 ⟨rfl, rfl⟩
      go_wp2_with fail
      go_ret
      exact post_none HP.out HG.out HS.out HR.out
theorem number_any {w : World} {rb : Nat} {n : Int} {l : List UInt8} (h : Rd w rb (bs l) n 0) (hl : l.length ≤ maxLen) :
    Calls Try.prog 112 #[.pointer (some ⟨rb, 0, none⟩)] w (NumPost w rb n l) := by
  cases l with
  | nil => exact number_nil h
  | cons f l =>
    rcases (show f.toNat / 64 % 2 = 0 ∨ f.toNat / 64 % 2 = 1 from by omega) with h0 | h1
    · exact number_pos h hl h0
    · exact number_neg h hl h1

/-- what count leaves -/
def pCount (l : List UInt8) : Option (Nat × List UInt8) := match pNum l with
  | some (m, l') => if m < 0 then none else some (m.toNat, l')
  | none => none

theorem count_ok {w : World} {rb : Nat} {n : Int} {l l' : List UInt8} {m : Nat} (h : Rd w rb (bs l) n 0) (hl : l.length ≤ maxLen) (hp : pCount l = some (m, l')) :
    Calls Try.prog 125 #[.pointer (some ⟨rb, 0, none⟩)] w fun r w' => r = .returned (.int .i64 m) ∧ w.grownBy w' (some rb) ∧ Rd w' rb (bs l') n 0 := by
  have HT := Lf.hide (number_any h hl)
  clear h hl
  unfold pCount at hp
  cases hq : pNum l with
  | none => rw [hq] at hp; simp at hp
  | some r =>
    obtain ⟨x, l1⟩ := r
    rw [hq] at hp
    simp only at hp
    by_cases hx : x < 0
    · rw [if_pos hx] at hp; simp at hp
    · rw [if_neg hx] at hp
      simp only [Option.some.injEq, Prod.mk.injEq] at hp
      obtain ⟨rfl, rfl⟩ := hp
      have HQ := Lf.hide hq
      clear hq
      have hx2 : ((x.toNat : Nat) : Int) = x := by omega
      rw [hx2]
      go_enter Try.func125, Try.ntmps125
      go_wp2_with fail
      refine HT.out.mono ?_; rintro e w1 ⟨hg, hr⟩
      rw [HQ.out] at hr
      obtain ⟨rfl, hr⟩ := hr
      have HR := Lf.hide hr
      have HG := Lf.hide hg
      clear hr hg
      go_wp2_with fail
      go_ret
      exact ⟨rfl, HG.out, HR.out⟩

theorem count_no {w : World} {rb : Nat} {n : Int} {l : List UInt8} (h : Rd w rb (bs l) n 0) (hl : l.length ≤ maxLen) (hp : pCount l = none) :
    Calls Try.prog 125 #[.pointer (some ⟨rb, 0, none⟩)] w fun r w' => r = .returned (.int .i64 0) ∧ w.grownBy w' (some rb) ∧ ∃ s, s.size ≤ maxLen ∧ Rd w' rb s n 1 := by
  have HT := Lf.hide (number_any h hl)
  have hlen : ∀ x l1, pNum l = some (x, l1) → l1.length ≤ maxLen := fun x l1 e => by
    have := (pNum_sound e).2; rw [this, List.length_append] at hl; omega
  clear h hl
  unfold pCount at hp
  cases hq : pNum l with
  | none =>
    have HQ := Lf.hide hq
    clear hq hp
    go_enter Try.func125, Try.ntmps125
    go_wp2_with fail
    refine HT.out.mono ?_; rintro e w1 ⟨hg, hr⟩
    rw [HQ.out] at hr
    obtain ⟨rfl, hr⟩ := hr
    have HR := Lf.hide hr
    have HG := Lf.hide hg
    clear hr hg
    go_wp2_with fail
    go_ret
    exact ⟨rfl, HG.out, HR.out⟩
  | some r =>
    obtain ⟨x, l1⟩ := r
    have hl1 := hlen x l1 hq
    rw [hq] at hp
    simp only at hp
    by_cases hx : x < 0
    · have HQ := Lf.hide hq
      clear hq hp
      go_enter Try.func125, Try.ntmps125
      go_wp2_with fail
      refine HT.out.mono ?_; rintro e w1 ⟨hg, hr⟩
      rw [HQ.out] at hr
      obtain ⟨rfl, hr⟩ := hr
      have HR := Lf.hide hr
      have HG := Lf.hide hg
      clear hr hg
      go_wp2_with fail
      refine (fail_ok HR.out 1).mono ?_; rintro e w2 ⟨rfl, h2, hg2⟩
      have HR2 := Lf.hide h2
      have HG2 := Lf.hide hg2
      clear h2 hg2
      go_wp2_with fail
      go_ret
      exact ⟨rfl, grow_trans HG.out HG2.out, _, by rw [bs_size]; exact hl1, HR2.out⟩
    · rw [if_neg hx] at hp; simp at hp

theorem count_stuck {w : World} {rb : Nat} {s : ByteArray} {n x : Int} (h : Rd w rb s n x) (hs : s.size ≤ maxLen) (hx : x ≠ 0) :
    Calls Try.prog 125 #[.pointer (some ⟨rb, 0, none⟩)] w fun r w' => r = .returned (.int .i64 0) ∧ w' = w := by
  have HT := Lf.hide (number_stuck h hs hx)
  clear h
  go_enter Try.func125, Try.ntmps125
  go_wp2_with fail
  refine HT.out.mono ?_; rintro e w' ⟨rfl, rfl⟩
  go_wp2_with fail
  go_ret
  exact ⟨rfl, rfl⟩

/-- a text -/
def pText (l : List UInt8) : Option (List UInt8 × List UInt8) := match pCount l with
  | some (m, l') => if 200 < m ∨ l'.length < m then none else some (l'.take m, l'.drop m)
  | none => none

theorem pCount_len {l l' : List UInt8} {m : Nat} (h : pCount l = some (m, l')) : l'.length ≤ l.length := by
  unfold pCount at h
  cases hq : pNum l with
  | none => rw [hq] at h; simp at h
  | some r =>
    obtain ⟨x, l1⟩ := r
    have := (pNum_sound hq).2
    rw [hq] at h
    simp only at h
    by_cases hx : x < 0
    · rw [if_pos hx] at h; simp at h
    · rw [if_neg hx] at h
      simp only [Option.some.injEq, Prod.mk.injEq] at h
      obtain ⟨_, rfl⟩ := h
      rw [this, List.length_append]; omega

theorem text_ok {w : World} {rb : Nat} {n : Int} {l s l' : List UInt8} (h : Rd w rb (bs l) n 0) (hl : l.length ≤ maxLen) (hp : pText l = some (s, l')) :
    Calls Try.prog 113 #[.pointer (some ⟨rb, 0, none⟩)] w fun r w' => r = .returned (.string (bs s)) ∧ w.grownBy w' (some rb) ∧ Rd w' rb (bs l') n 0 := by
  unfold pText at hp
  cases hq : pCount l with
  | none => rw [hq] at hp; simp at hp
  | some r =>
    obtain ⟨m, l1⟩ := r
    have HT := Lf.hide (count_ok h hl hq)
    have hl1 := pCount_len hq
    rw [hq] at hp
    simp only at hp
    by_cases hc : 200 < m ∨ l1.length < m
    · rw [if_pos hc] at hp; simp at hp
    rw [if_neg hc] at hp
    simp only [Option.some.injEq, Prod.mk.injEq] at hp
    obtain ⟨rfl, rfl⟩ := hp
    have hm : (m : Int) ≤ 200 := by omega
    have hm2 : m ≤ l1.length := by omega
    have hl2 : l1.length ≤ maxLen := by omega
    clear h hl hq hl1 hc
    go_enter Try.func113, Try.ntmps113
    go_wp2_with fail
    refine HT.out.mono ?_; rintro e w1 ⟨rfl, hg, hr⟩
    have HR := Lf.hide hr
    have HG := Lf.hide hg
    clear hr hg
    go_wp2_with fail
    refine (take_ok HR.out hl2 m hm2).mono ?_; rintro e w2 ⟨rfl, h2, hg2⟩
    have HR2 := Lf.hide h2
    have HG2 := Lf.hide hg2
    clear h2 hg2
    go_wp2_with fail
    go_ret
    exact ⟨rfl, grow_trans HG.out HG2.out, HR2.out⟩

theorem text_no {w : World} {rb : Nat} {n : Int} {l : List UInt8} (h : Rd w rb (bs l) n 0) (hl : l.length ≤ maxLen) (hp : pText l = none) :
    Calls Try.prog 113 #[.pointer (some ⟨rb, 0, none⟩)] w fun r w' => r = .returned (.string ⟨#[]⟩) ∧ w.grownBy w' (some rb) ∧ ∃ s, s.size ≤ maxLen ∧ Rd w' rb s n 1 := by
  unfold pText at hp
  cases hq : pCount l with
  | none =>
    have HT := Lf.hide (count_no h hl hq)
    clear h hl hp hq
    go_enter Try.func113, Try.ntmps113
    go_wp2_with fail
    refine HT.out.mono ?_; rintro e w1 ⟨rfl, hg, s, hs, hr⟩
    have HR := Lf.hide hr
    have HG := Lf.hide hg
    clear hr hg
    go_wp2_with fail
    refine (take_stuck HR.out hs (by decide) 0).mono ?_; rintro e w2 ⟨rfl, rfl⟩
    go_wp2_with fail
    go_ret
    exact ⟨rfl, HG.out, s, hs, HR.out⟩
  | some r =>
    obtain ⟨m, l1⟩ := r
    have HT := Lf.hide (count_ok h hl hq)
    have hl1 := pCount_len hq
    have hl2 : l1.length ≤ maxLen := by omega
    rw [hq] at hp
    simp only at hp
    by_cases hc : 200 < m ∨ l1.length < m
    · clear h hl hq hl1 hp
      by_cases h200 : 200 < m
      · have h200' : (200 : Int) < m := by omega
        go_enter Try.func113, Try.ntmps113
        go_wp2_with fail
        refine HT.out.mono ?_; rintro e w1 ⟨rfl, hg, hr⟩
        have HR := Lf.hide hr
        have HG := Lf.hide hg
        clear hr hg
        go_wp2_with fail
        refine (fail_ok HR.out 1).mono ?_; rintro e w2 ⟨rfl, h2, hg2⟩
        have HR2 := Lf.hide h2
        have HG2 := Lf.hide hg2
        clear h2 hg2
        go_wp2_with fail
        refine (take_stuck HR2.out (by rw [bs_size]; exact hl2) (by decide) m).mono ?_; rintro e w3 ⟨rfl, rfl⟩
        go_wp2_with fail
        go_ret
        exact ⟨rfl, grow_trans HG.out HG2.out, _, by rw [bs_size]; exact hl2, HR2.out⟩
      · have h200' : (m : Int) ≤ 200 := by omega
        have hm2 : (l1.length : Int) < m := by omega
        go_enter Try.func113, Try.ntmps113
        go_wp2_with fail
        refine HT.out.mono ?_; rintro e w1 ⟨rfl, hg, hr⟩
        have HR := Lf.hide hr
        have HG := Lf.hide hg
        clear hr hg
        go_wp2_with fail
        refine (take_no HR.out hl2 m hm2).mono ?_; rintro e w2 ⟨rfl, h2, hg2⟩
        have HR2 := Lf.hide h2
        have HG2 := Lf.hide hg2
        clear h2 hg2
        go_wp2_with fail
        go_ret
        exact ⟨rfl, grow_trans HG.out HG2.out, _, by rw [bs_size]; exact hl2, HR2.out⟩
    · rw [if_neg hc] at hp; simp at hp

theorem primR_ok {w : World} {rb : Nat} {n : Int} {b : UInt8} {l : List UInt8} (h : Rd w rb (bs (b :: l)) n 0) (hl : (b :: l).length ≤ maxLen) (hp : Lf.isPrimB b.toNat = true) :
    Calls Try.prog 114 #[.pointer (some ⟨rb, 0, none⟩)] w fun r w' => r = .returned (.int .i64 b.toNat) ∧ w.grownBy w' (some rb) ∧ Rd w' rb (bs l) n 0 := by
  have HT := Lf.hide (octet_ok h hl)
  clear h hl
  go_enter Try.func114, Try.ntmps114
  go_wp2_with fail
  refine HT.out.mono ?_; rintro e w1 ⟨rfl, hr, hg⟩
  have HR := Lf.hide hr
  have HG := Lf.hide hg
  clear hr hg
  go_wp2_with fail
  refine (Lf.isPrim_any _ _).mono ?_; rintro e w2 ⟨rfl, rfl⟩
  go_wp2_with fail
  go_ret
  exact ⟨rfl, HG.out, HR.out⟩

theorem prim_no {w : World} {rb : Nat} {n : Int} {l : List UInt8} (h : Rd w rb (bs l) n 0) (hl : l.length ≤ maxLen) (hp : ∀ b l', l = b :: l' → Lf.isPrimB b.toNat = false) :
    Calls Try.prog 114 #[.pointer (some ⟨rb, 0, none⟩)] w fun r w' => (∃ p : Int, r = .returned (.int .i64 p)) ∧ w.grownBy w' (some rb) ∧ ∃ s, s.size ≤ maxLen ∧ Rd w' rb s n 1 := by
  cases l with
  | nil =>
    have HT := Lf.hide (octet_no h)
    have h0 : Lf.isPrimB 0 = false := by decide
    clear h hl hp
    go_enter Try.func114, Try.ntmps114
    go_wp2_with fail
    refine HT.out.mono ?_; rintro e w1 ⟨rfl, hr, hg⟩
    have HR := Lf.hide hr
    have HG := Lf.hide hg
    clear hr hg
    go_wp2_with fail
    refine (Lf.isPrim_any _ _).mono ?_; rintro e w2 ⟨rfl, rfl⟩
    go_wp2_with fail
    refine (fail_stuck HR.out (by decide) 1).mono ?_; rintro e w3 ⟨rfl, rfl⟩
    go_wp2_with fail
    go_ret
    exact ⟨⟨0, rfl⟩, HG.out, _, by rw [bs_size]; simp, HR.out⟩
  | cons b l =>
    have HT := Lf.hide (octet_ok h hl)
    have h0 := hp b l rfl
    have HL : Hid (l.length ≤ maxLen) := by show _ ≤ _; simp at hl; omega
    clear h hl hp
    go_enter Try.func114, Try.ntmps114
    go_wp2_with fail
    refine HT.out.mono ?_; rintro e w1 ⟨rfl, hr, hg⟩
    have HR := Lf.hide hr
    have HG := Lf.hide hg
    clear hr hg
    go_wp2_with fail
    refine (Lf.isPrim_any _ _).mono ?_; rintro e w2 ⟨rfl, rfl⟩
    go_wp2_with fail
    refine (fail_ok HR.out 1).mono ?_; rintro e w3 ⟨rfl, h2, hg2⟩
    have HR2 := Lf.hide h2
    have HG2 := Lf.hide hg2
    clear h2 hg2
    go_wp2_with fail
    go_ret
    exact ⟨⟨_, rfl⟩, grow_trans HG.out HG2.out, _, by rw [bs_size]; exact HL.out, HR2.out⟩

end Go.Proofs.Ytmmgihaoahhkjaa
