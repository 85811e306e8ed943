/- The reader of package tree, method by method, each by its contract. -/
import Derived.Test.YtmmgihaoahhkjaaTreeB
import Derived.Test.YtmmgihaoahhkjaaTreeA
namespace Go.Proofs.Ytmmgihaoahhkjaa
set_option maxRecDepth 20000
open Go.ChangeShapes Go.WideShapes Go.ChangeAt Go.RowKit
set_option linter.unusedVariables false

/-- the reader lies in block rb -/
def Rd (w : World) (rb : Nat) (rest : ByteArray) (n x : Int) : Prop := w.heap[rb]? = some (.cells #[.string rest, .int .i64 n, .int .i64 x] 115 (0, 0))

theorem Rd.cells {w : World} {rb : Nat} {rest : ByteArray} {n x : Int} (h : Rd w rb rest n x) :
    w.cell? ⟨rb, 0, none⟩ = some (.string rest) ∧ w.cell? ⟨rb, 1, none⟩ = some (.int .i64 n) ∧ w.cell? ⟨rb, 2, none⟩ = some (.int .i64 x) ∧ w.frozen? ⟨rb, 0, none⟩ = false ∧ w.frozen? ⟨rb, 1, none⟩ = false ∧ w.frozen? ⟨rb, 2, none⟩ = false := by
  unfold Rd at h
  simp [World.cell?, World.frozen?, h]

theorem Rd.lt {w : World} {rb : Nat} {rest : ByteArray} {n x : Int} (h : Rd w rb rest n x) : rb < w.heap.size := (Array.getElem?_eq_some_iff.1 h).1

theorem Rd.set0 {w : World} {rb : Nat} {rest : ByteArray} {n x : Int} (h : Rd w rb rest n x) (r : ByteArray) : Rd (w.setCell ⟨rb, 0, none⟩ (.string r)) rb r n x := by
  unfold Rd at *
  simp [World.setCell, Array.getElem?_modify, h]

theorem Rd.set1 {w : World} {rb : Nat} {rest : ByteArray} {n x : Int} (h : Rd w rb rest n x) (m : Int) : Rd (w.setCell ⟨rb, 1, none⟩ (.int .i64 m)) rb rest m x := by
  unfold Rd at *
  simp [World.setCell, Array.getElem?_modify, h]

theorem Rd.set2 {w : World} {rb : Nat} {rest : ByteArray} {n x : Int} (h : Rd w rb rest n x) (m : Int) : Rd (w.setCell ⟨rb, 2, none⟩ (.int .i64 m)) rb rest n m := by
  unfold Rd at *
  simp [World.setCell, Array.getElem?_modify, h]

theorem Rd.alloc {w : World} {rb : Nat} {rest : ByteArray} {n x : Int} (h : Rd w rb rest n x) (o : Obj) : Rd (w.alloc o) rb rest n x := by
  unfold Rd at *
  rw [heap_alloc_old (h := (Array.getElem?_eq_some_iff.1 h).1)]; exact h

theorem fail_ok {w : World} {rb : Nat} {rest : ByteArray} {n : Int} (h : Rd w rb rest n 0) (e : Int) :
    Calls Try.prog 92 #[.pointer (some ⟨rb, 0, none⟩), .int .i64 e] w fun r w' => r = .returned (.tuple #[]) ∧ Rd w' rb rest n e ∧ w.grownBy w' (some rb) := by
  obtain ⟨c0, c1, c2, f0, f1, f2⟩ := h.cells
  have H := Lf.hide h
  clear h
  go_enter Try.func92, Try.ntmps92
  go_wp2
  go_end0
  exact ⟨rfl, H.out.set2 e, grow_set (grow_refl _ _) _ _ _⟩

theorem fail_stuck {w : World} {rb : Nat} {rest : ByteArray} {n x : Int} (h : Rd w rb rest n x) (hx : x ≠ 0) (e : Int) :
    Calls Try.prog 92 #[.pointer (some ⟨rb, 0, none⟩), .int .i64 e] w fun r w' => r = .returned (.tuple #[]) ∧ w' = w := by
  obtain ⟨c0, c1, c2, f0, f1, f2⟩ := h.cells
  clear h
  go_enter Try.func92, Try.ntmps92
  go_wp2
  go_end0
  exact ⟨rfl, rfl⟩

/-- bytes as a text -/
def bs (l : List UInt8) : ByteArray := ⟨l.toArray⟩

theorem bs_size (l : List UInt8) : (bs l).size = l.length := by simp [bs, ByteArray.size]
theorem bs_take (l : List UInt8) (k : Nat) (h : k ≤ l.length) : (bs l).extract 0 k = bs (l.take k) := by
  apply ByteArray.ext
  rw [ByteArray.data_extract]
  apply Array.ext'
  simp [bs]
theorem bs_drop (l : List UInt8) (k : Nat) : (bs l).extract k l.length = bs (l.drop k) := by
  apply ByteArray.ext
  rw [ByteArray.data_extract]
  apply Array.ext'
  simp [bs]
  exact List.take_of_length_le (by simp)

theorem take_ok {w : World} {rb : Nat} {l : List UInt8} {n : Int} (h : Rd w rb (bs l) n 0) (hl : l.length ≤ maxLen) (k : Nat) (hk : k ≤ l.length) :
    Calls Try.prog 123 #[.pointer (some ⟨rb, 0, none⟩), .int .i64 k] w fun r w' => r = .returned (.string (bs (l.take k))) ∧ Rd w' rb (bs (l.drop k)) n 0 ∧ w.grownBy w' (some rb) := by
  obtain ⟨c0, c1, c2, f0, f1, f2⟩ := h.cells
  have hs := bs_size l
  have H := Lf.hide h
  rw [← bs_take l k hk, ← bs_drop l k]
  clear h
  generalize bs l = s at *
  unfold maxLen at hl
  go_enter Try.func123, Try.ntmps123
  go_wp2_with fail
  go_ret
  exact ⟨rfl, H.out.set0 _, grow_set (grow_refl _ _) _ _ _⟩

theorem take_no {w : World} {rb : Nat} {l : List UInt8} {n : Int} (h : Rd w rb (bs l) n 0) (hl : l.length ≤ maxLen) (k : Int) (hk : l.length < k) :
    Calls Try.prog 123 #[.pointer (some ⟨rb, 0, none⟩), .int .i64 k] w fun r w' => r = .returned (.string ⟨#[]⟩) ∧ Rd w' rb (bs l) n 1 ∧ w.grownBy w' (some rb) := by
  obtain ⟨c0, c1, c2, f0, f1, f2⟩ := h.cells
  have hs := bs_size l
  have H := Lf.hide h
  clear h
  generalize bs l = s at *
  unfold maxLen at hl
  go_enter Try.func123, Try.ntmps123
  go_wp2_with fail
  refine (fail_ok H.out 1).mono ?_; rintro e w' ⟨rfl, h', hg⟩
  obtain ⟨d0, d1, d2, g0, g1, g2⟩ := h'.cells
  have H' := Lf.hide h'
  have HG := Lf.hide hg
  clear h' hg
  go_wp2_with fail
  go_ret
  exact ⟨rfl, H'.out, HG.out⟩

theorem take_stuck {w : World} {rb : Nat} {s : ByteArray} {n x : Int} (h : Rd w rb s n x) (hs : s.size ≤ maxLen) (hx : x ≠ 0) (k : Int) :
    Calls Try.prog 123 #[.pointer (some ⟨rb, 0, none⟩), .int .i64 k] w fun r w' => r = .returned (.string ⟨#[]⟩) ∧ w' = w := by
  obtain ⟨c0, c1, c2, f0, f1, f2⟩ := h.cells
  have H := Lf.hide h
  clear h
  unfold maxLen at hs
  by_cases hk : (s.size : Int) < k
  · go_enter Try.func123, Try.ntmps123
    go_wp2_with fail
    refine (fail_stuck H.out hx 1).mono ?_; rintro e w' ⟨rfl, rfl⟩
    go_wp2_with fail
    go_ret
    exact ⟨rfl, rfl⟩
  · go_enter Try.func123, Try.ntmps123
    go_wp2_with fail
    go_ret
    exact ⟨rfl, rfl⟩

theorem octet_ok {w : World} {rb : Nat} {b : UInt8} {l : List UInt8} {n : Int} (h : Rd w rb (bs (b :: l)) n 0) (hl : (b :: l).length ≤ maxLen) :
    Calls Try.prog 111 #[.pointer (some ⟨rb, 0, none⟩)] w fun r w' => r = .returned (.int .i64 b.toNat) ∧ Rd w' rb (bs l) n 0 ∧ w.grownBy w' (some rb) := by
  have hT : Calls Try.prog 123 #[.pointer (some ⟨rb, 0, none⟩), .int .i64 1] w fun r w' => r = .returned (.string (bs [b])) ∧ Rd w' rb (bs l) n 0 ∧ w.grownBy w' (some rb) := take_ok h hl 1 (by simp)
  have HT := Lf.hide hT
  have e1 : (bs [b]).toList = [b] := by simp [bs]
  have eb : (b.toNat : Int) ≤ 255 := by have := b.toNat_lt; omega
  have e2 : (bs [b]).size = 1 := rfl
  have e3 : ∀ h, (bs [b])[0]'h = b := fun _ => rfl
  clear h hl hT
  generalize bs [b] = s at *
  go_enter Try.func111, Try.ntmps111
  go_wp2_with fail
  refine HT.out.mono ?_; rintro e w' ⟨rfl, h', hg⟩
  have H' := Lf.hide h'
  have HG := Lf.hide hg
  clear h' hg
  go_wp2_with fail
  go_ret
  exact ⟨rfl, H'.out, HG.out⟩

theorem octet_no {w : World} {rb : Nat} {n : Int} (h : Rd w rb (bs []) n 0) :
    Calls Try.prog 111 #[.pointer (some ⟨rb, 0, none⟩)] w fun r w' => r = .returned (.int .i64 0) ∧ Rd w' rb (bs []) n 1 ∧ w.grownBy w' (some rb) := by
  have HT := Lf.hide (take_no h (by simp) 1 (by simp))
  clear h
  go_enter Try.func111, Try.ntmps111
  go_wp2_with fail
  refine HT.out.mono ?_; rintro e w' ⟨rfl, h', hg⟩
  have H' := Lf.hide h'
  have HG := Lf.hide hg
  clear h' hg
  go_wp2_with fail
  go_ret
  exact ⟨rfl, H'.out, HG.out⟩

theorem octet_stuck {w : World} {rb : Nat} {s : ByteArray} {n x : Int} (h : Rd w rb s n x) (hs : s.size ≤ maxLen) (hx : x ≠ 0) :
    Calls Try.prog 111 #[.pointer (some ⟨rb, 0, none⟩)] w fun r w' => r = .returned (.int .i64 0) ∧ w' = w := by
  have HT := Lf.hide (take_stuck h hs hx 1)
  clear h
  go_enter Try.func111, Try.ntmps111
  go_wp2_with fail
  refine HT.out.mono ?_; rintro e w' ⟨rfl, rfl⟩
  go_wp2_with fail
  go_ret
  exact ⟨rfl, rfl⟩

set_option maxRecDepth 100000 in
theorem len61 (w : World) : Calls Try.prog 124 #[.int .u64 1152921504606846976] w fun r w' => r = .returned (.int .i64 61) ∧ w' = w := by
  go_enter Try.func124, Try.ntmps124
  go_wp2
  go_ret
  exact Lf.reti (by decide +kernel) rfl

end Go.Proofs.Ytmmgihaoahhkjaa

/- Numbers read from bytes, in plain arithmetic: what is read is just what the number's bytes are. -/
namespace Go.Proofs.Ytmmgihaoahhkjaa
set_option maxRecDepth 20000
set_option linter.unusedVariables false

/-- the bytes behind a first one: k of them at most -/
def numTail : Nat → Nat → Nat → UInt8 → List UInt8 → Option (Nat × UInt8 × List UInt8)
  | 0, _, size, last, l => if last.toNat < 128 then some (size, last, l) else none
  | k + 1, sh, size, last, l => if last.toNat < 128 then some (size, last, l) else
    match l with
    | [] => none
    | b :: l => numTail k (sh + 7) (size + b.toNat % 128 * 2 ^ sh) b l

theorem numTail_lo (k sh size : Nat) (last : UInt8) (l : List UInt8) (h : last.toNat < 128) : numTail k sh size last l = some (size, last, l) := by
  cases k <;> rw [numTail.eq_def] <;> simp [h]

theorem numTail_nil (k sh size : Nat) (last : UInt8) (h : ¬ last.toNat < 128) : numTail (k + 1) sh size last [] = none := by
  rw [numTail.eq_def]; simp [h]

theorem numTail_cons (k sh size : Nat) (last b : UInt8) (l : List UInt8) (h : ¬ last.toNat < 128) : numTail (k + 1) sh size last (b :: l) = numTail k (sh + 7) (size + b.toNat % 128 * 2 ^ sh) b l := by
  rw [numTail.eq_def]; simp [h]

def pNum : List UInt8 → Option (Int × List UInt8)
  | [] => none
  | f :: l => match numTail 8 6 (f.toNat % 64) f l with
    | none => none
    | some (size, last, l') => if (128 ≤ f.toNat ∧ last.toNat = 0) ∨ 1152921504606846976 < size ∨ (f.toNat / 64 % 2 = 1 ∧ size = 0) then none
      else some (if f.toNat / 64 % 2 = 1 then -(size : Int) else size, l')

theorem u8_eq {a : UInt8} {n : Nat} (h : a.toNat = n) : a = n.toUInt8 := by
  apply UInt8.toNat_inj.1
  rw [h]
  have := a.toNat_lt
  show n = n % 256
  omega

theorem numTail_sound (k : Nat) : ∀ (sh size : Nat) (f : UInt8) (l : List UInt8) (size' : Nat) (last' : UInt8) (l' : List UInt8), numTail k sh size f l = some (size', last', l') →
    ∃ m, size' = size + m * 2 ^ sh ∧ m < 128 ^ k ∧ ((f.toNat < 128 ∧ m = 0 ∧ last' = f ∧ l' = l) ∨ (128 ≤ f.toNat ∧ (last'.toNat ≠ 0 → m ≠ 0 ∧ f :: l = encT (f.toNat - 128) m ++ l'))) := by
  induction k with
  | zero =>
    intro sh size f l size' last' l' h
    rw [numTail] at h
    by_cases hf : f.toNat < 128
    · rw [if_pos hf] at h; simp at h; obtain ⟨rfl, rfl, rfl⟩ := h
      exact ⟨0, by simp, by simp, .inl ⟨hf, rfl, rfl, rfl⟩⟩
    · rw [if_neg hf] at h; simp at h
  | succ k ih =>
    intro sh size f l size' last' l' h
    by_cases hf : f.toNat < 128
    · rw [numTail_lo _ _ _ _ _ hf] at h; simp at h; obtain ⟨rfl, rfl, rfl⟩ := h
      exact ⟨0, by simp, by have := Nat.pow_pos (n := k + 1) (show 0 < 128 by omega); omega, .inl ⟨hf, rfl, rfl, rfl⟩⟩
    · cases l with
      | nil => rw [numTail_nil _ _ _ _ hf] at h; simp at h
      | cons c l1 =>
        rw [numTail_cons _ _ _ _ _ _ hf] at h
        obtain ⟨m1, hs, hm, hr⟩ := ih _ _ _ _ _ _ _ h
        have hc := c.toNat_lt
        refine ⟨c.toNat % 128 + 128 * m1, ?_, ?_, .inr ⟨by omega, fun hl => ?_⟩⟩
        · rw [hs, Nat.pow_add, Nat.add_mul, Nat.add_assoc]; congr 2; rw [Nat.mul_comm 128 m1, Nat.mul_assoc]; congr 1; rw [Nat.mul_comm]
        · rw [Nat.pow_succ]; omega
        · rcases hr with ⟨h1, h2, h3, h4⟩ | ⟨h1, h2⟩
          · subst h2; subst h3; subst h4
            refine ⟨by omega, ?_⟩
            rw [encT, if_neg (by omega), show (last'.toNat % 128 + 128 * 0) % 128 = last'.toNat from by omega, show (last'.toNat % 128 + 128 * 0) / 128 = 0 from by omega, encT, if_pos rfl]
            rw [← u8_eq (a := last') rfl, ← u8_eq (a := f) (by omega)]
            rfl
          · obtain ⟨h3, h4⟩ := h2 hl
            refine ⟨by omega, ?_⟩
            rw [encT, if_neg (by omega), show (c.toNat % 128 + 128 * m1) % 128 = c.toNat - 128 from by omega, show (c.toNat % 128 + 128 * m1) / 128 = m1 from by omega, h4]
            rw [← u8_eq (a := f) (by omega)]
            rfl

theorem toU8 (n : Nat) (h : n < 256) : (n.toUInt8).toNat = n := Nat.mod_eq_of_lt h

theorem numTail_complete (k : Nat) : ∀ (sh size last m : Nat) (l' : List UInt8), last < 128 → m < 128 ^ k →
    ∃ f l last', encT last m ++ l' = f :: l ∧ numTail k sh size f l = some (size + m * 2 ^ sh, last', l') ∧ ((m = 0 ∧ f.toNat = last ∧ last' = f) ∨ (m ≠ 0 ∧ f.toNat = 128 + last ∧ last'.toNat ≠ 0)) := by
  induction k with
  | zero =>
    intro sh size last m l' hl hm
    have hm0 : m = 0 := by simp at hm; omega
    subst hm0
    have hu := toU8 last (by omega)
    exact ⟨last.toUInt8, l', last.toUInt8, by rw [encT, if_pos rfl]; rfl, by rw [numTail_lo _ _ _ _ _ (by omega)]; simp, .inl ⟨rfl, hu, rfl⟩⟩
  | succ k ih =>
    intro sh size last m l' hl hm
    have hu := toU8 last (by omega)
    have hu2 := toU8 (128 + last) (by omega)
    by_cases hm0 : m = 0
    · subst hm0
      exact ⟨last.toUInt8, l', last.toUInt8, by rw [encT, if_pos rfl]; rfl, by rw [numTail_lo _ _ _ _ _ (by omega)]; simp, .inl ⟨rfl, hu, rfl⟩⟩
    · obtain ⟨f, l, last', h1, h2, h3⟩ := ih (sh + 7) (size + m % 128 * 2 ^ sh) (m % 128) (m / 128) l' (by omega) (by rw [Nat.pow_succ] at hm; omega)
      refine ⟨(128 + last).toUInt8, f :: l, last', by rw [encT, if_neg hm0, List.cons_append, h1], ?_, .inr ⟨hm0, hu2, ?_⟩⟩
      · rw [numTail_cons _ _ _ _ _ _ (by omega)]
        have hf : f.toNat % 128 = m % 128 := by rcases h3 with ⟨_, h, _⟩ | ⟨_, h, _⟩ <;> omega
        simp only [hf]
        rw [h2]
        simp only [Option.some.injEq, Prod.mk.injEq, and_true]
        have hm' : m = m % 128 + 128 * (m / 128) := by omega
        have : m * 2 ^ sh = m % 128 * 2 ^ sh + m / 128 * 2 ^ (sh + 7) := by
          conv => lhs; rw [hm', Nat.add_mul]
          congr 1
          rw [Nat.pow_add, Nat.mul_comm 128, Nat.mul_assoc]; congr 1; rw [Nat.mul_comm]
        omega
      · rcases h3 with ⟨h, h', h''⟩ | ⟨_, _, h⟩
        · rw [h'']; omega
        · exact h

theorem pNum_sound {l l' : List UInt8} {n : Int} (h : pNum l = some (n, l')) : (-1152921504606846976 ≤ n ∧ n ≤ 1152921504606846976) ∧ l = encN n ++ l' := by
  cases l with
  | nil => simp [pNum] at h
  | cons f l =>
    rw [pNum] at h
    cases hT : numTail 8 6 (f.toNat % 64) f l with
    | none => rw [hT] at h; simp at h
    | some r =>
      obtain ⟨size, last, l1⟩ := r
      rw [hT] at h
      simp only at h
      by_cases hc : (128 ≤ f.toNat ∧ last.toNat = 0) ∨ 1152921504606846976 < size ∨ (f.toNat / 64 % 2 = 1 ∧ size = 0)
      · rw [if_pos hc] at h; simp at h
      rw [if_neg hc] at h
      simp only [Option.some.injEq, Prod.mk.injEq] at h
      obtain ⟨hn, rfl⟩ := h
      obtain ⟨m, hs, hm, hr⟩ := numTail_sound 8 _ _ _ _ _ _ _ hT
      have hf := f.toNat_lt
      have h64 : (2 : Nat) ^ 6 = 64 := rfl
      rw [h64] at hs
      have hb : (-1152921504606846976 ≤ n ∧ n ≤ 1152921504606846976) := by split at hn <;> omega
      have hab : n.natAbs = size := by split at hn <;> omega
      have hneg : (if n < 0 then 64 else 0) = f.toNat / 64 % 2 * 64 := by
        by_cases h1 : f.toNat / 64 % 2 = 1
        · rw [if_pos h1] at hn; rw [if_pos (by omega)]; omega
        · rw [if_neg h1] at hn; rw [if_neg (by omega)]; omega
      refine ⟨hb, ?_⟩
      unfold encN
      rw [hneg, hab, show size % 64 = f.toNat % 64 from by omega, show size / 64 = m from by omega]
      rcases hr with ⟨h1, h2, h3, h4⟩ | ⟨h1, h2⟩
      · subst h2; subst h4
        rw [show f.toNat / 64 % 2 * 64 + f.toNat % 64 = f.toNat from by omega, encT, if_pos rfl, ← u8_eq (a := f) rfl]
        rfl
      · rw [show f.toNat / 64 % 2 * 64 + f.toNat % 64 = f.toNat - 128 from by omega]
        exact (h2 (by omega)).2

theorem pNum_complete (n : Int) (l' : List UInt8) (h : -1152921504606846976 ≤ n ∧ n ≤ 1152921504606846976) : pNum (encN n ++ l') = some (n, l') := by
  have hs : ∃ s : Nat, s ≤ 1 ∧ (if n < 0 then 64 else 0) = s * 64 ∧ (s = 1 ↔ n < 0) := by
    by_cases hn : n < 0
    · exact ⟨1, by omega, by rw [if_pos hn], by simp [hn]⟩
    · exact ⟨0, by omega, by rw [if_neg hn], by simp; omega⟩
  obtain ⟨s, hs1, hs2, hs3⟩ := hs
  obtain ⟨f, l, last', h1, h2, h3⟩ := numTail_complete 8 6 (n.natAbs % 64) (s * 64 + n.natAbs % 64) (n.natAbs / 64) l' (by omega) (by show _ < 72057594037927936; omega)
  unfold encN
  rw [hs2, h1, pNum]
  have hf : f.toNat % 64 = n.natAbs % 64 ∧ f.toNat / 64 % 2 = s := by rcases h3 with ⟨_, h, _⟩ | ⟨_, h, _⟩ <;> omega
  rw [hf.1, h2]
  have h64 : (2 : Nat) ^ 6 = 64 := rfl
  simp only [h64, hf.2]
  rw [show n.natAbs % 64 + n.natAbs / 64 * 64 = n.natAbs from by omega]
  rw [if_neg (by
    intro hc
    rcases hc with ⟨hc1, hc2⟩ | hc | ⟨hc1, hc2⟩
    · rcases h3 with ⟨_, h, h'⟩ | ⟨_, h, h'⟩
      · omega
      · exact h' hc2
    · omega
    · have := hs3.1 hc1; omega)]
  by_cases hn : n < 0
  · rw [if_pos (hs3.2 hn)]; congr 2; omega
  · rw [if_neg (fun e => hn (hs3.1 e))]; congr 2; omega

/-- a beginning of a number's bytes, that is not all of them, is no number -/
theorem pNum_cut {n : Int} {a b : List UInt8} (h : -1152921504606846976 ≤ n ∧ n ≤ 1152921504606846976) (he : encN n = a ++ b) (hb : b ≠ []) : pNum a = none := by
  cases hp : pNum a with
  | none => rfl
  | some r =>
    obtain ⟨n', l'⟩ := r
    obtain ⟨h1, h2⟩ := pNum_sound hp
    have h3 := pNum_complete n [] h
    rw [List.append_nil, he, h2, List.append_assoc, pNum_complete n' _ h1] at h3
    simp at h3
    exact absurd h3.2.2 hb

end Go.Proofs.Ytmmgihaoahhkjaa
