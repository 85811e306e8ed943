import Derived.Test.YtfakmokbccnamaaGreatZd
namespace Go.Proofs.YtfakmokbccnamaaGreat
set_option linter.unusedVariables false
set_option linter.unusedSimpArgs false
theorem frm_same {m : List Ty} {c : Prop} [Decidable c] {a a' : Led} (h : Frm m a a') : Frm m (if c then a else .no 5) (if c then a' else .no 5) := by
 by_cases hc : c
 ·rw [if_pos hc, if_pos hc]; exact h
 ·rw [if_neg hc]; exact frm_no _ _ _
theorem stand_less {m : List Ty} : ∀ {s : List Ty} {k : Int}, 1 <= s.length -> sFq (s ++ m) [k] = true -> sFq s [k] = true
 | [], k, h, _ => by simp at h
 | T :: s, k, _, h => by
  simp only [List.cons_append, sFq, Bool.and_eq_true] at h ⊢
  exact ⟨h.1, trivial⟩
theorem frm_either {m : List Ty} {row : List Tr -> List Ty -> Led} (hr : ∀ l s, Frm m (row l s) (row l (s ++ m))) (i : Ins) (s x y : List Ty) : Frm m (eitherF row i s x y) (eitherF row i (s ++ m) x y) := by
 unfold eitherF
 rw [← List.append_assoc, ← List.append_assoc]
 exact frm_meet (hr _ _) (hr _ _)
theorem frm_through {m : List Ty} {row : List Tr -> List Ty -> Led} (hr : ∀ l s, Frm m (row l s) (row l (s ++ m))) (i : Ins) (x y z : List Ty) : Frm m (throughF row i x y z) (throughF row i (x ++ m) (y ++ m) (z ++ m)) := by
 have h := frm_meet (hr (rowAt i 0) x) (frm_put (m := m) (s := y) (top := []) rfl)
 unfold throughF
 generalize meetF (row (rowAt i 0) x) (pFq y []) = a at h ⊢
 generalize meetF (row (rowAt i 0) (x ++ m)) (pFq (y ++ m) []) = b at h ⊢
 cases a with
 | no e => exact frm_no _ _ _
 | ok f ts =>
  rcases h f ts rfl with rfl | rfl
  ·intro _ _ _; exact .inl rfl
  ·exact frm_put rfl
theorem frm_through0 {m : List Ty} {row : List Tr -> List Ty -> Led} (i : Ins) (x y z : List Ty) : Frm m (throughF row i x y z) (throughF row i x y (z ++ m)) := by
 unfold throughF
 cases meetF (row (rowAt i 0) x) (pFq y []) with
 | no e => exact frm_no _ _ _
 | ok f ts => exact frm_put rfl
theorem frm_below {m : List Ty} {row : List Tr -> List Ty -> Led} (hr : ∀ l s, Frm m (row l s) (row l (s ++ m))) (i : Ins) (a : Ty) (s : List Ty) : Frm m (belowF row i a s) (belowF row i a (s ++ m)) := by
 have h := hr (rowAt i 0) s
 unfold belowF
 generalize row (rowAt i 0) s = x at h ⊢
 generalize row (rowAt i 0) (s ++ m) = y at h ⊢
 cases x with
 | no e => exact frm_no _ _ _
 | ok f ts =>
  rcases h f ts rfl with rfl | rfl
  ·intro _ _ _; exact .inl rfl
  ·cases f with
   | true => exact frm_no _ _ _
   | false => exact frm_put rfl
theorem frm_moves {m : List Ty} (i : Ins) (hn : 0 <= i.n) (s : List Ty) : Frm m (movesF i s) (movesF i (s ++ m)) := by
 by_cases h40 : i.p = 40
 ·by_cases hc : sFq s [0] = true
  ·have hl : 1 <= s.length := slq hc
   simp only [movesF, h40, Int.reduceEq, false_and, true_and, and_true, and_self, false_or, or_false, true_or, or_true, or_self, if_true, if_false, reduceIte, Bool.false_eq_true, ne_eq, not_false_eq_true, not_true_eq_false, hc, stand_more m hc, tyAt_more m (show 0 < s.length by omega), drop_more m (show 1 <= s.length by omega)]
   exact frm_put rfl
  ·have hc0 : sFq s [0] = false := by simpa using hc
   simp only [movesF, h40, Int.reduceEq, false_and, true_and, and_true, and_self, false_or, or_false, true_or, or_true, or_self, if_true, if_false, reduceIte, Bool.false_eq_true, ne_eq, not_false_eq_true, not_true_eq_false, hc0]
   exact frm_no _ _ _
 by_cases h41 : i.p = 41
 ·simp only [movesF, h41, Int.reduceEq, false_and, true_and, and_true, and_self, false_or, or_false, true_or, or_true, or_self, if_true, if_false, reduceIte, Bool.false_eq_true, ne_eq, not_false_eq_true, not_true_eq_false]
  by_cases hc : 1 <= i.n /\ i.n <= s.length /\ copyT (tAq s (i.n.toNat - 1)) = true
  ·have e : tAq (s ++ m) (i.n.toNat - 1) = tAq s (i.n.toNat - 1) := tyAt_more m (by omega)
   rw [if_pos hc, if_pos ⟨hc.1, by have := hc.2.1; simp; omega, by rw [e]; exact hc.2.2⟩, e]
   exact frm_put rfl
  ·rw [if_neg hc]; exact frm_no _ _ _
 by_cases h42 : i.p = 42
 ·by_cases hc : sFq s [0, 0] = true
  ·have hl : 2 <= s.length := slq hc
   simp only [movesF, h42, Int.reduceEq, false_and, true_and, and_true, and_self, false_or, or_false, true_or, or_true, or_self, if_true, if_false, reduceIte, Bool.false_eq_true, ne_eq, not_false_eq_true, not_true_eq_false, hc, stand_more m hc, tyAt_more m (show 0 < s.length by omega), tyAt_more m (show 1 < s.length by omega), drop_more m (show 2 <= s.length by omega)]
   exact frm_put rfl
  ·have hc0 : sFq s [0, 0] = false := by simpa using hc
   simp only [movesF, h42, Int.reduceEq, false_and, true_and, and_true, and_self, false_or, or_false, true_or, or_true, or_self, if_true, if_false, reduceIte, Bool.false_eq_true, ne_eq, not_false_eq_true, not_true_eq_false, hc0]
   exact frm_no _ _ _
 by_cases h43 : i.p = 43
 ·simp only [movesF, h43, Int.reduceEq, false_and, true_and, and_true, and_self, false_or, or_false, true_or, or_true, or_self, if_true, if_false, reduceIte, Bool.false_eq_true, ne_eq, not_false_eq_true, not_true_eq_false]
  by_cases hc : 0 <= i.n /\ i.n < s.length
  ·have hc2 : i.n < ((s ++ m).length : Int) := by simp; omega
   rw [if_pos hc.2, if_pos hc2]
   rw [tyAt_more m (by omega), drop_more m (by omega), List.take_append_of_le_length (by omega), ← List.append_assoc]
   exact frm_put rfl
  ·by_cases hc3 : i.n < s.length
   ·exact absurd ⟨hn, hc3⟩ hc
   ·rw [if_neg hc3]; exact frm_no _ _ _
 by_cases h44 : i.p = 44
 ·simp only [movesF, h44, Int.reduceEq, false_and, true_and, and_true, and_self, false_or, or_false, true_or, or_true, or_self, if_true, if_false, reduceIte, Bool.false_eq_true, ne_eq, not_false_eq_true, not_true_eq_false]
  by_cases hc : 0 <= i.n /\ i.n < s.length
  ·have hc2 : i.n < ((s ++ m).length : Int) := by simp; omega
   rw [if_pos hc.2, if_pos hc2]
   rw [drop_more m (by omega), drop_more m (by omega), List.take_append_of_le_length (by omega), List.take_append_of_le_length (by simp; omega), ← List.append_assoc]
   exact frm_put rfl
  ·by_cases hc3 : i.n < s.length
   ·exact absurd ⟨hn, hc3⟩ hc
   ·rw [if_neg hc3]; exact frm_no _ _ _
 simp only [movesF, h40, h41, h42, h43, h44, Int.reduceEq, false_and, true_and, and_true, and_self, false_or, or_false, true_or, or_true, or_self, if_true, if_false, reduceIte, Bool.false_eq_true, ne_eq, not_false_eq_true, not_true_eq_false]
 exact frm_no _ _ _
theorem frm_binds {m : List Ty} (i : Ins) (s : List Ty) : Frm m (bindsF i s) (bindsF i (s ++ m)) := by
 by_cases h46 : i.p = 46
 ·by_cases hc : sFq s [0, 0] = true
  ·have hl : 2 <= s.length := slq hc
   simp only [bindsF, h46, Int.reduceEq, false_and, true_and, and_true, and_self, false_or, or_false, true_or, or_true, or_self, if_true, if_false, reduceIte, Bool.false_eq_true, ne_eq, not_false_eq_true, not_true_eq_false, hc, stand_more m hc, tyAt_more m (show 0 < s.length by omega), tyAt_more m (show 1 < s.length by omega), drop_more m (show 2 <= s.length by omega)]
   exact frm_put rfl
  ·have hc0 : sFq s [0, 0] = false := by simpa using hc
   simp only [bindsF, h46, Int.reduceEq, false_and, true_and, and_true, and_self, false_or, or_false, true_or, or_true, or_self, if_true, if_false, reduceIte, Bool.false_eq_true, ne_eq, not_false_eq_true, not_true_eq_false, hc0]
   exact frm_no _ _ _
 by_cases h47 : i.p = 47
 ·by_cases hc : sFq s [11] = true
  ·have hl : 1 <= s.length := slq hc
   simp only [bindsF, h47, Int.reduceEq, false_and, true_and, and_true, and_self, false_or, or_false, true_or, or_true, or_self, if_true, if_false, reduceIte, Bool.false_eq_true, ne_eq, not_false_eq_true, not_true_eq_false, hc, stand_more m hc, tyAt_more m (show 0 < s.length by omega), drop_more m (show 1 <= s.length by omega)]
   exact frm_put rfl
  ·have hc0 : sFq s [11] = false := by simpa using hc
   simp only [bindsF, h47, Int.reduceEq, false_and, true_and, and_true, and_self, false_or, or_false, true_or, or_true, or_self, if_true, if_false, reduceIte, Bool.false_eq_true, ne_eq, not_false_eq_true, not_true_eq_false, hc0]
   exact frm_no _ _ _
 by_cases h48 : i.p = 48
 ·by_cases hc : sFq s [11] = true
  ·have hl : 1 <= s.length := slq hc
   simp only [bindsF, h48, Int.reduceEq, false_and, true_and, and_true, and_self, false_or, or_false, true_or, or_true, or_self, if_true, if_false, reduceIte, Bool.false_eq_true, ne_eq, not_false_eq_true, not_true_eq_false, hc, stand_more m hc, tyAt_more m (show 0 < s.length by omega), drop_more m (show 1 <= s.length by omega)]
   exact frm_put rfl
  ·have hc0 : sFq s [11] = false := by simpa using hc
   simp only [bindsF, h48, Int.reduceEq, false_and, true_and, and_true, and_self, false_or, or_false, true_or, or_true, or_self, if_true, if_false, reduceIte, Bool.false_eq_true, ne_eq, not_false_eq_true, not_true_eq_false, hc0]
   exact frm_no _ _ _
 by_cases h49 : i.p = 49
 ·by_cases hc : sFq s [11] = true
  ·have hl : 1 <= s.length := slq hc
   simp only [bindsF, h49, Int.reduceEq, false_and, true_and, and_true, and_self, false_or, or_false, true_or, or_true, or_self, if_true, if_false, reduceIte, Bool.false_eq_true, ne_eq, not_false_eq_true, not_true_eq_false, hc, stand_more m hc, tyAt_more m (show 0 < s.length by omega), drop_more m (show 1 <= s.length by omega)]
   exact frm_put rfl
  ·have hc0 : sFq s [11] = false := by simpa using hc
   simp only [bindsF, h49, Int.reduceEq, false_and, true_and, and_true, and_self, false_or, or_false, true_or, or_true, or_self, if_true, if_false, reduceIte, Bool.false_eq_true, ne_eq, not_false_eq_true, not_true_eq_false, hc0]
   exact frm_no _ _ _
 by_cases h50 : i.p = 50
 ·by_cases hc : sFq s [0] = true
  ·have hl : 1 <= s.length := slq hc
   simp only [bindsF, h50, Int.reduceEq, false_and, true_and, and_true, and_self, false_or, or_false, true_or, or_true, or_self, if_true, if_false, reduceIte, Bool.false_eq_true, ne_eq, not_false_eq_true, not_true_eq_false, hc, stand_more m hc, tyAt_more m (show 0 < s.length by omega), drop_more m (show 1 <= s.length by omega)]
   exact frm_put rfl
  ·have hc0 : sFq s [0] = false := by simpa using hc
   simp only [bindsF, h50, Int.reduceEq, false_and, true_and, and_true, and_self, false_or, or_false, true_or, or_true, or_self, if_true, if_false, reduceIte, Bool.false_eq_true, ne_eq, not_false_eq_true, not_true_eq_false, hc0]
   exact frm_no _ _ _
 by_cases h51 : i.p = 51
 ·by_cases hc : sFq s [0] = true
  ·have hl : 1 <= s.length := slq hc
   simp only [bindsF, h51, Int.reduceEq, false_and, true_and, and_true, and_self, false_or, or_false, true_or, or_true, or_self, if_true, if_false, reduceIte, Bool.false_eq_true, ne_eq, not_false_eq_true, not_true_eq_false, hc, stand_more m hc, tyAt_more m (show 0 < s.length by omega), drop_more m (show 1 <= s.length by omega)]
   exact frm_put rfl
  ·have hc0 : sFq s [0] = false := by simpa using hc
   simp only [bindsF, h51, Int.reduceEq, false_and, true_and, and_true, and_self, false_or, or_false, true_or, or_true, or_self, if_true, if_false, reduceIte, Bool.false_eq_true, ne_eq, not_false_eq_true, not_true_eq_false, hc0]
   exact frm_no _ _ _
 by_cases h53 : i.p = 53
 ·by_cases hc : sFq s [0] = true
  ·have hl : 1 <= s.length := slq hc
   simp only [bindsF, h53, Int.reduceEq, false_and, true_and, and_true, and_self, false_or, or_false, true_or, or_true, or_self, if_true, if_false, reduceIte, Bool.false_eq_true, ne_eq, not_false_eq_true, not_true_eq_false, hc, stand_more m hc, tyAt_more m (show 0 < s.length by omega), drop_more m (show 1 <= s.length by omega)]
   exact frm_put rfl
  ·have hc0 : sFq s [0] = false := by simpa using hc
   simp only [bindsF, h53, Int.reduceEq, false_and, true_and, and_true, and_self, false_or, or_false, true_or, or_true, or_self, if_true, if_false, reduceIte, Bool.false_eq_true, ne_eq, not_false_eq_true, not_true_eq_false, hc0]
   exact frm_no _ _ _
 by_cases h54 : i.p = 54
 ·simp only [bindsF, h54, Int.reduceEq, false_and, true_and, and_true, and_self, false_or, or_false, true_or, or_true, or_self, if_true, if_false, reduceIte, Bool.false_eq_true, ne_eq, not_false_eq_true, not_true_eq_false]
  exact frm_put rfl
 simp only [bindsF, h46, h47, h48, h49, h50, h51, h53, h54, Int.reduceEq, false_and, true_and, and_true, and_self, false_or, or_false, true_or, or_true, or_self, if_true, if_false, reduceIte, Bool.false_eq_true, ne_eq, not_false_eq_true, not_true_eq_false]
 exact frm_no _ _ _
theorem frm_gathers {m : List Ty} (i : Ins) (s : List Ty) : Frm m (gathersF i s) (gathersF i (s ++ m)) := by
 by_cases h56 : i.p = 56
 ·simp only [gathersF, h56, Int.reduceEq, false_and, true_and, and_true, and_self, false_or, or_false, true_or, or_true, or_self, if_true, if_false, reduceIte, Bool.false_eq_true, ne_eq, not_false_eq_true, not_true_eq_false]
  exact frm_put rfl
 by_cases h57 : i.p = 57
 ·by_cases hc : sFq s [0, 10] = true
  ·have hl : 2 <= s.length := slq hc
   simp only [gathersF, h57, Int.reduceEq, false_and, true_and, and_true, and_self, false_or, or_false, true_or, or_true, or_self, if_true, if_false, reduceIte, Bool.false_eq_true, ne_eq, not_false_eq_true, not_true_eq_false, hc, stand_more m hc, tyAt_more m (show 0 < s.length by omega), tyAt_more m (show 1 < s.length by omega), drop_more m (show 1 <= s.length by omega)]
   exact frm_same (frm_put rfl)
  ·have hc0 : sFq s [0, 10] = false := by simpa using hc
   simp only [gathersF, h57, Int.reduceEq, false_and, true_and, and_true, and_self, false_or, or_false, true_or, or_true, or_self, if_true, if_false, reduceIte, Bool.false_eq_true, ne_eq, not_false_eq_true, not_true_eq_false, hc0]
   exact frm_no _ _ _
 by_cases h59 : i.p = 59
 ·simp only [gathersF, h59, Int.reduceEq, false_and, true_and, and_true, and_self, false_or, or_false, true_or, or_true, or_self, if_true, if_false, reduceIte, Bool.false_eq_true, ne_eq, not_false_eq_true, not_true_eq_false]
  by_cases hc : sFq s [6] = true \/ sFq s [10] = true \/ sFq s [13] = true
  ·have hl : 1 <= s.length := by rcases hc with h | h | h <;> exact slq h
   rw [if_pos hc, if_pos (by rcases hc with h | h | h <;> simp [stand_more m h]), drop_more m hl]
   exact frm_put rfl
  ·rw [if_neg hc]; exact frm_no _ _ _
 by_cases h61 : i.p = 61
 ·simp only [gathersF, h61, Int.reduceEq, false_and, true_and, and_true, and_self, false_or, or_false, true_or, or_true, or_self, if_true, if_false, reduceIte, Bool.false_eq_true, ne_eq, not_false_eq_true, not_true_eq_false]
  exact frm_same (frm_put rfl)
 by_cases h62 : i.p = 62
 ·by_cases hc : sFq s [0, 13] = true
  ·have hl : 2 <= s.length := slq hc
   simp only [gathersF, h62, Int.reduceEq, false_and, true_and, and_true, and_self, false_or, or_false, true_or, or_true, or_self, if_true, if_false, reduceIte, Bool.false_eq_true, ne_eq, not_false_eq_true, not_true_eq_false, hc, stand_more m hc, tyAt_more m (show 0 < s.length by omega), tyAt_more m (show 1 < s.length by omega), drop_more m (show 2 <= s.length by omega)]
   exact frm_same (frm_put rfl)
  ·have hc0 : sFq s [0, 13] = false := by simpa using hc
   simp only [gathersF, h62, Int.reduceEq, false_and, true_and, and_true, and_self, false_or, or_false, true_or, or_true, or_self, if_true, if_false, reduceIte, Bool.false_eq_true, ne_eq, not_false_eq_true, not_true_eq_false, hc0]
   exact frm_no _ _ _
 by_cases h63 : i.p = 63
 ·by_cases hc : sFq s [0, 9, 13] = true
  ·have hl : 3 <= s.length := slq hc
   simp only [gathersF, h63, Int.reduceEq, false_and, true_and, and_true, and_self, false_or, or_false, true_or, or_true, or_self, if_true, if_false, reduceIte, Bool.false_eq_true, ne_eq, not_false_eq_true, not_true_eq_false, hc, stand_more m hc, tyAt_more m (show 0 < s.length by omega), tyAt_more m (show 1 < s.length by omega), tyAt_more m (show 2 < s.length by omega), drop_more m (show 2 <= s.length by omega)]
   exact frm_same (frm_put rfl)
  ·have hc0 : sFq s [0, 9, 13] = false := by simpa using hc
   simp only [gathersF, h63, Int.reduceEq, false_and, true_and, and_true, and_self, false_or, or_false, true_or, or_true, or_self, if_true, if_false, reduceIte, Bool.false_eq_true, ne_eq, not_false_eq_true, not_true_eq_false, hc0]
   exact frm_no _ _ _
 simp only [gathersF, h56, h57, h59, h61, h62, h63, Int.reduceEq, false_and, true_and, and_true, and_self, false_or, or_false, true_or, or_true, or_self, if_true, if_false, reduceIte, Bool.false_eq_true, ne_eq, not_false_eq_true, not_true_eq_false]
 exact frm_no _ _ _
theorem frm_chooses {m : List Ty} {row : List Tr -> List Ty -> Led} (hr : ∀ l s, Frm m (row l s) (row l (s ++ m))) (i : Ins) (s : List Ty) : Frm m (choosesF row i s) (choosesF row i (s ++ m)) := by
 by_cases h52 : i.p = 52
 ·by_cases hc : sFq s [12] = true
  ·have hl : 1 <= s.length := slq hc
   simp only [choosesF, h52, Int.reduceEq, false_and, true_and, and_true, and_self, false_or, or_false, true_or, or_true, or_self, if_true, if_false, reduceIte, Bool.false_eq_true, ne_eq, not_false_eq_true, not_true_eq_false, hc, stand_more m hc, tyAt_more m (show 0 < s.length by omega), drop_more m (show 1 <= s.length by omega)]
   exact frm_either hr _ _ _ _
  ·have hc0 : sFq s [12] = false := by simpa using hc
   simp only [choosesF, h52, Int.reduceEq, false_and, true_and, and_true, and_self, false_or, or_false, true_or, or_true, or_self, if_true, if_false, reduceIte, Bool.false_eq_true, ne_eq, not_false_eq_true, not_true_eq_false, hc0]
   exact frm_no _ _ _
 by_cases h55 : i.p = 55
 ·by_cases hc : sFq s [9] = true
  ·have hl : 1 <= s.length := slq hc
   simp only [choosesF, h55, Int.reduceEq, false_and, true_and, and_true, and_self, false_or, or_false, true_or, or_true, or_self, if_true, if_false, reduceIte, Bool.false_eq_true, ne_eq, not_false_eq_true, not_true_eq_false, hc, stand_more m hc, tyAt_more m (show 0 < s.length by omega), drop_more m (show 1 <= s.length by omega)]
   exact frm_either hr _ _ _ _
  ·have hc0 : sFq s [9] = false := by simpa using hc
   simp only [choosesF, h55, Int.reduceEq, false_and, true_and, and_true, and_self, false_or, or_false, true_or, or_true, or_self, if_true, if_false, reduceIte, Bool.false_eq_true, ne_eq, not_false_eq_true, not_true_eq_false, hc0]
   exact frm_no _ _ _
 by_cases h58 : i.p = 58
 ·by_cases hc : sFq s [10] = true
  ·have hl : 1 <= s.length := slq hc
   simp only [choosesF, h58, Int.reduceEq, false_and, true_and, and_true, and_self, false_or, or_false, true_or, or_true, or_self, if_true, if_false, reduceIte, Bool.false_eq_true, ne_eq, not_false_eq_true, not_true_eq_false, hc, stand_more m hc, tyAt_more m (show 0 < s.length by omega), drop_more m (show 1 <= s.length by omega)]
   exact frm_either hr _ _ _ _
  ·have hc0 : sFq s [10] = false := by simpa using hc
   simp only [choosesF, h58, Int.reduceEq, false_and, true_and, and_true, and_self, false_or, or_false, true_or, or_true, or_self, if_true, if_false, reduceIte, Bool.false_eq_true, ne_eq, not_false_eq_true, not_true_eq_false, hc0]
   exact frm_no _ _ _
 by_cases h64 : i.p = 64
 ·by_cases hc : sFq s [2] = true
  ·have hl : 1 <= s.length := slq hc
   simp only [choosesF, h64, Int.reduceEq, false_and, true_and, and_true, and_self, false_or, or_false, true_or, or_true, or_self, if_true, if_false, reduceIte, Bool.false_eq_true, ne_eq, not_false_eq_true, not_true_eq_false, hc, stand_more m hc, tyAt_more m (show 0 < s.length by omega), drop_more m (show 1 <= s.length by omega)]
   exact frm_either hr _ _ _ _
  ·have hc0 : sFq s [2] = false := by simpa using hc
   simp only [choosesF, h64, Int.reduceEq, false_and, true_and, and_true, and_self, false_or, or_false, true_or, or_true, or_self, if_true, if_false, reduceIte, Bool.false_eq_true, ne_eq, not_false_eq_true, not_true_eq_false, hc0]
   exact frm_no _ _ _
 simp only [choosesF, h52, h55, h58, h64, Int.reduceEq, false_and, true_and, and_true, and_self, false_or, or_false, true_or, or_true, or_self, if_true, if_false, reduceIte, Bool.false_eq_true, ne_eq, not_false_eq_true, not_true_eq_false]
 exact frm_no _ _ _
theorem frm_enters {m : List Ty} {row : List Tr -> List Ty -> Led} (hr : ∀ l s, Frm m (row l s) (row l (s ++ m))) (i : Ins) (s : List Ty) : Frm m (entersF row i s) (entersF row i (s ++ m)) := by
 by_cases h60 : i.p = 60
 ·simp only [entersF, h60, Int.reduceEq, false_and, true_and, and_true, and_self, false_or, or_false, true_or, or_true, or_self, if_true, if_false, reduceIte, Bool.false_eq_true, ne_eq, not_false_eq_true, not_true_eq_false]
  by_cases hc : sFq s [10] = true
  ·have hl : 1 <= s.length := slq hc
   rw [if_pos hc, if_pos (stand_more m hc), tyAt_more m (by omega), drop_more m hl, ← List.append_assoc]
   exact frm_through hr _ _ _ _
  ·by_cases hd : sFq s [13] = true
   ·have hl : 1 <= s.length := slq hd
    rw [if_neg hc, if_pos hd, if_neg (fun h => hc (stand_less hl h)), if_pos (stand_more m hd), tyAt_more m (by omega), drop_more m hl, ← List.append_assoc]
    exact frm_through hr _ _ _ _
   ·rw [if_neg hc, if_neg hd]; exact frm_no _ _ _
 by_cases h65 : i.p = 65
 ·by_cases hc : sFq s [2] = true
  ·have hl : 1 <= s.length := slq hc
   simp only [entersF, h65, Int.reduceEq, false_and, true_and, and_true, and_self, false_or, or_false, true_or, or_true, or_self, if_true, if_false, reduceIte, Bool.false_eq_true, ne_eq, not_false_eq_true, not_true_eq_false, hc, stand_more m hc, tyAt_more m (show 0 < s.length by omega), drop_more m (show 1 <= s.length by omega)]
   exact frm_through hr _ _ _ _
  ·have hc0 : sFq s [2] = false := by simpa using hc
   simp only [entersF, h65, Int.reduceEq, false_and, true_and, and_true, and_self, false_or, or_false, true_or, or_true, or_self, if_true, if_false, reduceIte, Bool.false_eq_true, ne_eq, not_false_eq_true, not_true_eq_false, hc0]
   exact frm_no _ _ _
 by_cases h66 : i.p = 66
 ·simp only [entersF, h66, Int.reduceEq, false_and, true_and, and_true, and_self, false_or, or_false, true_or, or_true, or_self, if_true, if_false, reduceIte, Bool.false_eq_true, ne_eq, not_false_eq_true, not_true_eq_false]
  rw [← List.append_assoc]
  exact frm_same (frm_through0 _ _ _ _)
 by_cases h67 : i.p = 67
 ·by_cases hc : sFq s [0, 14] = true
  ·have hl : 2 <= s.length := slq hc
   simp only [entersF, h67, Int.reduceEq, false_and, true_and, and_true, and_self, false_or, or_false, true_or, or_true, or_self, if_true, if_false, reduceIte, Bool.false_eq_true, ne_eq, not_false_eq_true, not_true_eq_false, hc, stand_more m hc, tyAt_more m (show 0 < s.length by omega), tyAt_more m (show 1 < s.length by omega), drop_more m (show 2 <= s.length by omega)]
   exact frm_same (frm_put rfl)
  ·have hc0 : sFq s [0, 14] = false := by simpa using hc
   simp only [entersF, h67, Int.reduceEq, false_and, true_and, and_true, and_self, false_or, or_false, true_or, or_true, or_self, if_true, if_false, reduceIte, Bool.false_eq_true, ne_eq, not_false_eq_true, not_true_eq_false, hc0]
   exact frm_no _ _ _
 by_cases h68 : i.p = 68
 ·by_cases hc : sFq s [0] = true
  ·have hl : 1 <= s.length := slq hc
   simp only [entersF, h68, Int.reduceEq, false_and, true_and, and_true, and_self, false_or, or_false, true_or, or_true, or_self, if_true, if_false, reduceIte, Bool.false_eq_true, ne_eq, not_false_eq_true, not_true_eq_false, hc, stand_more m hc, tyAt_more m (show 0 < s.length by omega), drop_more m (show 1 <= s.length by omega)]
   exact frm_below hr _ _ _
  ·have hc0 : sFq s [0] = false := by simpa using hc
   simp only [entersF, h68, Int.reduceEq, false_and, true_and, and_true, and_self, false_or, or_false, true_or, or_true, or_self, if_true, if_false, reduceIte, Bool.false_eq_true, ne_eq, not_false_eq_true, not_true_eq_false, hc0]
   exact frm_no _ _ _
 simp only [entersF, h60, h65, h66, h67, h68, Int.reduceEq, false_and, true_and, and_true, and_self, false_or, or_false, true_or, or_true, or_self, if_true, if_false, reduceIte, Bool.false_eq_true, ne_eq, not_false_eq_true, not_true_eq_false]
 exact frm_no _ _ _
theorem frm_reckons {m : List Ty} (i : Ins) (s : List Ty) : Frm m (reckonsF i s) (reckonsF i (s ++ m)) := by
 by_cases h93 : i.p = 93
 ·by_cases hc : sFq s [3] = true
  ·have hl : 1 <= s.length := slq hc
   simp only [reckonsF, h93, Int.reduceEq, false_and, true_and, and_true, and_self, false_or, or_false, true_or, or_true, or_self, if_true, if_false, reduceIte, Bool.false_eq_true, ne_eq, not_false_eq_true, not_true_eq_false, hc, stand_more m hc, tyAt_more m (show 0 < s.length by omega), drop_more m (show 1 <= s.length by omega)]
   exact frm_put rfl
  ·have hc0 : sFq s [3] = false := by simpa using hc
   simp only [reckonsF, h93, Int.reduceEq, false_and, true_and, and_true, and_self, false_or, or_false, true_or, or_true, or_self, if_true, if_false, reduceIte, Bool.false_eq_true, ne_eq, not_false_eq_true, not_true_eq_false, hc0]
   exact frm_no _ _ _
 by_cases h94 : i.p = 94
 ·by_cases hc : sFq s [3] = true
  ·have hl : 1 <= s.length := slq hc
   simp only [reckonsF, h94, Int.reduceEq, false_and, true_and, and_true, and_self, false_or, or_false, true_or, or_true, or_self, if_true, if_false, reduceIte, Bool.false_eq_true, ne_eq, not_false_eq_true, not_true_eq_false, hc, stand_more m hc, tyAt_more m (show 0 < s.length by omega), drop_more m (show 1 <= s.length by omega)]
   exact frm_put rfl
  ·have hc0 : sFq s [3] = false := by simpa using hc
   simp only [reckonsF, h94, Int.reduceEq, false_and, true_and, and_true, and_self, false_or, or_false, true_or, or_true, or_self, if_true, if_false, reduceIte, Bool.false_eq_true, ne_eq, not_false_eq_true, not_true_eq_false, hc0]
   exact frm_no _ _ _
 by_cases h95 : i.p = 95
 ·by_cases hc : sFq s [4] = true
  ·have hl : 1 <= s.length := slq hc
   simp only [reckonsF, h95, Int.reduceEq, false_and, true_and, and_true, and_self, false_or, or_false, true_or, or_true, or_self, if_true, if_false, reduceIte, Bool.false_eq_true, ne_eq, not_false_eq_true, not_true_eq_false, hc, stand_more m hc, tyAt_more m (show 0 < s.length by omega), drop_more m (show 1 <= s.length by omega)]
   exact frm_put rfl
  ·have hc0 : sFq s [4] = false := by simpa using hc
   simp only [reckonsF, h95, Int.reduceEq, false_and, true_and, and_true, and_self, false_or, or_false, true_or, or_true, or_self, if_true, if_false, reduceIte, Bool.false_eq_true, ne_eq, not_false_eq_true, not_true_eq_false, hc0]
   exact frm_no _ _ _
 by_cases h69 : i.p = 69
 ·by_cases hc : sFq s [0, 0] = true
  ·have hl : 2 <= s.length := slq hc
   simp only [reckonsF, h69, Int.reduceEq, false_and, true_and, and_true, and_self, false_or, or_false, true_or, or_true, or_self, if_true, if_false, reduceIte, Bool.false_eq_true, ne_eq, not_false_eq_true, not_true_eq_false, hc, stand_more m hc, tyAt_more m (show 0 < s.length by omega), tyAt_more m (show 1 < s.length by omega), drop_more m (show 2 <= s.length by omega)]
   cases rKq _ (tAq s 0).t (tAq s 1).t with
   | none => exact frm_no _ _ _
   | some T => exact frm_put rfl
  ·have hc0 : sFq s [0, 0] = false := by simpa using hc
   simp only [reckonsF, h69, Int.reduceEq, false_and, true_and, and_true, and_self, false_or, or_false, true_or, or_true, or_self, if_true, if_false, reduceIte, Bool.false_eq_true, ne_eq, not_false_eq_true, not_true_eq_false, hc0]
   exact frm_no _ _ _
 by_cases h70 : i.p = 70
 ·by_cases hc : sFq s [0, 0] = true
  ·have hl : 2 <= s.length := slq hc
   simp only [reckonsF, h70, Int.reduceEq, false_and, true_and, and_true, and_self, false_or, or_false, true_or, or_true, or_self, if_true, if_false, reduceIte, Bool.false_eq_true, ne_eq, not_false_eq_true, not_true_eq_false, hc, stand_more m hc, tyAt_more m (show 0 < s.length by omega), tyAt_more m (show 1 < s.length by omega), drop_more m (show 2 <= s.length by omega)]
   cases rKq _ (tAq s 0).t (tAq s 1).t with
   | none => exact frm_no _ _ _
   | some T => exact frm_put rfl
  ·have hc0 : sFq s [0, 0] = false := by simpa using hc
   simp only [reckonsF, h70, Int.reduceEq, false_and, true_and, and_true, and_self, false_or, or_false, true_or, or_true, or_self, if_true, if_false, reduceIte, Bool.false_eq_true, ne_eq, not_false_eq_true, not_true_eq_false, hc0]
   exact frm_no _ _ _
 by_cases h71 : i.p = 71
 ·by_cases hc : sFq s [0, 0] = true
  ·have hl : 2 <= s.length := slq hc
   simp only [reckonsF, h71, Int.reduceEq, false_and, true_and, and_true, and_self, false_or, or_false, true_or, or_true, or_self, if_true, if_false, reduceIte, Bool.false_eq_true, ne_eq, not_false_eq_true, not_true_eq_false, hc, stand_more m hc, tyAt_more m (show 0 < s.length by omega), tyAt_more m (show 1 < s.length by omega), drop_more m (show 2 <= s.length by omega)]
   cases rKq _ (tAq s 0).t (tAq s 1).t with
   | none => exact frm_no _ _ _
   | some T => exact frm_put rfl
  ·have hc0 : sFq s [0, 0] = false := by simpa using hc
   simp only [reckonsF, h71, Int.reduceEq, false_and, true_and, and_true, and_self, false_or, or_false, true_or, or_true, or_self, if_true, if_false, reduceIte, Bool.false_eq_true, ne_eq, not_false_eq_true, not_true_eq_false, hc0]
   exact frm_no _ _ _
 by_cases h72 : i.p = 72
 ·by_cases hc : sFq s [0, 0] = true
  ·have hl : 2 <= s.length := slq hc
   simp only [reckonsF, h72, Int.reduceEq, false_and, true_and, and_true, and_self, false_or, or_false, true_or, or_true, or_self, if_true, if_false, reduceIte, Bool.false_eq_true, ne_eq, not_false_eq_true, not_true_eq_false, hc, stand_more m hc, tyAt_more m (show 0 < s.length by omega), tyAt_more m (show 1 < s.length by omega), drop_more m (show 2 <= s.length by omega)]
   cases rKq _ (tAq s 0).t (tAq s 1).t with
   | none => exact frm_no _ _ _
   | some T => exact frm_put rfl
  ·have hc0 : sFq s [0, 0] = false := by simpa using hc
   simp only [reckonsF, h72, Int.reduceEq, false_and, true_and, and_true, and_self, false_or, or_false, true_or, or_true, or_self, if_true, if_false, reduceIte, Bool.false_eq_true, ne_eq, not_false_eq_true, not_true_eq_false, hc0]
   exact frm_no _ _ _
 simp only [reckonsF, h93, h94, h95, h69, h70, h71, h72, Int.reduceEq, false_and, true_and, and_true, and_self, false_or, or_false, true_or, or_true, or_self, if_true, if_false, reduceIte, Bool.false_eq_true, ne_eq, not_false_eq_true, not_true_eq_false]
 exact frm_no _ _ _
theorem frm_asks {m : List Ty} (i : Ins) (s : List Ty) : Frm m (asksF i s) (asksF i (s ++ m)) := by
 by_cases h73 : i.p = 73
 ·by_cases hc : sFq s [0, 0] = true
  ·have hl : 2 <= s.length := slq hc
   simp only [asksF, h73, Int.reduceEq, false_and, true_and, and_true, and_self, false_or, or_false, true_or, or_true, or_self, if_true, if_false, reduceIte, Bool.false_eq_true, ne_eq, not_false_eq_true, not_true_eq_false, hc, stand_more m hc, tyAt_more m (show 0 < s.length by omega), tyAt_more m (show 1 < s.length by omega), drop_more m (show 2 <= s.length by omega)]
   exact frm_same (frm_put rfl)
  ·have hc0 : sFq s [0, 0] = false := by simpa using hc
   simp only [asksF, h73, Int.reduceEq, false_and, true_and, and_true, and_self, false_or, or_false, true_or, or_true, or_self, if_true, if_false, reduceIte, Bool.false_eq_true, ne_eq, not_false_eq_true, not_true_eq_false, hc0]
   exact frm_no _ _ _
 by_cases h74 : i.p = 74
 ·by_cases hc : sFq s [3] = true
  ·have hl : 1 <= s.length := slq hc
   simp only [asksF, h74, Int.reduceEq, false_and, true_and, and_true, and_self, false_or, or_false, true_or, or_true, or_self, if_true, if_false, reduceIte, Bool.false_eq_true, ne_eq, not_false_eq_true, not_true_eq_false, hc, stand_more m hc, tyAt_more m (show 0 < s.length by omega), drop_more m (show 1 <= s.length by omega)]
   exact frm_put rfl
  ·have hc0 : sFq s [3] = false := by simpa using hc
   simp only [asksF, h74, Int.reduceEq, false_and, true_and, and_true, and_self, false_or, or_false, true_or, or_true, or_self, if_true, if_false, reduceIte, Bool.false_eq_true, ne_eq, not_false_eq_true, not_true_eq_false, hc0]
   exact frm_no _ _ _
 by_cases h75 : i.p = 75
 ·by_cases hc : sFq s [3] = true
  ·have hl : 1 <= s.length := slq hc
   simp only [asksF, h75, Int.reduceEq, false_and, true_and, and_true, and_self, false_or, or_false, true_or, or_true, or_self, if_true, if_false, reduceIte, Bool.false_eq_true, ne_eq, not_false_eq_true, not_true_eq_false, hc, stand_more m hc, tyAt_more m (show 0 < s.length by omega), drop_more m (show 1 <= s.length by omega)]
   exact frm_put rfl
  ·have hc0 : sFq s [3] = false := by simpa using hc
   simp only [asksF, h75, Int.reduceEq, false_and, true_and, and_true, and_self, false_or, or_false, true_or, or_true, or_self, if_true, if_false, reduceIte, Bool.false_eq_true, ne_eq, not_false_eq_true, not_true_eq_false, hc0]
   exact frm_no _ _ _
 by_cases h76 : i.p = 76
 ·by_cases hc : sFq s [3] = true
  ·have hl : 1 <= s.length := slq hc
   simp only [asksF, h76, Int.reduceEq, false_and, true_and, and_true, and_self, false_or, or_false, true_or, or_true, or_self, if_true, if_false, reduceIte, Bool.false_eq_true, ne_eq, not_false_eq_true, not_true_eq_false, hc, stand_more m hc, tyAt_more m (show 0 < s.length by omega), drop_more m (show 1 <= s.length by omega)]
   exact frm_put rfl
  ·have hc0 : sFq s [3] = false := by simpa using hc
   simp only [asksF, h76, Int.reduceEq, false_and, true_and, and_true, and_self, false_or, or_false, true_or, or_true, or_self, if_true, if_false, reduceIte, Bool.false_eq_true, ne_eq, not_false_eq_true, not_true_eq_false, hc0]
   exact frm_no _ _ _
 by_cases h77 : i.p = 77
 ·by_cases hc : sFq s [2] = true
  ·have hl : 1 <= s.length := slq hc
   simp only [asksF, h77, Int.reduceEq, false_and, true_and, and_true, and_self, false_or, or_false, true_or, or_true, or_self, if_true, if_false, reduceIte, Bool.false_eq_true, ne_eq, not_false_eq_true, not_true_eq_false, hc, stand_more m hc, tyAt_more m (show 0 < s.length by omega), drop_more m (show 1 <= s.length by omega)]
   exact frm_put rfl
  ·have hc0 : sFq s [2] = false := by simpa using hc
   simp only [asksF, h77, Int.reduceEq, false_and, true_and, and_true, and_self, false_or, or_false, true_or, or_true, or_self, if_true, if_false, reduceIte, Bool.false_eq_true, ne_eq, not_false_eq_true, not_true_eq_false, hc0]
   exact frm_no _ _ _
 by_cases h78 : i.p = 78
 ·by_cases hc : sFq s [2, 2] = true
  ·have hl : 2 <= s.length := slq hc
   simp only [asksF, h78, Int.reduceEq, false_and, true_and, and_true, and_self, false_or, or_false, true_or, or_true, or_self, if_true, if_false, reduceIte, Bool.false_eq_true, ne_eq, not_false_eq_true, not_true_eq_false, hc, stand_more m hc, tyAt_more m (show 0 < s.length by omega), tyAt_more m (show 1 < s.length by omega), drop_more m (show 2 <= s.length by omega)]
   exact frm_put rfl
  ·have hc0 : sFq s [2, 2] = false := by simpa using hc
   simp only [asksF, h78, Int.reduceEq, false_and, true_and, and_true, and_self, false_or, or_false, true_or, or_true, or_self, if_true, if_false, reduceIte, Bool.false_eq_true, ne_eq, not_false_eq_true, not_true_eq_false, hc0]
   exact frm_no _ _ _
 by_cases h79 : i.p = 79
 ·by_cases hc : sFq s [2, 2] = true
  ·have hl : 2 <= s.length := slq hc
   simp only [asksF, h79, Int.reduceEq, false_and, true_and, and_true, and_self, false_or, or_false, true_or, or_true, or_self, if_true, if_false, reduceIte, Bool.false_eq_true, ne_eq, not_false_eq_true, not_true_eq_false, hc, stand_more m hc, tyAt_more m (show 0 < s.length by omega), tyAt_more m (show 1 < s.length by omega), drop_more m (show 2 <= s.length by omega)]
   exact frm_put rfl
  ·have hc0 : sFq s [2, 2] = false := by simpa using hc
   simp only [asksF, h79, Int.reduceEq, false_and, true_and, and_true, and_self, false_or, or_false, true_or, or_true, or_self, if_true, if_false, reduceIte, Bool.false_eq_true, ne_eq, not_false_eq_true, not_true_eq_false, hc0]
   exact frm_no _ _ _
 simp only [asksF, h73, h74, h75, h76, h77, h78, h79, Int.reduceEq, false_and, true_and, and_true, and_self, false_or, or_false, true_or, or_true, or_self, if_true, if_false, reduceIte, Bool.false_eq_true, ne_eq, not_false_eq_true, not_true_eq_false]
 exact frm_no _ _ _
theorem frm_tells {m : List Ty} (i : Ins) (s : List Ty) : Frm m (tellsF i s) (tellsF i (s ++ m)) := by
 by_cases h45 : i.p = 45
 ·simp only [tellsF, h45, Int.reduceEq, false_and, true_and, and_true, and_self, false_or, or_false, true_or, or_true, or_self, if_true, if_false, reduceIte, Bool.false_eq_true, ne_eq, not_false_eq_true, not_true_eq_false]
  exact frm_same (frm_put rfl)
 by_cases h80 : i.p = 80
 ·by_cases hc : sFq s [6, 6] = true
  ·have hl : 2 <= s.length := slq hc
   simp only [tellsF, h80, Int.reduceEq, false_and, true_and, and_true, and_self, false_or, or_false, true_or, or_true, or_self, if_true, if_false, reduceIte, Bool.false_eq_true, ne_eq, not_false_eq_true, not_true_eq_false, hc, stand_more m hc, tyAt_more m (show 0 < s.length by omega), tyAt_more m (show 1 < s.length by omega), drop_more m (show 2 <= s.length by omega)]
   exact frm_put rfl
  ·have hc0 : sFq s [6, 6] = false := by simpa using hc
   simp only [tellsF, h80, Int.reduceEq, false_and, true_and, and_true, and_self, false_or, or_false, true_or, or_true, or_self, if_true, if_false, reduceIte, Bool.false_eq_true, ne_eq, not_false_eq_true, not_true_eq_false, hc0]
   exact frm_no _ _ _
 by_cases h81 : i.p = 81
 ·by_cases hc : sFq s [0] = true
  ·have hl : 1 <= s.length := slq hc
   simp only [tellsF, h81, Int.reduceEq, false_and, true_and, and_true, and_self, false_or, or_false, true_or, or_true, or_self, if_true, if_false, reduceIte, Bool.false_eq_true, ne_eq, not_false_eq_true, not_true_eq_false, hc, stand_more m hc, tyAt_more m (show 0 < s.length by omega), drop_more m (show 1 <= s.length by omega)]
   exact frm_same (frm_put rfl)
  ·have hc0 : sFq s [0] = false := by simpa using hc
   simp only [tellsF, h81, Int.reduceEq, false_and, true_and, and_true, and_self, false_or, or_false, true_or, or_true, or_self, if_true, if_false, reduceIte, Bool.false_eq_true, ne_eq, not_false_eq_true, not_true_eq_false, hc0]
   exact frm_no _ _ _
 by_cases h82 : i.p = 82
 ·by_cases hc : sFq s [6] = true
  ·have hl : 1 <= s.length := slq hc
   simp only [tellsF, h82, Int.reduceEq, false_and, true_and, and_true, and_self, false_or, or_false, true_or, or_true, or_self, if_true, if_false, reduceIte, Bool.false_eq_true, ne_eq, not_false_eq_true, not_true_eq_false, hc, stand_more m hc, tyAt_more m (show 0 < s.length by omega), drop_more m (show 1 <= s.length by omega)]
   exact frm_same (frm_put rfl)
  ·have hc0 : sFq s [6] = false := by simpa using hc
   simp only [tellsF, h82, Int.reduceEq, false_and, true_and, and_true, and_self, false_or, or_false, true_or, or_true, or_self, if_true, if_false, reduceIte, Bool.false_eq_true, ne_eq, not_false_eq_true, not_true_eq_false, hc0]
   exact frm_no _ _ _
 by_cases h83 : i.p = 83
 ·by_cases hc : sFq s [0] = true
  ·have hl : 1 <= s.length := slq hc
   simp only [tellsF, h83, Int.reduceEq, false_and, true_and, and_true, and_self, false_or, or_false, true_or, or_true, or_self, if_true, if_false, reduceIte, Bool.false_eq_true, ne_eq, not_false_eq_true, not_true_eq_false, hc, stand_more m hc, tyAt_more m (show 0 < s.length by omega), drop_more m (show 1 <= s.length by omega)]
   exact frm_same (fun f ts e => by simp only [Led.ok.injEq] at e; obtain ⟨rfl, rfl⟩ := e; right; simp)
  ·have hc0 : sFq s [0] = false := by simpa using hc
   simp only [tellsF, h83, Int.reduceEq, false_and, true_and, and_true, and_self, false_or, or_false, true_or, or_true, or_self, if_true, if_false, reduceIte, Bool.false_eq_true, ne_eq, not_false_eq_true, not_true_eq_false, hc0]
   exact frm_no _ _ _
 simp only [tellsF, h45, h80, h81, h82, h83, Int.reduceEq, false_and, true_and, and_true, and_self, false_or, or_false, true_or, or_true, or_self, if_true, if_false, reduceIte, Bool.false_eq_true, ne_eq, not_false_eq_true, not_true_eq_false]
 exact frm_no _ _ _
theorem frm_vouches {m : List Ty} (i : Ins) (s : List Ty) : Frm m (vouchesF i s) (vouchesF i (s ++ m)) := by
 by_cases h84 : i.p = 84
 ·by_cases hc : sFq s [0, 4] = true
  ·have hl : 2 <= s.length := slq hc
   simp only [vouchesF, h84, Int.reduceEq, false_and, true_and, and_true, and_self, false_or, or_false, true_or, or_true, or_self, if_true, if_false, reduceIte, Bool.false_eq_true, ne_eq, not_false_eq_true, not_true_eq_false, hc, stand_more m hc, tyAt_more m (show 0 < s.length by omega), tyAt_more m (show 1 < s.length by omega), drop_more m (show 2 <= s.length by omega)]
   exact frm_same (frm_put rfl)
  ·have hc0 : sFq s [0, 4] = false := by simpa using hc
   simp only [vouchesF, h84, Int.reduceEq, false_and, true_and, and_true, and_self, false_or, or_false, true_or, or_true, or_self, if_true, if_false, reduceIte, Bool.false_eq_true, ne_eq, not_false_eq_true, not_true_eq_false, hc0]
   exact frm_no _ _ _
 by_cases h85 : i.p = 85
 ·by_cases hc : sFq s [15] = true
  ·have hl : 1 <= s.length := slq hc
   simp only [vouchesF, h85, Int.reduceEq, false_and, true_and, and_true, and_self, false_or, or_false, true_or, or_true, or_self, if_true, if_false, reduceIte, Bool.false_eq_true, ne_eq, not_false_eq_true, not_true_eq_false, hc, stand_more m hc, tyAt_more m (show 0 < s.length by omega)]
   exact frm_put rfl
  ·have hc0 : sFq s [15] = false := by simpa using hc
   simp only [vouchesF, h85, Int.reduceEq, false_and, true_and, and_true, and_self, false_or, or_false, true_or, or_true, or_self, if_true, if_false, reduceIte, Bool.false_eq_true, ne_eq, not_false_eq_true, not_true_eq_false, hc0]
   exact frm_no _ _ _
 by_cases h86 : i.p = 86
 ·by_cases hc : sFq s [15, 11] = true
  ·have hl : 2 <= s.length := slq hc
   simp only [vouchesF, h86, Int.reduceEq, false_and, true_and, and_true, and_self, false_or, or_false, true_or, or_true, or_self, if_true, if_false, reduceIte, Bool.false_eq_true, ne_eq, not_false_eq_true, not_true_eq_false, hc, stand_more m hc, tyAt_more m (show 0 < s.length by omega), tyAt_more m (show 1 < s.length by omega), drop_more m (show 2 <= s.length by omega)]
   exact frm_same (frm_put rfl)
  ·have hc0 : sFq s [15, 11] = false := by simpa using hc
   simp only [vouchesF, h86, Int.reduceEq, false_and, true_and, and_true, and_self, false_or, or_false, true_or, or_true, or_self, if_true, if_false, reduceIte, Bool.false_eq_true, ne_eq, not_false_eq_true, not_true_eq_false, hc0]
   exact frm_no _ _ _
 by_cases h87 : i.p = 87
 ·by_cases hc : sFq s [11] = true
  ·have hl : 1 <= s.length := slq hc
   simp only [vouchesF, h87, Int.reduceEq, false_and, true_and, and_true, and_self, false_or, or_false, true_or, or_true, or_self, if_true, if_false, reduceIte, Bool.false_eq_true, ne_eq, not_false_eq_true, not_true_eq_false, hc, stand_more m hc, tyAt_more m (show 0 < s.length by omega), drop_more m (show 1 <= s.length by omega)]
   exact frm_same (frm_put rfl)
  ·have hc0 : sFq s [11] = false := by simpa using hc
   simp only [vouchesF, h87, Int.reduceEq, false_and, true_and, and_true, and_self, false_or, or_false, true_or, or_true, or_self, if_true, if_false, reduceIte, Bool.false_eq_true, ne_eq, not_false_eq_true, not_true_eq_false, hc0]
   exact frm_no _ _ _
 simp only [vouchesF, h84, h85, h86, h87, Int.reduceEq, false_and, true_and, and_true, and_self, false_or, or_false, true_or, or_true, or_self, if_true, if_false, reduceIte, Bool.false_eq_true, ne_eq, not_false_eq_true, not_true_eq_false]
 exact frm_no _ _ _
theorem frm_sends {m : List Ty} (i : Ins) (s : List Ty) : Frm m (sendsF i s) (sendsF i (s ++ m)) := by
 by_cases h88 : i.p = 88
 ·by_cases hc : sFq s [0, 5, 7] = true
  ·have hl : 3 <= s.length := slq hc
   simp only [sendsF, h88, Int.reduceEq, false_and, true_and, and_true, and_self, false_or, or_false, true_or, or_true, or_self, if_true, if_false, reduceIte, Bool.false_eq_true, ne_eq, not_false_eq_true, not_true_eq_false, hc, stand_more m hc, tyAt_more m (show 0 < s.length by omega), tyAt_more m (show 1 < s.length by omega), tyAt_more m (show 2 < s.length by omega), drop_more m (show 3 <= s.length by omega)]
   exact frm_same (frm_put rfl)
  ·have hc0 : sFq s [0, 5, 7] = false := by simpa using hc
   simp only [sendsF, h88, Int.reduceEq, false_and, true_and, and_true, and_self, false_or, or_false, true_or, or_true, or_self, if_true, if_false, reduceIte, Bool.false_eq_true, ne_eq, not_false_eq_true, not_true_eq_false, hc0]
   exact frm_no _ _ _
 by_cases h89 : i.p = 89
 ·simp only [sendsF, h89, Int.reduceEq, false_and, true_and, and_true, and_self, false_or, or_false, true_or, or_true, or_self, if_true, if_false, reduceIte, Bool.false_eq_true, ne_eq, not_false_eq_true, not_true_eq_false]
  exact frm_put rfl
 by_cases h90 : i.p = 90
 ·simp only [sendsF, h90, Int.reduceEq, false_and, true_and, and_true, and_self, false_or, or_false, true_or, or_true, or_self, if_true, if_false, reduceIte, Bool.false_eq_true, ne_eq, not_false_eq_true, not_true_eq_false]
  exact frm_put rfl
 by_cases h91 : i.p = 91
 ·simp only [sendsF, h91, Int.reduceEq, false_and, true_and, and_true, and_self, false_or, or_false, true_or, or_true, or_self, if_true, if_false, reduceIte, Bool.false_eq_true, ne_eq, not_false_eq_true, not_true_eq_false]
  exact frm_put rfl
 by_cases h92 : i.p = 92
 ·simp only [sendsF, h92, Int.reduceEq, false_and, true_and, and_true, and_self, false_or, or_false, true_or, or_true, or_self, if_true, if_false, reduceIte, Bool.false_eq_true, ne_eq, not_false_eq_true, not_true_eq_false]
  exact frm_put rfl
 simp only [sendsF, h88, h89, h90, h91, h92, Int.reduceEq, false_and, true_and, and_true, and_self, false_or, or_false, true_or, or_true, or_self, if_true, if_false, reduceIte, Bool.false_eq_true, ne_eq, not_false_eq_true, not_true_eq_false]
 exact frm_no _ _ _
theorem frm_both {m : List Ty} {c : Prop} [Decidable c] {a a' b b' : Led} (h : Frm m a a') (h2 : Frm m b b') : Frm m (if c then a else b) (if c then a' else b') := by
 by_cases hc : c
 ·rw [if_pos hc, if_pos hc]; exact h
 ·rw [if_neg hc, if_neg hc]; exact h2
theorem frm_ins {m : List Ty} {row : List Tr -> List Ty -> Led} (hr : ∀ l s, Frm m (row l s) (row l (s ++ m))) (i : Ins) (hn : 0 <= i.n) (s : List Ty) : Frm m (insF row i s) (insF row i (s ++ m)) := by
 unfold insF
 repeat' first | exact frm_moves i hn s | exact frm_binds i s | exact frm_gathers i s | exact frm_chooses hr i s | exact frm_enters hr i s | exact frm_reckons i s | exact frm_asks i s | exact frm_tells i s | exact frm_vouches i s | exact frm_sends i s | apply frm_both
theorem take_n {i j : Ins} {f : UInt8} {t : Tr} (hn : 0 <= i.n) (h : takeF i f t = some j) : 0 <= j.n := by
 unfold takeF at h
 repeat' split at h
 all_goals first | (cases h; done) | (injection h with h; subst h; first | exact hn | (rename_i h2; exact h2.2.1))
theorem takes_n : ∀ {fs : List UInt8} {l : List Tr} {i j : Ins}, 0 <= i.n -> takesF i fs l = some j -> 0 <= j.n
 | [], l, i, j, hn, h => by simp only [takesF, Option.some.injEq] at h; subst h; exact hn
 | _ :: _, [], i, j, hn, h => by simp only [takesF, Option.some.injEq] at h; subst h; exact hn
 | f :: fs, t :: l, i, j, hn, h => by
  simp only [takesF] at h
  cases e : takeF i f t with
  | none => simp [e] at h
  | some i2 => simp only [e] at h; exact takes_n (take_n hn e) h
theorem read_n {t : Tr} {i : Ins} (h : readF t = some i) : 0 <= i.n := by
 unfold readF at h
 split at h
 ·exact takes_n (by simp) h
 ·cases h
theorem frm_step {m : List Ty} (hm : m.all gYq = true) : ∀ (N : Nat) (t : Tr) (s : List Ty), Frm m (stepF N t s) (stepF N t (s ++ m))
 | 0, t, s => frm_no _ _ _
 | N + 1, t, s => by
  rw [stepF, stepF]
  by_cases h : t.k0 = 3
  ·rw [if_pos h, if_pos h]; exact frm_row hm (frm_step hm N) _ _
  ·rw [if_neg h, if_neg h]
   cases e : readF t with
   | none => exact frm_no _ _ _
   | some i => exact frm_ins (fun l s => frm_row hm (frm_step hm N) l s) i (read_n e) s
theorem code_ok {n : Tr} {s ts : List Ty} {f : Bool} (h : codeF n s = .ok f ts) : goodF n = 0 /\ n.k0 = 3 /\ s.length <= 40 /\ s.all gYq = true /\ rowG (stepF 300) n.args0 false s = .ok f ts := by
 unfold codeF at h
 by_cases h1 : goodF n = 0
 ·by_cases h2 : n.k0 = 3
  ·by_cases h3 : 40 < s.length
   ·simp [h1, h2, h3] at h
   ·by_cases h4 : s.all gYq = true
    ·rw [if_neg (by simp [h1]), if_neg (by simp [h2]), if_neg h3, if_pos h4] at h
     exact ⟨h1, h2, by omega, h4, h⟩
    ·rw [if_neg (by simp [h1]), if_neg (by simp [h2]), if_neg h3, if_neg h4] at h
     cases h
  ·rw [if_neg (by simp [h1]), if_pos h2] at h
   cases h
 ·rw [if_pos h1] at h
  cases h
theorem code_good {n : Tr} {s ts : List Ty} {f : Bool} (h : codeF n s = .ok f ts) : ts.length <= 40 /\ ts.all gYq = true /\ (f = true -> ts = []) := by
 obtain ⟨_, _, h3, h4, h5⟩ := code_ok h
 exact rowG_good (noTys_step 300) _ _ _ h3 h4 (by simp) h5
theorem firstWs_app (d : Nat) : ∀ (a b : List Tr), firstWs d a = 0 -> firstWs d b = 0 -> firstWs d (a ++ b) = 0
 | [], b, _, h => h
 | t :: a, b, h, h2 => by
  simp only [firstWs] at h
  by_cases ht : firstW d t = 0
  ·simp only [ht, ne_eq, not_true_eq_false, if_false] at h
   simp only [List.cons_append, firstWs, ht, ne_eq, not_true_eq_false, if_false]
   exact firstWs_app d a b h h2
  ·rw [if_pos ht] at h; exact absurd h ht
theorem good_firsts {n : Tr} (h : goodF n = 0) : firstWs 2 n.args0 = 0 /\ n.size <= 300 := by
 obtain ⟨k, m, p, s, args⟩ := n
 unfold goodF at h
 by_cases h1 : firstW 1 (.nd k m p s args) = 0
 ·rw [if_neg (by simp [h1])] at h
  by_cases h2 : 300 < (Tr.nd k m p s args).size
  ·rw [if_pos h2] at h; cases h
  ·refine ⟨?_, by omega⟩
   rw [firstW, if_neg (by omega)] at h1
   by_cases h3 : Lf.wrongF k m p s args.length = 0
   ·rw [if_neg (by simp [h3])] at h1; exact h1
   ·rw [if_pos h3] at h1; exact absurd h1 h3
 ·rw [if_pos h1] at h; exact absurd h h1
theorem good_both {a b : Tr} (ha : goodF a = 0) (hb : goodF b = 0) (hz : a.size + b.size <= 300) : goodF (.nd 3 0 0 ⟨#[]⟩ (a.args0 ++ b.args0)) = 0 := by
 obtain ⟨a1, _⟩ := good_firsts ha
 obtain ⟨b1, _⟩ := good_firsts hb
 have hs : (Tr.nd 3 0 0 ⟨#[]⟩ (a.args0 ++ b.args0)).size <= 300 := by
  obtain ⟨_, _, _, _, x⟩ := a
  obtain ⟨_, _, _, _, y⟩ := b
  simp only [Tr.size, Tr.args0, sizes_append] at hz ⊢
  omega
 have hw : Lf.wrongF 3 0 0 ⟨#[]⟩ (a.args0 ++ b.args0).length = 0 := by
  simp [Lf.wrongF, Lf.isKindB, Lf.moreB]
  rfl
 have h1 : firstW 1 (.nd 3 0 0 ⟨#[]⟩ (a.args0 ++ b.args0)) = 0 := by
  rw [firstW, if_neg (by omega), if_neg (fun h => h hw)]
  exact firstWs_app 2 _ _ a1 b1
 unfold goodF
 rw [if_neg (by simp [h1]), if_neg (by omega)]
theorem code_parts {a b : Tr} {s xs ys : List Ty} {f : Bool} (ha : codeF a s = .ok false xs) (hb : codeF b xs = .ok f ys) (hz : a.size + b.size <= 300) : codeF (.nd 3 0 0 ⟨#[]⟩ (a.args0 ++ b.args0)) s = .ok f ys := by
 obtain ⟨g1, k1, l1, t1, r1⟩ := code_ok ha
 obtain ⟨g2, k2, l2, t2, r2⟩ := code_ok hb
 unfold codeF
 rw [if_neg (by rw [good_both g1 g2 hz]; simp), if_neg (by simp [Tr.k0]), if_neg (by omega), if_pos t1]
 show rowG (stepF 300) (a.args0 ++ b.args0) false s = _
 rw [rowG_append, r1]
 exact r2
theorem code_frame {n : Tr} {s ts m : List Ty} {f : Bool} (h : codeF n s = .ok f ts) : codeF n (s ++ m) = .no 7 \/ (codeF n (s ++ m) = .no 5 /\ m.all gYq = false) \/ codeF n (s ++ m) = .ok f (if f = true then [] else ts ++ m) := by
 have hf := (code_good h).2.2
 obtain ⟨g1, k1, l1, t1, r1⟩ := code_ok h
 unfold codeF
 rw [if_neg (by simp [g1]), if_neg (by simp [k1])]
 by_cases h3 : 40 < (s ++ m).length
 ·rw [if_pos h3]; exact .inl rfl
 ·rw [if_neg h3, List.all_append, t1, Bool.true_and]
  by_cases hm : m.all gYq = true
  ·rw [if_pos hm]
   rcases frm_row hm (frm_step hm 300) n.args0 s f ts r1 with e | e
   ·exact .inl e
   ·right; right
    rw [e]
    cases f with
    | false => rfl
    | true => simp [hf rfl]
  ·rw [if_neg hm]
   exact .inr (.inl ⟨rfl, by simpa using hm⟩)
end Go.Proofs.YtfakmokbccnamaaGreat
