/- What package num is to answer, as plain functions on integers, and the plain arithmetic that the four statements on it lean on; nothing of the program is in this text. -/
namespace Go.Proofs.Ytlambneopjecbaa.Ar

def inB (n : Int) : Bool := decide (-1152921504606846976 ≤ n ∧ n ≤ 1152921504606846976)
theorem inB_true {n : Int} (h : inB n = true) : -1152921504606846976 ≤ n ∧ n ≤ 1152921504606846976 := of_decide_eq_true h
theorem inB_false {n : Int} (h : inB n = false) : ¬ (-1152921504606846976 ≤ n ∧ n ≤ 1152921504606846976) := of_decide_eq_false h
theorem inB_mk {n : Int} (h : -1152921504606846976 ≤ n ∧ n ≤ 1152921504606846976) : inB n = true := decide_eq_true h
theorem inB_no {n : Int} (h : ¬ (-1152921504606846976 ≤ n ∧ n ≤ 1152921504606846976)) : inB n = false := decide_eq_false h

/-- Two numbers in, one that was reckoned out of them: its bounds. -/
def pairF (a b r : Int) : Int × Int := if inB a = true ∧ inB b = true then (if inB r = true then (r, 0) else (0, 11)) else (0, 2)
def addF (a b : Int) : Int × Int := pairF a b (a + b)
def subF (a b : Int) : Int × Int := pairF a b (a - b)
def mulF (a b : Int) : Int × Int := pairF a b (a * b)
def absF (a : Int) : Int × Int := if inB a = true then ((a.natAbs : Int), 0) else (0, 2)
def edivF (a b : Int) : Int × Int × Int := if inB a = true ∧ inB b = true then (if b = 0 then (0, 0, 6) else (a / b, a % b, 0)) else (0, 0, 2)

theorem pairF_out {a b r : Int} (h : ¬ (inB a = true ∧ inB b = true)) : pairF a b r = (0, 2) := by unfold pairF; rw [if_neg h]
theorem pairF_ok {a b r : Int} (ha : inB a = true) (hb : inB b = true) (hr : inB r = true) : pairF a b r = (r, 0) := by unfold pairF; rw [if_pos ⟨ha, hb⟩, if_pos hr]
theorem pairF_over {a b r : Int} (ha : inB a = true) (hb : inB b = true) (hr : ¬ inB r = true) : pairF a b r = (0, 11) := by unfold pairF; rw [if_pos ⟨ha, hb⟩, if_neg hr]
theorem pairF_cases (a b r : Int) : (inB a = true ∧ inB b = true ∧ inB r = true ∧ pairF a b r = (r, 0)) ∨ (inB a = true ∧ inB b = true ∧ ¬ inB r = true ∧ pairF a b r = (0, 11)) ∨ (¬ (inB a = true ∧ inB b = true) ∧ pairF a b r = (0, 2)) := by
  by_cases h : inB a = true ∧ inB b = true
  · by_cases hr : inB r = true
    · exact Or.inl ⟨h.1, h.2, hr, pairF_ok h.1 h.2 hr⟩
    · exact Or.inr (Or.inl ⟨h.1, h.2, hr, pairF_over h.1 h.2 hr⟩)
  · exact Or.inr (Or.inr ⟨h, pairF_out h⟩)
theorem pairF_in (a b r : Int) : inB (pairF a b r).1 = true := by
  rcases pairF_cases a b r with ⟨_, _, h, e⟩ | ⟨_, _, _, e⟩ | ⟨_, e⟩ <;> rw [e]
  · exact h
  · rfl
  · rfl
theorem pairF_swap (a b r : Int) : pairF a b r = pairF b a r := by
  rcases pairF_cases a b r with ⟨x, y, h, e⟩ | ⟨x, y, h, e⟩ | ⟨h, e⟩ <;> rw [e]
  · exact (pairF_ok y x h).symm
  · exact (pairF_over y x h).symm
  · exact (pairF_out (fun c => h ⟨c.2, c.1⟩)).symm
theorem pairF_zero {a b r : Int} (h : (pairF a b r).2 = 0) : inB a = true ∧ inB b = true ∧ inB r = true ∧ pairF a b r = (r, 0) := by
  rcases pairF_cases a b r with g | ⟨_, _, _, e⟩ | ⟨_, e⟩
  · exact g
  · rw [e] at h; simp at h
  · rw [e] at h; simp at h
theorem pairF_wf (a b r : Int) : 0 ≤ (pairF a b r).2 ∧ (pairF a b r).2 ≤ 11 := by
  rcases pairF_cases a b r with ⟨_, _, _, e⟩ | ⟨_, _, _, e⟩ | ⟨_, e⟩ <;> rw [e] <;> simp

theorem add_swap (a b : Int) : addF a b = addF b a := by unfold addF; rw [pairF_swap, Int.add_comm]
theorem mul_swap (a b : Int) : mulF a b = mulF b a := by unfold mulF; rw [pairF_swap, Int.mul_comm]
theorem sub_add {a b : Int} (h : (addF a b).2 = 0) : subF (addF a b).1 b = (a, 0) := by
  unfold addF at h
  obtain ⟨ha, hb, hr, e⟩ := pairF_zero h
  unfold subF addF
  rw [e]
  have e2 : a + b - b = a := by omega
  simp only [e2]
  exact pairF_ok hr hb ha
theorem dist {a b c : Int} (h : (addF a b).2 = 0) (h1 : (mulF (addF a b).1 c).2 = 0) (h2 : (mulF a c).2 = 0) (h3 : (mulF b c).2 = 0) :
    addF (mulF a c).1 (mulF b c).1 = ((mulF (addF a b).1 c).1, 0) := by
  unfold addF at h
  obtain ⟨ha, hb, hr, e⟩ := pairF_zero h
  have e0 : (addF a b).1 = a + b := by unfold addF; rw [e]
  rw [e0] at h1 ⊢
  unfold mulF at h1 h2 h3 ⊢
  obtain ⟨_, _, k1, e1⟩ := pairF_zero h1
  obtain ⟨_, _, k2, e2⟩ := pairF_zero h2
  obtain ⟨_, _, k3, e3⟩ := pairF_zero h3
  rw [e1, e2, e3]
  unfold addF
  simp only
  rw [show a * c + b * c = (a + b) * c from (Int.add_mul a b c).symm]
  exact pairF_ok k2 k3 k1

/-! The quotient and the rest. -/
theorem ediv_cases (a b : Int) : (inB a = true ∧ inB b = true ∧ b ≠ 0 ∧ edivF a b = (a / b, a % b, 0)) ∨ (inB a = true ∧ inB b = true ∧ b = 0 ∧ edivF a b = (0, 0, 6)) ∨ (¬ (inB a = true ∧ inB b = true) ∧ edivF a b = (0, 0, 2)) := by
  unfold edivF
  by_cases h : inB a = true ∧ inB b = true
  · by_cases hb : b = 0
    · exact Or.inr (Or.inl ⟨h.1, h.2, hb, by rw [if_pos h, if_pos hb]⟩)
    · exact Or.inl ⟨h.1, h.2, hb, by rw [if_pos h, if_neg hb]⟩
  · exact Or.inr (Or.inr ⟨h, by rw [if_neg h]⟩)
theorem quo_bd {a b : Int} (ha : -1152921504606846976 ≤ a ∧ a ≤ 1152921504606846976) : -1152921504606846976 ≤ a / b ∧ a / b ≤ 1152921504606846976 := by
  have h : (a / b).natAbs ≤ a.natAbs := Int.natAbs_ediv_le_natAbs a b
  omega
theorem rest_bd {a b : Int} (hb : b ≠ 0) : 0 ≤ a % b ∧ a % b < (b.natAbs : Int) := ⟨Int.emod_nonneg a hb, Int.emod_lt a hb⟩
theorem quo_rest (a b : Int) : a / b * b + a % b = a := by rw [Int.mul_comm]; exact Int.mul_ediv_add_emod a b

theorem ediv_of {a b q r : Int} (hb : b ≠ 0) (e : b * q + r = a) (h0 : 0 ≤ r) (h1 : r < (b.natAbs : Int)) : a / b = q ∧ a % b = r := by
  have er : a % b = r := by
    rw [← e, Int.mul_add_emod_self_left]
    rcases Int.lt_or_gt_of_ne hb with hn | hp
    · rw [← Int.emod_neg]; exact Int.emod_eq_of_lt h0 (by omega)
    · exact Int.emod_eq_of_lt h0 (by omega)
  have eq : b * (a / b) = b * q := by have := Int.mul_ediv_add_emod a b; rw [er] at this; omega
  exact ⟨Int.eq_of_mul_eq_mul_left hb eq, er⟩
theorem t_bounds (a : Int) {b : Int} (hb : b ≠ 0) : (a.tdiv b).natAbs ≤ a.natAbs ∧ (a.tmod b).natAbs < b.natAbs ∧ (0 ≤ a → 0 ≤ a.tmod b) ∧ (a ≤ 0 → a.tmod b ≤ 0) ∧ b * a.tdiv b + a.tmod b = a := by
  refine ⟨Int.natAbs_tdiv_le_natAbs a b, ?_, fun h => Int.tmod_nonneg b h, fun h => ?_, Int.mul_tdiv_add_tmod a b⟩
  · rw [Int.natAbs_tmod]; exact Nat.mod_lt _ (by omega)
  · have := Int.tmod_nonneg (a := -a) b (by omega)
    rw [Int.neg_tmod] at this; omega
theorem t_rest (a : Int) {b : Int} (hb : b ≠ 0) : (0 ≤ a.tmod b → a / b = a.tdiv b ∧ a % b = a.tmod b) ∧ (a.tmod b < 0 → 0 < b → a / b = a.tdiv b - 1 ∧ a % b = a.tmod b + b) ∧ (a.tmod b < 0 → b < 0 → a / b = a.tdiv b + 1 ∧ a % b = a.tmod b - b) := by
  obtain ⟨_, h2, _, _, h5⟩ := t_bounds a hb
  generalize a.tdiv b = q at *
  generalize a.tmod b = r at *
  refine ⟨fun h => ediv_of hb h5 h (by omega), fun h hp => ediv_of hb ?_ (by omega) (by omega), fun h hn => ediv_of hb ?_ (by omega) (by omega)⟩
  · rw [Int.mul_sub]; omega
  · rw [Int.mul_add]; omega

/-! Products by sizes and signs. -/
theorem mul_same {a b : Int} (h : (a < 0 ∧ b < 0) ∨ (0 ≤ a ∧ 0 ≤ b)) : a * b = ((a.natAbs * b.natAbs : Nat) : Int) := by
  have h1 : (a * b).natAbs = a.natAbs * b.natAbs := Int.natAbs_mul a b
  have h2 : 0 ≤ a * b := by
    rcases h with ⟨x, y⟩ | ⟨x, y⟩
    · exact Int.mul_nonneg_of_nonpos_of_nonpos (by omega) (by omega)
    · exact Int.mul_nonneg x y
  rw [← h1]; omega
theorem mul_other {a b : Int} (h : (a < 0 ∧ 0 ≤ b) ∨ (0 ≤ a ∧ b < 0)) : a * b = -((a.natAbs * b.natAbs : Nat) : Int) := by
  have h1 : (a * b).natAbs = a.natAbs * b.natAbs := Int.natAbs_mul a b
  have h2 : 0 ≤ -(a * b) := by
    rcases h with ⟨x, y⟩ | ⟨x, y⟩
    · rw [← Int.neg_mul]; exact Int.mul_nonneg (by omega) y
    · rw [← Int.mul_neg]; exact Int.mul_nonneg x (by omega)
  rw [← h1]; omega
theorem mul_in (a b : Int) : Ar.inB (a * b) = true ↔ a.natAbs * b.natAbs ≤ 1152921504606846976 := by
  have h1 : (a * b).natAbs = a.natAbs * b.natAbs := Int.natAbs_mul a b
  rw [← h1]
  constructor
  · intro h; have := inB_true h; omega
  · intro h; exact inB_mk (by omega)

end Go.Proofs.Ytlambneopjecbaa.Ar
