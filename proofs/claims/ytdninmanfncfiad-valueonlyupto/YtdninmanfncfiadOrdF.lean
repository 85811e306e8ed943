/- The order of values, as plain data: it goes one way, and on from one to the next. -/
import Derived.Test.YtdninmanfncfiadValF
namespace Go.Proofs.Ytdninmanfncfiad
set_option linter.unusedVariables false

/-- one of -1, 0, 1 -/
def Sgn (p : Int) : Prop := p = -1 ∨ p = 0 ∨ p = 1

/-- from the first to the second, from the second to the third, from the first to the third -/
def On3 (p q r : Int) : Prop := p ≤ 0 → q ≤ 0 → r ≤ 0 ∧ (r = 0 ↔ p = 0 ∧ q = 0)

def lexI (p q : Int) : Int := if p ≠ 0 then p else q

theorem lexI_sgn {p q : Int} (hp : Sgn p) (hq : Sgn q) : Sgn (lexI p q) := by
  unfold lexI; split <;> assumption

theorem lexI_neg {p q : Int} : -lexI p q = lexI (-p) (-q) := by
  unfold lexI
  by_cases h : p = 0
  · simp [h]
  · rw [if_pos h, if_pos (by omega)]

theorem lexI_on3 {p1 p2 q1 q2 r1 r2 : Int} (h1 : On3 p1 q1 r1) (h2 : On3 p2 q2 r2) : On3 (lexI p1 p2) (lexI q1 q2) (lexI r1 r2) := by
  unfold On3 lexI at *
  intro hp hq
  by_cases a : p1 = 0 <;> by_cases b : q1 = 0 <;> by_cases c : r1 = 0 <;> simp [a, b, c] at hp hq h1 h2 ⊢ <;> omega

theorem cmpI_sgn (a b : Int) : Sgn (cmpI a b) := by unfold Sgn cmpI; split <;> (try split) <;> simp
theorem cmpI_neg (a b : Int) : cmpI b a = -cmpI a b := by unfold cmpI; split <;> split <;> (try split) <;> omega
theorem cmpI_on3 (a b c : Int) : On3 (cmpI a b) (cmpI b c) (cmpI a c) := by
  unfold On3 cmpI; split <;> split <;> split <;> (try split) <;> (try split) <;> (try split) <;> omega

def cmpL : List UInt8 → List UInt8 → Int
  | [], [] => 0
  | [], _ :: _ => -1
  | _ :: _, [] => 1
  | a :: x, b :: y => lexI (cmpI a.toNat b.toNat) (cmpL x y)

theorem cmpL_sgn : ∀ x y, Sgn (cmpL x y)
  | [], [] => .inr (.inl rfl)
  | [], _ :: _ => .inl rfl
  | _ :: _, [] => .inr (.inr rfl)
  | a :: x, b :: y => lexI_sgn (cmpI_sgn _ _) (cmpL_sgn x y)

theorem cmpL_neg : ∀ x y, cmpL y x = -cmpL x y
  | [], [] => rfl
  | [], _ :: _ => rfl
  | _ :: _, [] => rfl
  | a :: x, b :: y => by rw [cmpL, cmpL, lexI_neg, cmpI_neg, cmpL_neg x y]

theorem cmpL_on3 : ∀ x y z, On3 (cmpL x y) (cmpL y z) (cmpL x z)
  | [], [], [] => by simp [On3, cmpL]
  | [], [], _ :: _ => by simp [On3, cmpL]
  | [], _ :: _, [] => by simp [On3, cmpL]
  | [], _ :: _, _ :: _ => by simp [On3, cmpL]
  | _ :: _, [], _ => by intro h; simp [cmpL] at h
  | _ :: _, _ :: _, [] => by intro _ h; simp [cmpL] at h
  | a :: x, b :: y, c :: z => lexI_on3 (cmpI_on3 _ _ _) (cmpL_on3 x y z)

theorem cmpL_zero : ∀ x y, cmpL x y = 0 ↔ x = y
  | [], [] => by simp [cmpL]
  | [], _ :: _ => by simp [cmpL]
  | _ :: _, [] => by simp [cmpL]
  | a :: x, b :: y => by
    have ih := cmpL_zero x y
    have h : cmpI a.toNat b.toNat = 0 ↔ a = b := by
      constructor
      · intro h
        unfold cmpI at h
        split at h
        · cases h
        · split at h
          · cases h
          · exact UInt8.toNat_inj.1 (by omega)
      · rintro rfl; simp [cmpI]
    simp only [cmpL, lexI, List.cons.injEq]
    by_cases h0 : cmpI a.toNat b.toNat = 0
    · have he := h.1 h0
      rw [if_neg (by simpa using h0), ih]
      exact ⟨fun hh => ⟨he, hh⟩, fun hh => hh.2⟩
    · simp only [ne_eq, h0, not_false_eq_true, if_true, false_iff]
      intro hh
      exact h0 (h.2 hh.1)

theorem less_cmpL : ∀ x y, Op.bytesLess x y = decide (cmpL x y < 0)
  | [], [] => rfl
  | [], _ :: _ => by simp [Op.bytesLess, cmpL]
  | _ :: _, [] => by simp [Op.bytesLess, cmpL]
  | a :: x, b :: y => by
    rw [Op.bytesLess, less_cmpL x y]
    have hlt : (a < b) = (a.toNat < b.toNat) := by rw [UInt8.lt_iff_toNat_lt]
    by_cases h1 : a.toNat < b.toNat
    · have h2 : cmpI a.toNat b.toNat = -1 := by rw [cmpI, if_pos (by omega)]
      simp [cmpL, lexI, h2, hlt, h1]
    · by_cases h3 : b.toNat < a.toNat
      · have h2 : cmpI a.toNat b.toNat = 1 := by rw [cmpI, if_neg (by omega), if_pos (by omega)]
        have hne : ¬ a = b := by rintro rfl; omega
        simp [cmpL, lexI, h2, hlt, h1, hne]
      · have h2 : cmpI a.toNat b.toNat = 0 := by rw [cmpI, if_neg (by omega), if_neg (by omega)]
        have he : a = b := UInt8.toNat_inj.1 (by omega)
        subst he
        simp [cmpL, lexI, h2, hlt]

theorem cmpS_cmpL (s t : ByteArray) : cmpS s t = cmpL s.toList t.toList := by
  unfold cmpS
  rw [less_cmpL]
  rcases cmpL_sgn s.toList t.toList with h | h | h
  · rw [h]; simp
  · rw [h, if_neg (by simp), if_pos ((cmpL_zero _ _).1 h)]
  · rw [h, if_neg (by simp), if_neg (fun e => by rw [(cmpL_zero _ _).2 e] at h; cases h)]

theorem ordC_lex (x y : Va) : ordC x y = lexI (cmpI x.n y.n) (cmpL x.s.toList y.s.toList) := by
  unfold ordC; rw [cmpS_cmpL]; rfl

theorem ordC_sgn (x y : Va) : Sgn (ordC x y) := by rw [ordC_lex]; exact lexI_sgn (cmpI_sgn _ _) (cmpL_sgn _ _)
theorem ordC_neg (x y : Va) : ordC y x = -ordC x y := by rw [ordC_lex, ordC_lex, lexI_neg, cmpI_neg, cmpL_neg]
theorem ordC_on3 (x y z : Va) : On3 (ordC x y) (ordC y z) (ordC x z) := by rw [ordC_lex, ordC_lex, ordC_lex]; exact lexI_on3 (cmpI_on3 _ _ _) (cmpL_on3 _ _ _)

theorem sbsV_lex (c : Va → Va → Int) (x y : Va) : sbsV c x y = lexI (c x y) (sbsVs c x.args y.args) := by rw [sbsV_eq]; rfl
theorem sbsVs_cons (c : Va → Va → Int) (x y : Va) (xs ys : List Va) : sbsVs c (x :: xs) (y :: ys) = lexI (sbsV c x y) (sbsVs c xs ys) := by rw [sbsVs]; rfl

mutual
theorem ordV_all : ∀ (x y z : Va), Sgn (sbsV ordC x y) ∧ sbsV ordC y x = -sbsV ordC x y ∧ On3 (sbsV ordC x y) (sbsV ordC y z) (sbsV ordC x z)
  | .mk k n a s args ty co, y, z => by
    obtain ⟨h1, h2, h3⟩ := ordVs_all args y.args z.args
    simp only [sbsV_lex]
    exact ⟨lexI_sgn (ordC_sgn _ _) h1, by rw [lexI_neg, ← ordC_neg]; exact congrArg (lexI _) h2, lexI_on3 (ordC_on3 _ _ _) h3⟩
theorem ordVs_all : ∀ (xs ys zs : List Va), Sgn (sbsVs ordC xs ys) ∧ sbsVs ordC ys xs = -sbsVs ordC xs ys ∧ On3 (sbsVs ordC xs ys) (sbsVs ordC ys zs) (sbsVs ordC xs zs)
  | [], [], [] => by simp [Sgn, On3, sbsVs]
  | [], [], _ :: _ => by simp [Sgn, On3, sbsVs]
  | [], _ :: _, [] => by simp [Sgn, On3, sbsVs]
  | [], _ :: _, _ :: _ => by simp [Sgn, On3, sbsVs]
  | _ :: _, [], _ => by refine ⟨.inr (.inr (by rw [sbsVs])), by rw [sbsVs, sbsVs], fun h => ?_⟩; rw [sbsVs] at h; omega
  | x :: xs, y :: ys, [] => by
    obtain ⟨h1, h2, _⟩ := ordV_all x y y
    obtain ⟨k1, k2, _⟩ := ordVs_all xs ys []
    simp only [sbsVs_cons]
    refine ⟨lexI_sgn h1 k1, by rw [lexI_neg, h2, k2], fun _ h => ?_⟩
    rw [sbsVs] at h; omega
  | x :: xs, y :: ys, z :: zs => by
    obtain ⟨h1, h2, h3⟩ := ordV_all x y z
    obtain ⟨k1, k2, k3⟩ := ordVs_all xs ys zs
    simp only [sbsVs_cons]
    exact ⟨lexI_sgn h1 k1, by rw [lexI_neg, h2, k2], lexI_on3 h3 k3⟩
end

theorem ordV_sgn (x y : Va) : Sgn (ordV x y) := (ordV_all x y y).1
theorem ordV_neg (x y : Va) : ordV y x = -ordV x y := (ordV_all x y y).2.1
theorem ordV_on3 (x y z : Va) : On3 (ordV x y) (ordV y z) (ordV x z) := (ordV_all x y z).2.2

/-- what Same says of two values by themselves -/
def sameC (x y : Va) : Int := if x.k = y.k ∧ x.n = y.n ∧ x.a = y.a ∧ x.s.toList = y.s.toList then 0 else 1

/-- a value without Types and Code, all through -/
inductive Plain : Va → Prop
  | mk {k n a : Int} {s : ByteArray} {args : List Va} (h : ∀ x ∈ args, Plain x) : Plain (.mk k n a s args [] [])

theorem Plain.args {x : Va} (h : Plain x) : ∀ y ∈ x.args, Plain y := by cases h with | mk h => exact h
theorem Plain.bare {x : Va} (h : Plain x) : x.types = [] ∧ x.code = [] := by cases h; exact ⟨rfl, rfl⟩

theorem ordC_zero (x y : Va) : ordC x y = 0 ↔ x.n = y.n ∧ x.s.toList = y.s.toList := by
  rw [ordC_lex]
  unfold lexI
  by_cases h : x.n = y.n
  · rw [h, show cmpI y.n y.n = 0 from by simp [cmpI], if_neg (by simp), cmpL_zero]; simp
  · have h2 : cmpI x.n y.n ≠ 0 := by unfold cmpI; split <;> (try split) <;> omega
    rw [if_pos h2]
    exact ⟨fun e => absurd e h2, fun e => absurd e.1 h⟩

theorem lexI_zero {p q : Int} : lexI p q = 0 ↔ p = 0 ∧ q = 0 := by
  unfold lexI
  by_cases h : p = 0
  · simp [h]
  · simp [h]

theorem comp_parts {T : Ty} (hc : compT T = true) : (1 ≤ T.t ∧ T.t ≤ 15 ∧ T.t ≠ 8 ∧ T.t ≠ 10 ∧ T.t ≠ 13 ∧ T.t ≠ 14 ∧ T.t ≠ 15) ∧ ∀ y ∈ T.args, compT y = true := by
  obtain ⟨t, targs⟩ := T
  simp only [compT, allF, Bool.and_eq_true, innAll, Bool.not_true, Bool.false_or] at hc
  obtain ⟨hcb, hca⟩ := hc
  simp only [compB, decide_eq_true_eq] at hcb
  rw [allFs_all, List.all_eq_true] at hca
  exact ⟨hcb, hca⟩

theorem formed_args2 {d : Nat} {T : Ty} (h : formedB d T = true) : (T.args.length : Int) = partsF T.t ∧ ∀ y ∈ T.args, formedB (d + 1) y = true := by
  obtain ⟨t, args⟩ := T
  simp only [formedB, Bool.and_eq_true, decide_eq_true_eq] at h
  refine ⟨h.1.2.2, fun y hy => ?_⟩
  have := h.2
  rw [formedBs_all, List.all_eq_true] at this
  exact this y hy

theorem hasV_parts {T : Ty} {x : Va} (hv : hasV x T = true) : fitsF T x = true ∧ ∃ ts, argTys T x = some ts ∧ hasVs x.args ts = true := by
  cases x with
  | mk k n a s args types code =>
    rw [hasV] at hv
    simp only [Bool.and_eq_true] at hv
    obtain ⟨⟨hf, hp⟩, _⟩ := hv
    refine ⟨hf, ?_⟩
    cases hq : argTys T (.mk k n a s args types code) with
    | none => rw [hq] at hp; cases hp
    | some ts => rw [hq] at hp; exact ⟨ts, rfl, hp⟩

/-- what is known of a value of a type that can be compared -/
theorem comp_fits {T : Ty} {x : Va} {d : Nat} (hv : hasV x T = true) (hc : compT T = true) (hfd : formedB d T = true) :
    x.k = T.t ∧ x.a = 0 ∧ x.types = [] ∧ x.code = [] ∧ ∃ ts, argTys T x = some ts ∧ hasVs x.args ts = true ∧ ∀ y ∈ ts, y ∈ T.args := by
  obtain ⟨hcb, hca⟩ := comp_parts hc
  obtain ⟨hlen, _⟩ := formed_args2 hfd
  obtain ⟨hf, ts, hts, hhs⟩ := hasV_parts hv
  unfold fitsF at hf
  simp only [Bool.and_eq_true, decide_eq_true_eq, Bool.or_eq_true] at hf
  obtain ⟨⟨⟨⟨⟨hk, hN⟩, ha⟩, _⟩, hty⟩, hco⟩ := hf
  have ha0 : x.a = 0 := by
    rcases ha with h | h
    · exact h
    · exact absurd h.1 (by omega)
  have hty0 : x.types = [] := by
    unfold fitsTF at hty
    rw [if_neg (by omega), if_neg (by omega)] at hty
    exact List.eq_nil_of_length_eq_zero (by simpa using hty)
  have hco0 : x.code = [] := by
    rcases hco with h | h
    · exact List.eq_nil_of_length_eq_zero h
    · exact absurd h (by omega)
  refine ⟨hk, ha0, hty0, hco0, ts, hts, hhs, ?_⟩
  intro y hy
  unfold argTys at hts
  simp only at hts
  rw [if_neg (by omega)] at hts
  split at hts
  · simp only [Option.some.injEq] at hts; subst hts; simp at hy
  · rw [if_neg (by omega), if_neg (by omega)] at hts
    split at hts
    · rename_i h12
      split at hts
      · simp only [Option.some.injEq] at hts
        subst hts
        simp only [List.mem_singleton] at hy
        subst hy
        have hl2 : T.args.length = 2 := by rw [h12] at hlen; simp [partsF] at hlen; omega
        have hn : x.n = 0 ∨ x.n = 1 := by
          unfold fitsNF at hN
          rw [h12] at hN
          simpa using hN
        have hlt : x.n.toNat < T.args.length := by omega
        unfold tyAt
        rw [List.getElem?_eq_getElem hlt]
        exact List.getElem_mem hlt
      · cases hts
    · rw [if_neg (by omega)] at hts
      split at hts
      · simp only [Option.some.injEq] at hts; subst hts; exact hy
      · cases hts

/-- of like numbers and as many Args, the Args are of like types -/
theorem args_like {T : Ty} {x y : Va} (hn : x.n = y.n) (hl : x.args.length = y.args.length) (hc : compT T = true) {ts ts' : List Ty} (h : argTys T x = some ts) (h' : argTys T y = some ts') : ts = ts' := by
  obtain ⟨hcb, _⟩ := comp_parts hc
  unfold argTys at h h'
  simp only at h h'
  rw [if_neg (by omega)] at h h'
  rw [hn, hl] at h
  split at h
  · rename_i h9
    rw [if_pos h9] at h'
    rw [h] at h'
    exact Option.some.inj h'
  · rename_i h9
    rw [if_neg h9] at h'
    rw [if_neg (by omega), if_neg (by omega)] at h h'
    split at h
    · rename_i h12
      rw [if_pos h12] at h'
      rw [h] at h'
      exact Option.some.inj h'
    · rename_i h12
      rw [if_neg h12] at h'
      rw [h] at h'
      exact Option.some.inj h'

theorem sbsVs_len {c : Va → Va → Int} : ∀ {xs ys : List Va}, sbsVs c xs ys = 0 → xs.length = ys.length
  | [], [], _ => rfl
  | [], _ :: _, h => by rw [sbsVs] at h; cases h
  | _ :: _, [], h => by rw [sbsVs] at h; cases h
  | x :: xs, y :: ys, h => by
    rw [sbsVs_cons, lexI_zero] at h
    simp [sbsVs_len h.2]

mutual
/-- of one type that can be compared: in order the same where Same says so -/
theorem ord_same : ∀ (x y : Va) (T : Ty) (d : Nat), hasV x T = true → hasV y T = true → compT T = true → formedB d T = true → (sbsV ordC x y = 0 ↔ sbsV sameC x y = 0)
  | .mk k n a s args ty co, y, T, d => by
    intro hx hy hc hfd
    obtain ⟨k1, a1, _, _, ts1, t1, u1, m1⟩ := comp_fits hx hc hfd
    obtain ⟨k2, a2, _, _, ts2, t2, u2, m2⟩ := comp_fits hy hc hfd
    obtain ⟨_, hca⟩ := comp_parts hc
    obtain ⟨_, hfa⟩ := formed_args2 hfd
    rw [sbsV_lex, sbsV_lex, lexI_zero, lexI_zero, ordC_zero]
    have hC : sameC (.mk k n a s args ty co) y = 0 ↔ (Va.mk k n a s args ty co).n = y.n ∧ (Va.mk k n a s args ty co).s.toList = y.s.toList := by
      unfold sameC
      constructor
      · intro h
        split at h
        · rename_i hh; exact ⟨hh.2.1, hh.2.2.2⟩
        · cases h
      · intro h
        rw [if_pos ⟨by rw [k1, k2], h.1, by rw [a1, a2], h.2⟩]
    rw [hC]
    constructor
    · rintro ⟨⟨h1, h2⟩, h3⟩
      have hts := args_like h1 (sbsVs_len h3) hc t1 t2
      subst hts
      exact ⟨⟨h1, h2⟩, (ords_same args y.args ts1 (d + 1) u1 u2 (fun z hz => hca z (m1 z hz)) (fun z hz => hfa z (m1 z hz))).1 h3⟩
    · rintro ⟨⟨h1, h2⟩, h3⟩
      have hts := args_like h1 (sbsVs_len h3) hc t1 t2
      subst hts
      exact ⟨⟨h1, h2⟩, (ords_same args y.args ts1 (d + 1) u1 u2 (fun z hz => hca z (m1 z hz)) (fun z hz => hfa z (m1 z hz))).2 h3⟩
theorem ords_same : ∀ (xs ys : List Va) (ts : List Ty) (d : Nat), hasVs xs ts = true → hasVs ys ts = true → (∀ T ∈ ts, compT T = true) → (∀ T ∈ ts, formedB d T = true) → (sbsVs ordC xs ys = 0 ↔ sbsVs sameC xs ys = 0)
  | [], [], _, _ => by intros; simp [sbsVs]
  | [], _ :: _, _, _ => by intros; simp [sbsVs]
  | _ :: _, [], _, _ => by intros; simp [sbsVs]
  | x :: xs, y :: ys, [], _ => by intro h; simp [hasVs] at h
  | x :: xs, y :: ys, T :: ts, d => by
    intro hx hy hc hf
    simp only [hasVs, Bool.and_eq_true] at hx hy
    rw [sbsVs_cons, sbsVs_cons, lexI_zero, lexI_zero, ord_same x y T d hx.1 hy.1 (hc T (by simp)) (hf T (by simp)), ords_same xs ys ts d hx.2 hy.2 (fun z hz => hc z (by simp [hz])) (fun z hz => hf z (by simp [hz]))]
end

mutual
theorem plain_of : ∀ (x : Va) (T : Ty) (d : Nat), hasV x T = true → compT T = true → formedB d T = true → Plain x
  | .mk k n a s args ty co, T, d => by
    intro hx hc hfd
    obtain ⟨_, _, h3, h4, ts, _, hh, hm⟩ := comp_fits hx hc hfd
    obtain ⟨_, hca⟩ := comp_parts hc
    obtain ⟨_, hfa⟩ := formed_args2 hfd
    simp only [Va.types, Va.code] at h3 h4
    subst h3; subst h4
    exact .mk (plains_of args ts (d + 1) hh (fun z hz => hca z (hm z hz)) (fun z hz => hfa z (hm z hz)))
theorem plains_of : ∀ (xs : List Va) (ts : List Ty) (d : Nat), hasVs xs ts = true → (∀ T ∈ ts, compT T = true) → (∀ T ∈ ts, formedB d T = true) → ∀ x ∈ xs, Plain x
  | [], _, _ => by intros _ _ _ x hx; simp at hx
  | x :: xs, [], _ => by intro h; simp [hasVs] at h
  | x :: xs, T :: ts, d => by
    intro hx hc hf z hz
    simp only [hasVs, Bool.and_eq_true] at hx
    rcases List.mem_cons.1 hz with he | hz
    · rw [he]; exact plain_of x T d hx.1 (hc T (by simp)) (hf T (by simp))
    · exact plains_of xs ts d hx.2 (fun z hz => hc z (by simp [hz])) (fun z hz => hf z (by simp [hz])) z hz
end

end Go.Proofs.Ytdninmanfncfiad
