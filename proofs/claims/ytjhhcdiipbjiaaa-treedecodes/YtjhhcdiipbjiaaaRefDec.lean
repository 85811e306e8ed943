/- The document's own readNode and DecodeNode by their contracts. -/
import Derived.Test.YtjhhcdiipbjiaaaRefRead6
import Derived.Test.YtjhhcdiipbjiaaaSame
namespace Go.Proofs.Ytjhhcdiipbjiaaa
open Go.ChangeShapes Go.WideShapes Go.ChangeAt Go.RowKit
set_option linter.unusedVariables false

theorem pn_cons {d n : Nat} {b : UInt8} {l : List UInt8} (hn : ¬ n = 300) : pNode (d + 1) n (b :: l) = (
      if b.toNat = 0 then match pNum l with
        | none => .error 1
        | some (m, l') => .ok (.nd 0 m 0 (bs []) [], n + 1, l')
      else if b.toNat = 1 then match pText l with
        | none => .error 1
        | some (s, l') => .ok (.nd 1 0 0 (bs s) [], n + 1, l')
      else if b.toNat = 2 then match l with
        | [] => .error 1
        | p :: l => if Lf.isPrimB p.toNat = false then .error 1 else match pArgs (fun n l => pNode d n l) (n + 1) l with
          | .error e => .error e
          | .ok (ts, n', l') => .ok (.nd 2 0 p.toNat (bs []) ts, n', l')
      else if b.toNat = 3 then match pArgs (fun n l => pNode d n l) (n + 1) l with
          | .error e => .error e
          | .ok (ts, n', l') => .ok (.nd 3 0 0 (bs []) ts, n', l')
      else .error 1) := by
  rw [pNode.eq_def]; simp only; rw [if_neg hn]; rfl

theorem rr_all : ∀ d, d ≤ 24 → RROk d := by
  intro d
  induction d with
  | zero =>
    intro _ dI LI n l w hdI hLI hn hl
    exact rr_long dI LI 0 n l hl w (.inl (by simpa using hdI)) (by simp [pNode])
  | succ d ih =>
    intro hd24 dI LI n l w hdI hLI hn hl
    have hd0 : ¬ dI = 0 := by rw [hdI]; omega
    by_cases hn3 : n = 300
    · exact rr_long dI LI (d + 1) n l hl w (.inr ⟨hd0, by rw [hLI, hn3]; omega⟩) (by rw [pNode.eq_def]; simp [hn3])
    have hL0 : ¬ LI = 0 := by rw [hLI]; omega
    cases l with
    | nil => exact rr_empty dI LI (d + 1) n w hd0 hL0 (by rw [pNode.eq_def]; simp [hn3])
    | cons b l1 =>
      have hpn := pn_cons (d := d) (b := b) (l := l1) hn3
      by_cases hb3 : 3 < b.toNat
      · exact rr_kind dI LI (d + 1) n b l1 hl w hd0 hL0 hb3 (by rw [hpn, if_neg (by omega), if_neg (by omega), if_neg (by omega), if_neg (by omega)])
      by_cases hb0 : b.toNat = 0
      · rw [if_pos hb0] at hpn
        cases hq : pNum l1 with
        | none => exact rr_xnonum dI LI (d + 1) n b l1 hl w hd0 hL0 (by omega) (by omega) hq (by rw [hpn, hq])
        | some r =>
          obtain ⟨m, l3⟩ := r
          exact rr_int dI LI (d + 1) n b l1 hl w hd0 hL0 hb0 m l3 hq (by rw [hpn, hq])
      rw [if_neg hb0] at hpn
      by_cases hb1 : b.toNat = 1
      · rw [if_pos hb1] at hpn
        cases hq : pNum l1 with
        | none => exact rr_xnonum dI LI (d + 1) n b l1 hl w hd0 hL0 (by omega) (by omega) hq (by rw [hpn]; simp [pText, pCount, hq])
        | some r =>
          obtain ⟨m, l3⟩ := r
          by_cases hm0 : m < 0
          · exact rr_xneg dI LI (d + 1) n b l1 hl w hd0 hL0 (by omega) (by omega) hb0 m l3 hq hm0 (by rw [hpn]; simp [pText, pCount, hq, hm0])
          · have hc : pCount l1 = some (m.toNat, l3) := by unfold pCount; rw [hq]; simp only; rw [if_neg hm0]
            by_cases hm2 : 200 < m
            · refine rr_tlong dI LI (d + 1) n b l1 hl w hd0 hL0 hb1 m l3 hq hm2 ?_
              have : pText l1 = none := by unfold pText; rw [hc]; simp only; rw [if_pos (.inl (by omega))]
              rw [hpn, this]
            · by_cases hml : (l3.length : Int) < m
              · refine rr_tshort dI LI (d + 1) n b l1 hl w hd0 hL0 hb1 m l3 hq (by omega) (by omega) hml ?_
                have : pText l1 = none := by unfold pText; rw [hc]; simp only; rw [if_pos (.inr (by omega))]
                rw [hpn, this]
              · obtain ⟨M, hM⟩ := Int.eq_ofNat_of_zero_le (show 0 ≤ m from by omega)
                subst hM
                refine rr_text dI LI (d + 1) n b l1 hl w hd0 hL0 hb1 M l3 hq (by omega) (by omega) ?_
                have : pText l1 = some (l3.take M, l3.drop M) := by unfold pText; rw [hc]; simp only [Int.toNat_natCast]; rw [if_neg (by omega)]
                rw [hpn, this]
      rw [if_neg hb1] at hpn
      by_cases hb2 : b.toNat = 2
      · rw [if_pos hb2] at hpn
        cases l1 with
        | nil => exact rr_noprim0 dI LI (d + 1) n b [] hl w hd0 hL0 hb2 rfl hpn
        | cons q l2 =>
          simp only at hpn
          cases hpr : Lf.isPrimB q.toNat with
          | false => exact rr_noprim1 dI LI (d + 1) n b (q :: l2) hl w hd0 hL0 q l2 hb2 rfl hpr (by rw [hpn, if_pos hpr])
          | true =>
            rw [if_neg (by rw [hpr]; simp)] at hpn
            cases hq : pNum l2 with
            | none => exact rr_pnonum dI LI (d + 1) n b (q :: l2) hl w hd0 hL0 q l2 hb2 rfl hpr hq (by rw [hpn]; simp [pArgs, pCount, hq])
            | some r =>
              obtain ⟨m, l3⟩ := r
              by_cases hm0 : m < 0
              · exact rr_pneg dI LI (d + 1) n b (q :: l2) hl w hd0 hL0 q l2 hb2 rfl hpr m l3 hq hm0 (by rw [hpn]; simp [pArgs, pCount, hq, hm0])
              · obtain ⟨K, hK⟩ := Int.eq_ofNat_of_zero_le (show 0 ≤ m from by omega)
                subst hK
                refine rr_prim dI LI d n b (q :: l2) hl w hd0 hL0 q l2 hb2 rfl hpr K l3 hq hdI hLI (by omega) (ih (by omega)) (by omega) ?_
                have ha : pArgs (fun n l => pNode d n l) (n + 1) l2 = ArgsAns d n K l3 := by
                  unfold pArgs pCount ArgsAns
                  rw [hq]; simp only; rw [if_neg hm0]; simp
                rw [hpn, ha]
                unfold wrapA
                cases ArgsAns d n K l3 <;> rfl
      rw [if_neg hb2, if_pos (show b.toNat = 3 by omega)] at hpn
      cases hq : pNum l1 with
      | none => exact rr_xnonum dI LI (d + 1) n b l1 hl w hd0 hL0 (by omega) hb2 hq (by rw [hpn]; simp [pArgs, pCount, hq])
      | some r =>
        obtain ⟨m, l3⟩ := r
        by_cases hm0 : m < 0
        · exact rr_xneg dI LI (d + 1) n b l1 hl w hd0 hL0 (by omega) hb2 hb0 m l3 hq hm0 (by rw [hpn]; simp [pArgs, pCount, hq, hm0])
        · obtain ⟨K, hK⟩ := Int.eq_ofNat_of_zero_le (show 0 ≤ m from by omega)
          subst hK
          refine rr_seq dI LI d n b l1 hl w hd0 hL0 (by omega) K l3 hq hdI hLI (by omega) (ih (by omega)) (by omega) ?_
          have ha : pArgs (fun n l => pNode d n l) (n + 1) l1 = ArgsAns d n K l3 := by
            unfold pArgs pCount ArgsAns
            rw [hq]; simp only; rw [if_neg hm0]; simp
          rw [hpn, ha]
          unfold wrapA
          cases ArgsAns d n K l3 <;> rfl

end Go.Proofs.Ytjhhcdiipbjiaaa
