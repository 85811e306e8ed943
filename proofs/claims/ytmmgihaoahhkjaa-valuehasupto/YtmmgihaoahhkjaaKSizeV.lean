/- Size by its contract. -/
import Derived.Test.YtmmgihaoahhkjaaKHasL
import Derived.Deep.RegionHeld3
namespace Go.Proofs.Ytmmgihaoahhkjaa
open Go.ChangeShapes Go.WideShapes Go.ChangeAt Go.RowKit
set_option linter.unusedVariables false

mutual
/-- how large a value is -/
def vsum : Va → Nat
  | .mk _ _ _ s args _ _ => s.size / 8 + 1 + vsums args
def vsums : List Va → Nat
  | [] => 0
  | x :: xs => vsum x + vsums xs
end

theorem vsum_eq (x : Va) : vsum x = x.s.size / 8 + 1 + vsums x.args := by cases x; rw [vsum]; rfl

/-- the lists that a list leads to -/
def pushS : List Va → List (List Va)
  | [] => []
  | x :: xs => (if x.args.length = 0 then [] else [x.args]) ++ pushS xs

theorem pushS_snoc (l : List Va) (x : Va) : pushS (l ++ [x]) = pushS l ++ (if x.args.length = 0 then [] else [x.args]) := by
  induction l with
  | nil => simp [pushS]
  | cons y l ih => simp [pushS, ih]

def stkS (M : List (List Va)) : Nat := (M.map vsums).sum
def leftS (M : List (List Va)) : Nat := (M.map fun l => vsizes l + 1).sum
theorem stkS_append (a b : List (List Va)) : stkS (a ++ b) = stkS a + stkS b := by simp [stkS]
theorem stkS_one (l : List Va) : stkS [l] = vsums l := by simp [stkS]
theorem leftS_append (a b : List (List Va)) : leftS (a ++ b) = leftS a + leftS b := by simp [leftS]
theorem leftS_one (l : List Va) : leftS [l] = vsizes l + 1 := by simp [leftS]
theorem len_leftS (M : List (List Va)) : M.length ≤ leftS M := by
  induction M with
  | nil => simp
  | cons r l ih => simp only [leftS, List.map_cons, List.sum_cons, List.length_cons] at ih ⊢; omega
theorem pushS_left (l : List Va) : leftS (pushS l) ≤ vsizes l := by
  induction l with
  | nil => simp [pushS, leftS, vsizes]
  | cons x l ih =>
    have h := vsize_eq x
    rw [pushS, leftS_append, vsizes]
    split
    · simp [leftS] at ih ⊢; omega
    · rw [leftS_one]; omega

theorem MapsOk.last {w : World} {us : List Value} {u : Value} : ∀ {M : List (List Va)}, MapsOk w M (us ++ [u]) → ∃ M' l, M = M' ++ [l] ∧ MapsOk w M' us ∧ ∃ a c V, u = .slice a l.length c ∧ RowVa (fun _ => True) w l a V ∧ vsizes l ≤ 20000000 := by
  induction us with
  | nil =>
    intro M h
    match M, h with
    | [r], h => exact ⟨[], r, rfl, trivial, h.1⟩
    | r :: r2 :: rs, h => exact h.2.elim
    | [], h => exact h.elim
  | cons x us ih =>
    intro M h
    match M, h with
    | r :: rs, h =>
      obtain ⟨M', l, rfl, h1, h2⟩ := ih h.2
      exact ⟨r :: M', l, rfl, ⟨h.1, h1⟩, h2⟩
    | [], h => exact h.elim

theorem wrap_at (a b : Int) : wrap64 (wrap64 a + b) = wrap64 (a + b) := by unfold wrap64; omega
theorem wrap_at2 (a b : Int) : wrap64 (a + wrap64 b) = wrap64 (a + b) := by unfold wrap64; omega
theorem wrap_idem (a : Int) : wrap64 (wrap64 a) = wrap64 a := by unfold wrap64; omega

/-- where going through stands: n is left -/
def SzRel (W : World) (R : Int) (N n : Nat) (sv tv : Value) (wr : World) : Prop :=
  ∃ (us : List Value) (M : List (List Va)) (a : Int), OwnsV W.heap.size wr tv us ∧ MapsOk W M us ∧ leftS M = n ∧ n ≤ N ∧ sv = .int .i64 a ∧ wrap64 a = a ∧ wrap64 (a + (stkS M : Nat)) = R ∧ W.grownBy wr none

/-- within a list: j of its values were gone through -/
def SzIn (W : World) (R : Int) (M' : List (List Va)) (l : List Va) (j : Nat) (sv tv : Value) (wr : World) : Prop :=
  ∃ (us : List Value) (a : Int), OwnsV W.heap.size wr tv us ∧ MapsOk W (M' ++ pushS (l.take j)) us ∧ sv = .int .i64 a ∧ wrap64 a = a ∧ wrap64 (a + ((stkS (M' ++ pushS (l.take j)) + vsums (l.drop j) : Nat) : Int)) = R ∧ W.grownBy wr none

theorem vsums_drop (l : List Va) (j : Nat) (h : j < l.length) : vsums (l.drop j) = vsum l[j] + vsums (l.drop (j + 1)) := by
  rw [List.drop_eq_getElem_cons h, vsums]

theorem take_left (l : List Va) (j : Nat) : leftS (pushS (l.take j)) ≤ vsizes l := by
  refine Nat.le_trans (pushS_left _) ?_
  have h := vsizes_append (l.take j) (l.drop j)
  rw [List.take_append_drop] at h
  omega

theorem partsV {ok : Nat → Prop} {w : World} {x : Va} {k n a : Int} {s : ByteArray} {aa : Option Addr} {al ac : Nat} {ta : Option Addr} {tl tc : Nat} {na : Option Addr} {nl nc : Nat} (h : LiesV ok w x (vaV k n a s aa al ac ta tl tc na nl nc)) :
    s = x.s ∧ s.size ≤ maxLen ∧ al = x.args.length ∧ ∃ V, RowVa ok w x.args aa V := by
  obtain ⟨aa', ac', ta', tc', na', nc', V, VT, VN, hv, ⟨_, _, _, hs, hlc⟩, hR, _, _⟩ := h.inv
  unfold vaV at hv
  simp only [Value.agg.injEq, Array.mk.injEq, List.cons.injEq, Value.int.injEq, Value.string.injEq, Value.slice.injEq, true_and, and_true] at hv
  obtain ⟨_, _, _, rfl, ⟨rfl, rfl, rfl⟩, _⟩ := hv
  exact ⟨rfl, hs, rfl, V, hR⟩

set_option maxRecDepth 100000 in
set_option maxHeartbeats 4000000 in
theorem size_any {w : World} {x : Va} {v : Value} (hV : LiesV (fun _ => True) w x v) (hz : x.size ≤ 20000000) (W : World) (hW : w.grownBy W none) :
    Calls Try.prog 12 #[v] W fun e w' => e = .returned (.int .i64 (wrap64 (vsum x : Nat))) ∧ W.grownBy w' none := by
  obtain ⟨k1, n1, a1, s1, aa1, al1, ac1, ta1, tl1, tc1, na1, nl1, nc1, rfl⟩ := hV.vaV
  have HV := Lf.hide (LiesV.up hV hW)
  have HZ := Lf.hide hz
  clear hV hz hW
  generalize hR : wrap64 (vsum x : Nat) = R
  have HR := Lf.hide hR
  clear hR
  unfold vaV at *
  go_enter Try.func12, Try.ntmps12
  go_wp2_with fail
  have hb1 := new_twoI W (.cells #[.int .i64 k1, .int .i64 n1, .int .i64 a1, .string s1, .slice aa1 al1 ac1, .slice ta1 tl1 tc1, .slice na1 nl1 nc1] 28) (.cells #[.int .i64 k1, .int .i64 n1, .int .i64 a1, .string s1, .slice aa1 al1 ac1, .slice ta1 tl1 tc1, .slice na1 nl1 nc1] 28)
  have hsz : ((W.alloc (.cells #[.int .i64 k1, .int .i64 n1, .int .i64 a1, .string s1, .slice aa1 al1 ac1, .slice ta1 tl1 tc1, .slice na1 nl1 nc1] 28)).alloc (.cells #[.int .i64 k1, .int .i64 n1, .int .i64 a1, .string s1, .slice aa1 al1 ac1, .slice ta1 tl1 tc1, .slice na1 nl1 nc1] 28)).heap.size = W.heap.size + 1 + 1 := by simp
  have hgm : W.grownBy ((W.alloc (.cells #[.int .i64 k1, .int .i64 n1, .int .i64 a1, .string s1, .slice aa1 al1 ac1, .slice ta1 tl1 tc1, .slice na1 nl1 nc1] 28)).alloc (.cells #[.int .i64 k1, .int .i64 n1, .int .i64 a1, .string s1, .slice aa1 al1 ac1, .slice ta1 tl1 tc1, .slice na1 nl1 nc1] 28)) none := Lf.gbt (Lf.gb _) (Lf.gb _)
  generalize (W.alloc _).alloc _ = Wm at *
  have HGM := Lf.hide hgm
  have HSZ := Lf.hide hsz
  have HROW := Lf.hide (rowOneV hb1 (LiesV.up HV.out hgm))
  obtain ⟨μ, hμ⟩ := least_of (fun n (p : Value × Value × World) => SzRel Wm R (x.size + 1) n p.1 p.2.1 p.2.2)
  have HM := Lf.hide hμ
  clear hgm hsz hb1 hμ
  go_loopw [3, 4] (fun sv tv wr => ∃ n, SzRel Wm R (x.size + 1) n sv tv wr) (fun sv tv wr => μ (sv, tv, wr))
  case atStart =>
    refine ⟨_, [.slice (some ⟨W.heap.size + 1, 0, none⟩) 1 1], [[x]], 0, ?_, ⟨⟨_, _, _, rfl, HROW.out, by have := HZ.out; simp [vsizes]; omega⟩, trivial⟩, rfl, by rw [leftS_one]; simp [vsizes], rfl, by simp [wrap64], by rw [← HR.out, stkS_one]; simp [vsums], Lf.gb _⟩
    refine ⟨rfl, .inr ⟨W.heap.size + 1 + 1, 1, #[.slice (some ⟨W.heap.size + 1, 0, none⟩) 1 1], rfl, by have := HSZ.out; omega, ?_, Nat.le_refl _, by decide, rfl, rfl⟩⟩
    rw [← HSZ.out]
    exact heap_alloc_new _ _
  case round =>
    obtain ⟨n0, hn0⟩ := hrel
    obtain ⟨us, M, a, hown, hrows, hn, hle, hsv, hwa, hR, hg⟩ := (HM.out (u3, u4, wr) n0 hn0).1
    simp only at hown hsv hg
    subst hsv
    have hz := HZ.out
    clear hn0
    by_cases hv : us.length = 0
    · obtain ⟨a0, cc0, rfl⟩ := own_empty hown hv
      have hrl := hrows.len
      have hr0 : M = [] := List.length_eq_zero_iff.1 (by omega)
      have hres : R = a := by rw [← hR, hr0]; simpa [stkS] using hwa
      have HRE := Lf.hide hres
      have HG := Lf.hide (Lf.gbt HGM.out hg)
      clear hown hrows hn hle hR hg hres hr0 hrl hv HM hwa HV HROW HR
      go_wp2_with fail
      go_ret
      exact Lf.reti HRE.out.symm HG.out
    · have hne : us ≠ [] := fun e => hv (by rw [e]; rfl)
      have e1 := (List.dropLast_concat_getLast hne).symm
      generalize us.dropLast = us' at e1
      generalize us.getLast hne = u at e1
      subst e1
      obtain ⟨M', l, rfl, hrows', ai, ci, Vi, rfl, hRl, hzl⟩ := hrows.last
      have hlv : (us' ++ [Value.slice ai l.length ci]).length = us'.length + 1 := by simp
      have hform := World.ownsRow.form hown (by simp)
      rw [hlv] at hform
      obtain ⟨g, cap, rfl, hgB, hglt⟩ := hform
      unfold OwnsV at hown
      rw [hlv] at hown
      have hcap := own_cap hown
      have hcap1 : us'.length ≤ cap := by omega
      have d0 := World.ownsRow.cells hown (g := g) rfl us'.length (.slice ai l.length ci) (by simp)
      rw [add_none, Nat.zero_add] at d0
      have HCUT := Lf.hide (own_cut hown)
      have hl1 := hRl.1
      unfold maxLen at hl1
      rw [leftS_append, leftS_one] at hn
      rw [stkS_append, stkS_one] at hR
      have HRL := Lf.hide hRl
      have HROWS := Lf.hide hrows'
      have HN := Lf.hide hn
      have HLE := Lf.hide hle
      have HRR := Lf.hide hR
      have HG := Lf.hide hg
      have HWA := Lf.hide hwa
      have hML : us'.length = M'.length := hrows'.len
      have hul : us'.length ≤ 20000001 := by
        have h1 := len_leftS M'
        omega
      have HML := Lf.hide hML
      obtain ⟨mu0, hmu0⟩ : ∃ m0, m0 = μ (.int .i64 a, .slice (some ⟨g, 0, none⟩) (us'.length + 1) cap, wr) := ⟨_, rfl⟩
      have HMU := Lf.hide hmu0
      rw [← hmu0] at HN HLE
      clear hmu0
      clear hown hrows hrows' hRl hn hle hR hg hne hv hcap hlv hwa hzl hML
      go_wp2_with fail
      go_loopw [3, 4, 27] (fun sv tv iv wz => ∃ j : Nat, j ≤ l.length ∧ iv = .int .i64 j ∧ SzIn Wm R M' l j sv tv wz) (fun _ _ iv _ => l.length - (intOf iv).toNat)
      case atStart =>
        refine ⟨0, Nat.zero_le _, rfl, us', a, HCUT.out, by simpa [pushS] using HROWS.out, rfl, HWA.out, ?_, HG.out⟩
        simpa [pushS] using HRR.out
      case round =>
        obtain ⟨j, hj, rfl, us2, a2, hown, hrows, rfl, hwa, hR, hg⟩ := hrel
        by_cases hlt : j < l.length
        · obtain ⟨b1, o1, rfl, _, k3, n3, a3, s3, aa3, al3, ac3, ta3, tl3, tc3, na3, nl3, nc3, hv1, e0, e1, e2, e3, e4, e5, e6⟩ := (HRL.out.2.1 j hlt).same (sameAll hg)
          have hLe := HRL.out.2.2 j hlt
          rw [hv1] at hLe
          obtain ⟨es, hs3, el, VA, hRA⟩ := partsV hLe
          have hve := vsize_eq l[j]
          have hvm : (l[j]).size ≤ vsizes l := vsize_mem (List.getElem_mem hlt)
          have hsum := vsum_eq l[j]
          rw [← es] at hsum
          rw [vsums_drop l j hlt, hsum] at hR
          have hpush := pushS_snoc (l.take j) l[j]
          rw [← List.take_succ_eq_append_getElem hlt] at hpush
          have hleft := take_left l j
          have hlen2 : us2.length ≤ 50000000 := by
            have h1 := hrows.len
            have h2 := len_leftS (M' ++ pushS (l.take j))
            rw [leftS_append] at h2
            have h3 := HN.out
            have h4 := HLE.out
            omega
          have hvz : vsizes (l[j]).args ≤ 20000000 := by
            have h3 := HN.out
            have h4 := HLE.out
            omega
          have hB2 : Wm.heap.size ≤ wr.heap.size := hg.size
          have HGM2 := Lf.hide hg
          unfold maxLen at hs3
          have hW2 : wr.grownBy (wr.alloc (.cells #[.int .i64 k3, .int .i64 n3, .int .i64 a3, .string s3, .slice aa3 al3 ac3, .slice ta3 tl3 tc3, .slice na3 nl3 nc3] 28)) none := Lf.gb _
          have HO2 := Lf.hide (World.ownsRow.alloc hown (.cells #[.int .i64 k3, .int .i64 n3, .int .i64 a3, .string s3, .slice aa3 al3 ac3, .slice ta3 tl3 tc3, .slice na3 nl3 nc3] 28))
          have HG2 := Lf.hide (Lf.gbt hg hW2)
          have HR := Lf.hide hR
          have HROWS2 := Lf.hide hrows
          have HRA := Lf.hide hRA
          have HVZ := Lf.hide hvz
          have HWA2 := Lf.hide hwa
          have HEL := Lf.hide el
          have HP := Lf.hide hpush
          have w2 : (j : Int) < (l.length : Int) := by omega
          clear hR hrows hRA hvz hwa hv1 hLe hve hvm hsum hpush hleft hg hown hW2 es el
          by_cases ha : al3 = 0
          · have HA := Lf.hide ha
            subst ha
            clear hlen2 hB2
            go_wp2_with fail
            go_roundw
            case rel =>
              have hp : pushS (l.take (j + 1)) = pushS (l.take j) := by rw [HP.out, if_pos HEL.out.symm, List.append_nil]
              refine ⟨j + 1, by omega, by go_num, us2, _, HO2.out, by rw [hp]; exact HROWS2.out, rfl, ?_, ?_, HG2.out⟩
              · exact wrap_idem _
              · have hA : (l[j]).args = [] := List.eq_nil_of_length_eq_zero HEL.out.symm
                have h := HR.out
                rw [hA] at h
                simp only [vsums] at h
                rw [hp, wrap_at, ← h]
                congr 1
                omega
            case measure => simp [intOf]; omega
          · have ha1 : (0 : Int) < (al3 : Int) := by omega
            have HBB := Lf.hide HG2.out.size
            have HL2 := Lf.hide hlen2
            have HNE : Hid (¬ (l[j]).args.length = 0) := by have := HEL.out; show ¬ _; omega
            have HROW : Hid (∃ a c V, (Value.slice aa3 al3 ac3) = .slice a (l[j]).args.length c ∧ RowVa (fun _ => True) Wm (l[j]).args a V ∧ vsizes (l[j]).args ≤ 20000000) := ⟨aa3, ac3, VA, by rw [HEL.out], HRA.out, HVZ.out⟩
            clear ha hlen2 hB2
            go_wp2_with (at_builtin; refine appV Wm.heap.size us2 aa3 al3 ac3 (wr.alloc (.cells #[.int .i64 k3, .int .i64 n3, .int .i64 a3, .string s3, .slice aa3 al3 ac3, .slice ta3 tl3 tc3, .slice na3 nl3 nc3] 28)) u4 rfl _ _ rfl rfl rfl (by simp) HO2.out HBB.out HL2.out ?_; intro v' w9 ho' hg'; have HO9 := Lf.hide ho'; have HG9 := Lf.hide (grow_own HG2.out HO2.out (Nat.le_refl _) hg'.1); clear ho' hg')
            go_roundw
            case rel =>
              have hp : pushS (l.take (j + 1)) = pushS (l.take j) ++ [(l[j]).args] := by rw [HP.out, if_neg HNE.out]
              refine ⟨j + 1, by omega, by go_num, us2 ++ [.slice aa3 al3 ac3], _, HO9.out, by rw [hp, ← List.append_assoc]; exact MapsOk.snoc HROW.out HROWS2.out, rfl, ?_, ?_, HG9.out⟩
              · exact wrap_idem _
              · have h := HR.out
                rw [hp, ← List.append_assoc, stkS_append (_ ++ _), stkS_one, wrap_at, ← h]
                congr 1
                omega
            case measure => simp [intOf]; omega
        · have hj2 : j = l.length := by omega
          have hj3 : ¬ (j : Int) < (l.length : Int) := by omega
          have hM2 : MapsOk Wm (M' ++ pushS l) us2 := by rw [hj2, List.take_length] at hrows; exact hrows
          have hR2 : wrap64 (a2 + (stkS (M' ++ pushS l) : Nat)) = R := by rw [hj2, List.take_length, List.drop_length] at hR; simpa [vsums] using hR
          have HNX : Hid (∃ m, m < mu0 ∧ SzRel Wm R (x.size + 1) m (.int .i64 a2) u4 wr) := by
            have h1 := pushS_left l
            have h2 := HN.out
            have h3 := HLE.out
            refine ⟨leftS (M' ++ pushS l), by rw [leftS_append]; omega, us2, M' ++ pushS l, a2, hown, hM2, rfl, by rw [leftS_append]; omega, rfl, hwa, hR2, hg⟩
          clear hR hrows hown hwa hg hM2 hR2
          go_wp2_with fail
          obtain ⟨m, h1, h2⟩ := HNX.out
          rw [HMU.out] at h1
          go_roundw
          case rel => exact ⟨m, h2⟩
          case measure => exact Nat.lt_of_le_of_lt (HM.out _ m h2).2 h1

end Go.Proofs.Ytmmgihaoahhkjaa
