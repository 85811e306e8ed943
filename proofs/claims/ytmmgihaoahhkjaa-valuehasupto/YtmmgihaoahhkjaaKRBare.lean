/- The small ones of the document's own Has, each by its contract. -/
import Derived.Test.YtmmgihaoahhkjaaKValA
import Derived.Test.YtmmgihaoahhkjaaKRefA
namespace Go.Proofs.Ytmmgihaoahhkjaa
open Go.ChangeShapes Go.WideShapes Go.ChangeAt Go.RowKit
set_option linter.unusedVariables false

theorem rnat_any (n : Int) (w : World) : Calls Try.prog 76 #[.int .i64 n] w fun e w' => e = .returned (.bool (amountB n)) ∧ w' = w := by
  by_cases h0 : 0 ≤ n
  · by_cases h1 : n ≤ 1152921504606846976
    · have h : amountB n = true := by simp [amountB, h0, h1]
      rw [h]
      go_enter Try.func76, Try.ntmps76
      go_wp2
      go_ret
      exact Lf.retb (by simp) rfl
    · have h : amountB n = false := by simp [amountB]; omega
      rw [h]
      go_enter Try.func76, Try.ntmps76
      go_wp2
      go_ret
      exact Lf.retb (by simp) rfl
  · have h : amountB n = false := by simp [amountB]; omega
    rw [h]
    go_enter Try.func76, Try.ntmps76
    go_wp2
    go_ret
    exact Lf.retb (by simp) rfl

theorem raddr_any (n : Int) (w : World) : Calls Try.prog 77 #[.int .i64 n] w fun e w' => e = .returned (.bool (addrB n)) ∧ w' = w := by
  by_cases h0 : 0 ≤ n
  · by_cases h1 : n < 12
    · have h : addrB n = true := by simp [addrB, h0, h1]
      rw [h]
      go_enter Try.func77, Try.ntmps77
      go_wp2
      go_ret
      exact Lf.retb (by simp) rfl
    · have h : addrB n = false := by simp [addrB]; omega
      rw [h]
      go_enter Try.func77, Try.ntmps77
      go_wp2
      go_ret
      exact Lf.retb (by simp) rfl
  · have h : addrB n = false := by simp [addrB]; omega
    rw [h]
    go_enter Try.func77, Try.ntmps77
    go_wp2
    go_ret
    exact Lf.retb (by simp) rfl

def bareN (bn ba bs : Bool) (al tl : Int) (bc : Bool) (n a : Int) (s : ByteArray) (l m c : Nat) : Bool :=
  (bn || n == 0) && (ba || a == 0) && (bs || s.toList.isEmpty) && ((l : Int) == al) && ((m : Int) == tl) && (bc || (c : Int) == 0)

theorem bareN_B (bn ba bs : Bool) (al tl : Nat) (bc : Bool) (x : Va) : bareN bn ba bs al tl bc x.n x.a x.s x.args.length x.types.length x.code.length = bareB bn ba bs al tl bc x := by
  unfold bareN bareB
  have e1 : x.s.toList.isEmpty = decide (x.s.size = 0) := by
    rw [Bool.eq_iff_iff, decide_eq_true_eq, List.isEmpty_iff]; exact Lf.nil_iff x.s
  have e2 : ((x.args.length : Int) == (al : Int)) = decide (x.args.length = al) := by rw [Bool.eq_iff_iff, decide_eq_true_eq, beq_iff_eq]; omega
  have e3 : ((x.types.length : Int) == (tl : Int)) = decide (x.types.length = tl) := by rw [Bool.eq_iff_iff, decide_eq_true_eq, beq_iff_eq]; omega
  have e4 : ((x.code.length : Int) == 0) = decide (x.code.length = 0) := by rw [Bool.eq_iff_iff, decide_eq_true_eq, beq_iff_eq]; omega
  have e5 : (x.n == 0) = decide (x.n = 0) := by rw [Bool.eq_iff_iff, decide_eq_true_eq, beq_iff_eq]
  have e6 : (x.a == 0) = decide (x.a = 0) := by rw [Bool.eq_iff_iff, decide_eq_true_eq, beq_iff_eq]
  rw [e1, e2, e3, e4, e5, e6]

set_option maxRecDepth 100000 in
set_option maxHeartbeats 4000000 in
theorem rbareN_any (bn ba bs : Bool) (al tl : Int) (bc : Bool) (k n a : Int) (s : ByteArray) (aa : Option Addr) (l ac : Nat) (ta : Option Addr) (m tc : Nat) (na : Option Addr) (c nc : Nat) (W : World) (h1 : l ≤ maxLen) (h2 : m ≤ maxLen) (h3 : c ≤ maxLen) :
    Calls Try.prog 74 #[.agg #[.int .i64 k, .int .i64 n, .int .i64 a, .string s, .slice aa l ac, .slice ta m tc, .slice na c nc], .bool bn, .bool ba, .bool bs, .int .i64 al, .int .i64 tl, .bool bc] W fun e w' => e = .returned (.bool (bareN bn ba bs al tl bc n a s l m c)) ∧ W.grownBy w' none := by
  unfold maxLen at h1 h2 h3
  unfold bareN
  generalize hn : (n == 0) = qn
  generalize ha : (a == 0) = qa
  generalize hs : s.toList.isEmpty = qs
  generalize hl : ((l : Int) == al) = ql
  generalize hm : ((m : Int) == tl) = qm
  generalize hc : ((c : Int) == 0) = qc
  have HG := Lf.hide (Lf.gb (w := W) (.cells #[.int .i64 k, .int .i64 n, .int .i64 a, .string s, .slice aa l ac, .slice ta m tc, .slice na c nc] 28))
  cases bn with
  | true =>
    cases ba with
    | true =>
      cases bs with
      | true =>
        cases ql with
        | false =>
          go_enter Try.func74, Try.ntmps74
          go_wp2_with fail
          go_ret
          exact ⟨rfl, HG.out⟩
        | true =>
          cases qm with
          | false =>
            go_enter Try.func74, Try.ntmps74
            go_wp2_with fail
            go_ret
            exact ⟨rfl, HG.out⟩
          | true =>
            cases bc with
            | true =>
              go_enter Try.func74, Try.ntmps74
              go_wp2_with fail
              go_ret
              exact ⟨rfl, HG.out⟩
            | false =>
              cases qc with
              | false =>
                go_enter Try.func74, Try.ntmps74
                go_wp2_with fail
                go_ret
                exact ⟨rfl, HG.out⟩
              | true =>
                go_enter Try.func74, Try.ntmps74
                go_wp2_with fail
                go_ret
                exact ⟨rfl, HG.out⟩
      | false =>
        cases qs with
        | false =>
          go_enter Try.func74, Try.ntmps74
          go_wp2_with fail
          go_ret
          exact ⟨rfl, HG.out⟩
        | true =>
          cases ql with
          | false =>
            go_enter Try.func74, Try.ntmps74
            go_wp2_with fail
            go_ret
            exact ⟨rfl, HG.out⟩
          | true =>
            cases qm with
            | false =>
              go_enter Try.func74, Try.ntmps74
              go_wp2_with fail
              go_ret
              exact ⟨rfl, HG.out⟩
            | true =>
              cases bc with
              | true =>
                go_enter Try.func74, Try.ntmps74
                go_wp2_with fail
                go_ret
                exact ⟨rfl, HG.out⟩
              | false =>
                cases qc with
                | false =>
                  go_enter Try.func74, Try.ntmps74
                  go_wp2_with fail
                  go_ret
                  exact ⟨rfl, HG.out⟩
                | true =>
                  go_enter Try.func74, Try.ntmps74
                  go_wp2_with fail
                  go_ret
                  exact ⟨rfl, HG.out⟩
    | false =>
      cases qa with
      | false =>
        go_enter Try.func74, Try.ntmps74
        go_wp2_with fail
        go_ret
        exact ⟨rfl, HG.out⟩
      | true =>
        cases bs with
        | true =>
          cases ql with
          | false =>
            go_enter Try.func74, Try.ntmps74
            go_wp2_with fail
            go_ret
            exact ⟨rfl, HG.out⟩
          | true =>
            cases qm with
            | false =>
              go_enter Try.func74, Try.ntmps74
              go_wp2_with fail
              go_ret
              exact ⟨rfl, HG.out⟩
            | true =>
              cases bc with
              | true =>
                go_enter Try.func74, Try.ntmps74
                go_wp2_with fail
                go_ret
                exact ⟨rfl, HG.out⟩
              | false =>
                cases qc with
                | false =>
                  go_enter Try.func74, Try.ntmps74
                  go_wp2_with fail
                  go_ret
                  exact ⟨rfl, HG.out⟩
                | true =>
                  go_enter Try.func74, Try.ntmps74
                  go_wp2_with fail
                  go_ret
                  exact ⟨rfl, HG.out⟩
        | false =>
          cases qs with
          | false =>
            go_enter Try.func74, Try.ntmps74
            go_wp2_with fail
            go_ret
            exact ⟨rfl, HG.out⟩
          | true =>
            cases ql with
            | false =>
              go_enter Try.func74, Try.ntmps74
              go_wp2_with fail
              go_ret
              exact ⟨rfl, HG.out⟩
            | true =>
              cases qm with
              | false =>
                go_enter Try.func74, Try.ntmps74
                go_wp2_with fail
                go_ret
                exact ⟨rfl, HG.out⟩
              | true =>
                cases bc with
                | true =>
                  go_enter Try.func74, Try.ntmps74
                  go_wp2_with fail
                  go_ret
                  exact ⟨rfl, HG.out⟩
                | false =>
                  cases qc with
                  | false =>
                    go_enter Try.func74, Try.ntmps74
                    go_wp2_with fail
                    go_ret
                    exact ⟨rfl, HG.out⟩
                  | true =>
                    go_enter Try.func74, Try.ntmps74
                    go_wp2_with fail
                    go_ret
                    exact ⟨rfl, HG.out⟩
  | false =>
    cases qn with
    | false =>
      go_enter Try.func74, Try.ntmps74
      go_wp2_with fail
      go_ret
      exact ⟨rfl, HG.out⟩
    | true =>
      cases ba with
      | true =>
        cases bs with
        | true =>
          cases ql with
          | false =>
            go_enter Try.func74, Try.ntmps74
            go_wp2_with fail
            go_ret
            exact ⟨rfl, HG.out⟩
          | true =>
            cases qm with
            | false =>
              go_enter Try.func74, Try.ntmps74
              go_wp2_with fail
              go_ret
              exact ⟨rfl, HG.out⟩
            | true =>
              cases bc with
              | true =>
                go_enter Try.func74, Try.ntmps74
                go_wp2_with fail
                go_ret
                exact ⟨rfl, HG.out⟩
              | false =>
                cases qc with
                | false =>
                  go_enter Try.func74, Try.ntmps74
                  go_wp2_with fail
                  go_ret
                  exact ⟨rfl, HG.out⟩
                | true =>
                  go_enter Try.func74, Try.ntmps74
                  go_wp2_with fail
                  go_ret
                  exact ⟨rfl, HG.out⟩
        | false =>
          cases qs with
          | false =>
            go_enter Try.func74, Try.ntmps74
            go_wp2_with fail
            go_ret
            exact ⟨rfl, HG.out⟩
          | true =>
            cases ql with
            | false =>
              go_enter Try.func74, Try.ntmps74
              go_wp2_with fail
              go_ret
              exact ⟨rfl, HG.out⟩
            | true =>
              cases qm with
              | false =>
                go_enter Try.func74, Try.ntmps74
                go_wp2_with fail
                go_ret
                exact ⟨rfl, HG.out⟩
              | true =>
                cases bc with
                | true =>
                  go_enter Try.func74, Try.ntmps74
                  go_wp2_with fail
                  go_ret
                  exact ⟨rfl, HG.out⟩
                | false =>
                  cases qc with
                  | false =>
                    go_enter Try.func74, Try.ntmps74
                    go_wp2_with fail
                    go_ret
                    exact ⟨rfl, HG.out⟩
                  | true =>
                    go_enter Try.func74, Try.ntmps74
                    go_wp2_with fail
                    go_ret
                    exact ⟨rfl, HG.out⟩
      | false =>
        cases qa with
        | false =>
          go_enter Try.func74, Try.ntmps74
          go_wp2_with fail
          go_ret
          exact ⟨rfl, HG.out⟩
        | true =>
          cases bs with
          | true =>
            cases ql with
            | false =>
              go_enter Try.func74, Try.ntmps74
              go_wp2_with fail
              go_ret
              exact ⟨rfl, HG.out⟩
            | true =>
              cases qm with
              | false =>
                go_enter Try.func74, Try.ntmps74
                go_wp2_with fail
                go_ret
                exact ⟨rfl, HG.out⟩
              | true =>
                cases bc with
                | true =>
                  go_enter Try.func74, Try.ntmps74
                  go_wp2_with fail
                  go_ret
                  exact ⟨rfl, HG.out⟩
                | false =>
                  cases qc with
                  | false =>
                    go_enter Try.func74, Try.ntmps74
                    go_wp2_with fail
                    go_ret
                    exact ⟨rfl, HG.out⟩
                  | true =>
                    go_enter Try.func74, Try.ntmps74
                    go_wp2_with fail
                    go_ret
                    exact ⟨rfl, HG.out⟩
          | false =>
            cases qs with
            | false =>
              go_enter Try.func74, Try.ntmps74
              go_wp2_with fail
              go_ret
              exact ⟨rfl, HG.out⟩
            | true =>
              cases ql with
              | false =>
                go_enter Try.func74, Try.ntmps74
                go_wp2_with fail
                go_ret
                exact ⟨rfl, HG.out⟩
              | true =>
                cases qm with
                | false =>
                  go_enter Try.func74, Try.ntmps74
                  go_wp2_with fail
                  go_ret
                  exact ⟨rfl, HG.out⟩
                | true =>
                  cases bc with
                  | true =>
                    go_enter Try.func74, Try.ntmps74
                    go_wp2_with fail
                    go_ret
                    exact ⟨rfl, HG.out⟩
                  | false =>
                    cases qc with
                    | false =>
                      go_enter Try.func74, Try.ntmps74
                      go_wp2_with fail
                      go_ret
                      exact ⟨rfl, HG.out⟩
                    | true =>
                      go_enter Try.func74, Try.ntmps74
                      go_wp2_with fail
                      go_ret
                      exact ⟨rfl, HG.out⟩

theorem rbare_any (bn ba bs : Bool) (al tl : Nat) (bc : Bool) {w : World} {x : Va} {k n a : Int} {s : ByteArray} {aa : Option Addr} {l ac : Nat} {ta : Option Addr} {m tc : Nat} {na : Option Addr} {c nc : Nat} (hV : LiesV (fun _ => True) w x (vaV k n a s aa l ac ta m tc na c nc)) (W : World) :
    Calls Try.prog 74 #[.agg #[.int .i64 k, .int .i64 n, .int .i64 a, .string s, .slice aa l ac, .slice ta m tc, .slice na c nc], .bool bn, .bool ba, .bool bs, .int .i64 (al : Int), .int .i64 (tl : Int), .bool bc] W fun e w' => e = .returned (.bool (bareB bn ba bs al tl bc x)) ∧ W.grownBy w' none := by
  obtain ⟨aa', ac', ta', tc', na', nc', V, VT, VN, hv, _, hRV, hRT, hRN⟩ := hV.inv
  unfold vaV at hv
  simp only [Value.agg.injEq, Array.mk.injEq, List.cons.injEq, Value.slice.injEq, Value.int.injEq, Value.string.injEq, true_and, and_true] at hv
  obtain ⟨rfl, rfl, rfl, rfl, ⟨rfl, rfl, rfl⟩, ⟨rfl, rfl, rfl⟩, rfl, rfl, rfl⟩ := hv
  have h := rbareN_any bn ba bs al tl bc x.k x.n x.a x.s aa x.args.length ac ta x.types.length tc na x.code.length nc W hRV.1 hRT.1 hRN.1
  rw [bareN_B] at h
  exact h

end Go.Proofs.Ytmmgihaoahhkjaa
