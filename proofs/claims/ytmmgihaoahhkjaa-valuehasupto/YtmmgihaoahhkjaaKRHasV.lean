/- A region that draws its order, operation by operation: one that is not wanted may be taken first, too. -/
import Derived.Test.YtmmgihaoahhkjaaRows
import Derived.WalkKit
import Derived.ProofKit
import Derived.Deep.RegionHeld3
import Derived.Test.YtmmgihaoahhkjaaKRBare
import Derived.Test.YtmmgihaoahhkjaaKROrd
import Derived.Test.YtmmgihaoahhkjaaKRefSame
import Derived.Deep.DeepCutAuto
namespace Go.Proofs.Ytmmgihaoahhkjaa
open Go.ChangeShapes Go.WideShapes Go.ChangeAt Go.RowKit
set_option linter.unusedVariables false

section
variable {P : Program} {ops : Array Oper} {Q : Exit → Act → World → Prop} {md : Region.Mode} {S : World → Prop}

/-- an operation that is not wanted is taken first -/
theorem reg_no (i : Nat) (d : Tmp) {fuel : Nat} {listed : Array Bool} {a : Act} {w : World} (h : wpAnyH P md ops Q S fuel (listed.setIfInBounds i true) (a.put (some d) undef) w)
    (hi : ∃ oi, ops[i]? = some oi ∧ oi.dst = some d ∧ Region.wanted oi (yielded ops a.tmps) = false := by exact ⟨_, rfl, rfl, by rfl⟩)
    (hs : Region.noSelect ops = true := by kernel_rfl) (hf : Region.free md ops listed i = true := by kernel_rfl) (hr : (Region.ready md ops listed).contains i = true := by kernel_rfl)
    (hQ : ∀ c a w, Q (.panic c) (a.put (some d) undef) w → Q (.panic c) a w := by exact fun _ _ _ h => h) (hS : S w := by assumption) : wpAnyH P md ops Q S (fuel + 1) listed a w := by
  obtain ⟨oi, h1, h2, h3⟩ := hi
  rw [← h2] at hQ h
  exact wpAnyH_take h1 hs hf hr hQ (.inr ⟨h3, rfl⟩) hS h

/-- an operation that is wanted, and only reads, is taken first -/
theorem reg_yes (i : Nat) (d : Tmp) {v : Value} {fuel : Nat} {listed : Array Bool} {a : Act} {w : World} (hi : ∃ oi, ops[i]? = some oi ∧ oi.dst = some d ∧ Region.wanted oi (yielded ops a.tmps) = true ∧ ∀ w, S w → (execOp a.eval oi).run P w = .ok (.value v) w)
    (h : wpAnyH P md ops Q S fuel (listed.setIfInBounds i true) (a.put (some d) v) w)
    (hs : Region.noSelect ops = true := by kernel_rfl) (hf : Region.free md ops listed i = true := by kernel_rfl) (hr : (Region.ready md ops listed).contains i = true := by kernel_rfl)
    (hQ : ∀ c a w, Q (.panic c) (a.put (some d) v) w → Q (.panic c) a w := by exact fun _ _ _ h => h) (hS : S w := by assumption) : wpAnyH P md ops Q S (fuel + 1) listed a w := by
  obtain ⟨oi, h1, h2, h3, h4⟩ := hi
  rw [← h2] at hQ h
  exact wpAnyH_take h1 hs hf hr hQ (.inl ⟨h3, h4⟩) hS h
end

/-- the same, all but the rest by defaults -/
theorem reg_go (i : Nat) (d : Tmp) {P : Program} {ops : Array Oper} {Q : Exit → Act → World → Prop} {md : Region.Mode} {S : World → Prop} {v : Value} {oi : Oper} {fuel : Nat} {listed : Array Bool} {a : Act} {w : World} (h : wpAnyH P md ops Q S fuel (listed.setIfInBounds i true) (a.put (some d) v) w)
    (h1 : ops[i]? = some oi := by rfl) (h2 : oi.dst = some d := by rfl) (h3 : Region.wanted oi (yielded ops a.tmps) = true := by rfl)
    (h4 : ∀ w, S w → (execOp a.eval oi).run P w = .ok (.value v) w := by intro w hSw; go_simp; try with_reducible rfl)
    (hs : Region.noSelect ops = true := by kernel_rfl) (hf : Region.free md ops listed i = true := by kernel_rfl) (hr : (Region.ready md ops listed).contains i = true := by kernel_rfl)
    (hQ : ∀ c a w, Q (.panic c) (a.put (some d) v) w → Q (.panic c) a w := by exact fun _ _ _ h => h) (hS : S w := by assumption) : wpAnyH P md ops Q S (fuel + 1) listed a w :=
  reg_yes i d ⟨oi, h1, h2, h3, h4⟩ h hs hf hr hQ hS

/-- a slot of a row of temporaries is written -/
theorem pS {α : Type} : (∀ (l : List α) (i : Nat) (a : α), l.toArray.setIfInBounds i a = (l.set i a).toArray) ∧ (∀ (a b : α) (l : List α), (a :: l).set 0 b = b :: l) ∧ (∀ (a b : α) (l : List α) (n : Nat), (a :: l).set (n + 1) b = a :: l.set n b) :=
  ⟨fun l i a => List.setIfInBounds_toArray .., fun a b l => List.set_cons_zero .., fun a b l n => List.set_cons_succ ..⟩

end Go.Proofs.Ytmmgihaoahhkjaa

/- The document's own has, kind by kind, given what the calls in it answer. (Made by wip/tools/gen-rhas.py.) -/
namespace Go.Proofs.Ytmmgihaoahhkjaa
set_option maxRecDepth 20000
open Go.ChangeShapes Go.WideShapes Go.ChangeAt Go.RowKit
set_option linter.unusedVariables false

theorem bx0 {w : World} {r : Nat} {a b c d e f g : Value} {t : TypeId} (h : w.heap[r]? = some (.cells #[a, b, c, d, e, f, g] t)) : ∀ W3 : World, w.grownBy W3 none → W3.cell? ⟨r, 0, none⟩ = some a := fun W3 hg => (box7 (keepB h hg)).1

theorem bx1 {w : World} {r : Nat} {a b c d e f g : Value} {t : TypeId} (h : w.heap[r]? = some (.cells #[a, b, c, d, e, f, g] t)) : ∀ W3 : World, w.grownBy W3 none → W3.cell? ⟨r, 1, none⟩ = some b := fun W3 hg => (box7 (keepB h hg)).2.1

theorem bx2 {w : World} {r : Nat} {a b c d e f g : Value} {t : TypeId} (h : w.heap[r]? = some (.cells #[a, b, c, d, e, f, g] t)) : ∀ W3 : World, w.grownBy W3 none → W3.cell? ⟨r, 2, none⟩ = some c := fun W3 hg => (box7 (keepB h hg)).2.2.1

theorem bx3 {w : World} {r : Nat} {a b c d e f g : Value} {t : TypeId} (h : w.heap[r]? = some (.cells #[a, b, c, d, e, f, g] t)) : ∀ W3 : World, w.grownBy W3 none → W3.cell? ⟨r, 3, none⟩ = some d := fun W3 hg => (box7 (keepB h hg)).2.2.2.1

theorem bx4 {w : World} {r : Nat} {a b c d e f g : Value} {t : TypeId} (h : w.heap[r]? = some (.cells #[a, b, c, d, e, f, g] t)) : ∀ W3 : World, w.grownBy W3 none → W3.cell? ⟨r, 4, none⟩ = some e := fun W3 hg => (box7 (keepB h hg)).2.2.2.2.1

theorem bx5 {w : World} {r : Nat} {a b c d e f g : Value} {t : TypeId} (h : w.heap[r]? = some (.cells #[a, b, c, d, e, f, g] t)) : ∀ W3 : World, w.grownBy W3 none → W3.cell? ⟨r, 5, none⟩ = some f := fun W3 hg => (box7 (keepB h hg)).2.2.2.2.2.1

theorem bx6 {w : World} {r : Nat} {a b c d e f g : Value} {t : TypeId} (h : w.heap[r]? = some (.cells #[a, b, c, d, e, f, g] t)) : ∀ W3 : World, w.grownBy W3 none → W3.cell? ⟨r, 6, none⟩ = some g := fun W3 hg => (box7 (keepB h hg)).2.2.2.2.2.2

theorem bn0 {w : World} {r : Nat} {a b c d e : Value} {t : TypeId} (h : w.heap[r]? = some (.cells #[a, b, c, d, e] t)) : ∀ W3 : World, w.grownBy W3 none → W3.cell? ⟨r, 0, none⟩ = some a := fun W3 hg => (box5 (keepB h hg)).1

theorem bn1 {w : World} {r : Nat} {a b c d e : Value} {t : TypeId} (h : w.heap[r]? = some (.cells #[a, b, c, d, e] t)) : ∀ W3 : World, w.grownBy W3 none → W3.cell? ⟨r, 1, none⟩ = some b := fun W3 hg => (box5 (keepB h hg)).2.1

theorem bn2 {w : World} {r : Nat} {a b c d e : Value} {t : TypeId} (h : w.heap[r]? = some (.cells #[a, b, c, d, e] t)) : ∀ W3 : World, w.grownBy W3 none → W3.cell? ⟨r, 2, none⟩ = some c := fun W3 hg => (box5 (keepB h hg)).2.2.1

theorem bn3 {w : World} {r : Nat} {a b c d e : Value} {t : TypeId} (h : w.heap[r]? = some (.cells #[a, b, c, d, e] t)) : ∀ W3 : World, w.grownBy W3 none → W3.cell? ⟨r, 3, none⟩ = some d := fun W3 hg => (box5 (keepB h hg)).2.2.2.1

theorem bn4 {w : World} {r : Nat} {a b c d e : Value} {t : TypeId} (h : w.heap[r]? = some (.cells #[a, b, c, d, e] t)) : ∀ W3 : World, w.grownBy W3 none → W3.cell? ⟨r, 4, none⟩ = some e := fun W3 hg => (box5 (keepB h hg)).2.2.2.2

theorem bq0 {w : World} {r : Nat} {a b : Value} {t : TypeId} (h : w.heap[r]? = some (.cells #[a, b] t)) : ∀ W3 : World, w.grownBy W3 none → W3.cell? ⟨r, 0, none⟩ = some a := fun W3 hg => cell0_of (keepB h hg)

theorem bq1 {w : World} {r : Nat} {a b : Value} {t : TypeId} (h : w.heap[r]? = some (.cells #[a, b] t)) : ∀ W3 : World, w.grownBy W3 none → W3.cell? ⟨r, 1, none⟩ = some b := fun W3 hg => cell1_of (keepB h hg)

theorem grow_ofDrewR {w w' : World} {r : Option Nat} (h : w.drew.grownBy w' r) : w.grownBy w' r := ⟨h.os, h.tape, h.output, h.size, h.block⟩

/-- what a call answers -/
def Ans (f : Nat) (args : Array Value) (W : World) (b : Bool) : Prop := ∀ W2, W.grownBy W2 none → Calls Try.prog f args W2 fun e w' => e = .returned (.bool b) ∧ W2.grownBy w' none

set_option maxRecDepth 100000 in
theorem rhas_other {W : World} {t k : Int} {n xa : Int} {s : ByteArray} {a aa ta na : Option Addr} {tn c al ac tl tc nl nc : Nat} (h : ¬ t = k) :
    Calls Try.prog 36 #[.agg #[.int .i64 t, .slice a tn c], .agg #[.int .i64 k, .int .i64 n, .int .i64 xa, .string s, .slice aa al ac, .slice ta tl tc, .slice na nl nc]] W fun e w' => e = .returned (.bool false) ∧ W.grownBy w' none := by
  have h1 : (t == k) = false := by simpa using h
  have h2 : (t != k) = true := by simpa using h
  clear h
  go_enter Try.func36, Try.ntmps36
  go_wp2_with fail
  go_ret
  exact ⟨rfl, Lf.gbt (Lf.gb _) (Lf.gb _)⟩

set_option maxRecDepth 100000 in
set_option maxHeartbeats 2000000 in
theorem rhas_1 {W : World} {n xa : Int} {s : ByteArray} {a aa ta na : Option Addr} {tn c al ac tl tc nl nc : Nat} {b : Bool} (HB : Hid (Ans 74 #[.agg #[.int .i64 1, .int .i64 n, .int .i64 xa, .string s, .slice aa al ac, .slice ta tl tc, .slice na nl nc], .bool false, .bool false, .bool false, .int .i64 0, .int .i64 0, .bool false] W b)) :
    Calls Try.prog 36 #[.agg #[.int .i64 1, .slice a tn c], .agg #[.int .i64 1, .int .i64 n, .int .i64 xa, .string s, .slice aa al ac, .slice ta tl tc, .slice na nl nc]] W fun e w' => e = .returned (.bool b) ∧ W.grownBy w' none := by
  let A : Obj := .cells #[.int .i64 1, .slice a tn c] 24
  let B : Obj := .cells #[.int .i64 1, .int .i64 n, .int .i64 xa, .string s, .slice aa al ac, .slice ta tl tc, .slice na nl nc] 28
  have HA0 := Lf.hide (res_new W A B)
  have HB0 := Lf.hide (rnew_two W A B)
  have HG0 := Lf.hide (Lf.gbt (Lf.gb (w := W) A) (Lf.gb B))
  go_enter Try.func36, Try.ntmps36
  go_wp2_with fail
  refine (HB.out _ HG0.out).mono ?_; rintro e w1 ⟨rfl, hg⟩
  have HG1 := Lf.hide (Lf.gbt HG0.out hg)
  clear hg
  go_wp2_with fail
  go_ret
  exact ⟨rfl, HG1.out⟩

set_option maxRecDepth 100000 in
set_option maxHeartbeats 2000000 in
theorem rhas_2_no {W : World} {n xa : Int} {s : ByteArray} {a aa ta na : Option Addr} {tn c al ac tl tc nl nc : Nat} (HB : Hid (Ans 74 #[.agg #[.int .i64 2, .int .i64 n, .int .i64 xa, .string s, .slice aa al ac, .slice ta tl tc, .slice na nl nc], .bool true, .bool false, .bool false, .int .i64 0, .int .i64 0, .bool false] W false)) :
    Calls Try.prog 36 #[.agg #[.int .i64 2, .slice a tn c], .agg #[.int .i64 2, .int .i64 n, .int .i64 xa, .string s, .slice aa al ac, .slice ta tl tc, .slice na nl nc]] W fun e w' => e = .returned (.bool false) ∧ W.grownBy w' none := by
  let A : Obj := .cells #[.int .i64 2, .slice a tn c] 24
  let B : Obj := .cells #[.int .i64 2, .int .i64 n, .int .i64 xa, .string s, .slice aa al ac, .slice ta tl tc, .slice na nl nc] 28
  have HA0 := Lf.hide (res_new W A B)
  have HB0 := Lf.hide (rnew_two W A B)
  have HG0 := Lf.hide (Lf.gbt (Lf.gb (w := W) A) (Lf.gb B))
  go_enter Try.func36, Try.ntmps36
  go_wp2_with fail
  refine (HB.out _ HG0.out).mono ?_; rintro e w1 ⟨rfl, hg⟩
  have HG1 := Lf.hide (Lf.gbt HG0.out hg)
  have HA1 := Lf.hide (keepB HA0.out hg)
  have HB1 := Lf.hide (keepB HB0.out hg)
  have q10 := cell0_of HA1.out
  have q11 := cell1_of HA1.out
  obtain ⟨b10, b11, b12, b13, b14, b15, b16⟩ := box7 HB1.out
  clear hg
  go_wp2_with fail
  go_ret
  exact ⟨rfl, HG1.out⟩

set_option maxRecDepth 100000 in
set_option maxHeartbeats 2000000 in
theorem rhas_2_0 {W : World} {n xa : Int} {s : ByteArray} {a aa ta na : Option Addr} {tn c al ac tl tc nl nc : Nat} (HB : Hid (Ans 74 #[.agg #[.int .i64 2, .int .i64 n, .int .i64 xa, .string s, .slice aa al ac, .slice ta tl tc, .slice na nl nc], .bool true, .bool false, .bool false, .int .i64 0, .int .i64 0, .bool false] W true)) (h3 : (n == 0) = true) :
    Calls Try.prog 36 #[.agg #[.int .i64 2, .slice a tn c], .agg #[.int .i64 2, .int .i64 n, .int .i64 xa, .string s, .slice aa al ac, .slice ta tl tc, .slice na nl nc]] W fun e w' => e = .returned (.bool true) ∧ W.grownBy w' none := by
  let A : Obj := .cells #[.int .i64 2, .slice a tn c] 24
  let B : Obj := .cells #[.int .i64 2, .int .i64 n, .int .i64 xa, .string s, .slice aa al ac, .slice ta tl tc, .slice na nl nc] 28
  have HA0 := Lf.hide (res_new W A B)
  have HB0 := Lf.hide (rnew_two W A B)
  have HG0 := Lf.hide (Lf.gbt (Lf.gb (w := W) A) (Lf.gb B))
  go_enter Try.func36, Try.ntmps36
  go_wp2_with fail
  refine (HB.out _ HG0.out).mono ?_; rintro e w1 ⟨rfl, hg⟩
  have HG1 := Lf.hide (Lf.gbt HG0.out hg)
  have HA1 := Lf.hide (keepB HA0.out hg)
  have HB1 := Lf.hide (keepB HB0.out hg)
  have q10 := cell0_of HA1.out
  have q11 := cell1_of HA1.out
  obtain ⟨b10, b11, b12, b13, b14, b15, b16⟩ := box7 HB1.out
  clear hg
  go_wp2_with fail
  go_ret
  exact ⟨rfl, HG1.out⟩

set_option maxRecDepth 100000 in
set_option maxHeartbeats 2000000 in
theorem rhas_2_1 {W : World} {n xa : Int} {s : ByteArray} {a aa ta na : Option Addr} {tn c al ac tl tc nl nc : Nat} (HB : Hid (Ans 74 #[.agg #[.int .i64 2, .int .i64 n, .int .i64 xa, .string s, .slice aa al ac, .slice ta tl tc, .slice na nl nc], .bool true, .bool false, .bool false, .int .i64 0, .int .i64 0, .bool false] W true)) (h3 : (n == 0) = false) (h4 : (n == 1) = true) :
    Calls Try.prog 36 #[.agg #[.int .i64 2, .slice a tn c], .agg #[.int .i64 2, .int .i64 n, .int .i64 xa, .string s, .slice aa al ac, .slice ta tl tc, .slice na nl nc]] W fun e w' => e = .returned (.bool true) ∧ W.grownBy w' none := by
  let A : Obj := .cells #[.int .i64 2, .slice a tn c] 24
  let B : Obj := .cells #[.int .i64 2, .int .i64 n, .int .i64 xa, .string s, .slice aa al ac, .slice ta tl tc, .slice na nl nc] 28
  have HA0 := Lf.hide (res_new W A B)
  have HB0 := Lf.hide (rnew_two W A B)
  have HG0 := Lf.hide (Lf.gbt (Lf.gb (w := W) A) (Lf.gb B))
  go_enter Try.func36, Try.ntmps36
  go_wp2_with fail
  refine (HB.out _ HG0.out).mono ?_; rintro e w1 ⟨rfl, hg⟩
  have HG1 := Lf.hide (Lf.gbt HG0.out hg)
  have HA1 := Lf.hide (keepB HA0.out hg)
  have HB1 := Lf.hide (keepB HB0.out hg)
  have q10 := cell0_of HA1.out
  have q11 := cell1_of HA1.out
  obtain ⟨b10, b11, b12, b13, b14, b15, b16⟩ := box7 HB1.out
  clear hg
  go_wp2_with fail
  go_ret
  exact ⟨rfl, HG1.out⟩

set_option maxRecDepth 100000 in
set_option maxHeartbeats 2000000 in
theorem rhas_2_x {W : World} {n xa : Int} {s : ByteArray} {a aa ta na : Option Addr} {tn c al ac tl tc nl nc : Nat} (HB : Hid (Ans 74 #[.agg #[.int .i64 2, .int .i64 n, .int .i64 xa, .string s, .slice aa al ac, .slice ta tl tc, .slice na nl nc], .bool true, .bool false, .bool false, .int .i64 0, .int .i64 0, .bool false] W true)) (h3 : (n == 0) = false) (h4 : (n == 1) = false) :
    Calls Try.prog 36 #[.agg #[.int .i64 2, .slice a tn c], .agg #[.int .i64 2, .int .i64 n, .int .i64 xa, .string s, .slice aa al ac, .slice ta tl tc, .slice na nl nc]] W fun e w' => e = .returned (.bool false) ∧ W.grownBy w' none := by
  let A : Obj := .cells #[.int .i64 2, .slice a tn c] 24
  let B : Obj := .cells #[.int .i64 2, .int .i64 n, .int .i64 xa, .string s, .slice aa al ac, .slice ta tl tc, .slice na nl nc] 28
  have HA0 := Lf.hide (res_new W A B)
  have HB0 := Lf.hide (rnew_two W A B)
  have HG0 := Lf.hide (Lf.gbt (Lf.gb (w := W) A) (Lf.gb B))
  go_enter Try.func36, Try.ntmps36
  go_wp2_with fail
  refine (HB.out _ HG0.out).mono ?_; rintro e w1 ⟨rfl, hg⟩
  have HG1 := Lf.hide (Lf.gbt HG0.out hg)
  have HA1 := Lf.hide (keepB HA0.out hg)
  have HB1 := Lf.hide (keepB HB0.out hg)
  have q10 := cell0_of HA1.out
  have q11 := cell1_of HA1.out
  obtain ⟨b10, b11, b12, b13, b14, b15, b16⟩ := box7 HB1.out
  clear hg
  go_wp2_with fail
  go_ret
  exact ⟨rfl, HG1.out⟩

set_option maxRecDepth 100000 in
set_option maxHeartbeats 2000000 in
theorem rhas_3_no {W : World} {n xa : Int} {s : ByteArray} {a aa ta na : Option Addr} {tn c al ac tl tc nl nc : Nat} (HB : Hid (Ans 74 #[.agg #[.int .i64 3, .int .i64 n, .int .i64 xa, .string s, .slice aa al ac, .slice ta tl tc, .slice na nl nc], .bool true, .bool false, .bool false, .int .i64 0, .int .i64 0, .bool false] W false)) :
    Calls Try.prog 36 #[.agg #[.int .i64 3, .slice a tn c], .agg #[.int .i64 3, .int .i64 n, .int .i64 xa, .string s, .slice aa al ac, .slice ta tl tc, .slice na nl nc]] W fun e w' => e = .returned (.bool false) ∧ W.grownBy w' none := by
  let A : Obj := .cells #[.int .i64 3, .slice a tn c] 24
  let B : Obj := .cells #[.int .i64 3, .int .i64 n, .int .i64 xa, .string s, .slice aa al ac, .slice ta tl tc, .slice na nl nc] 28
  have HA0 := Lf.hide (res_new W A B)
  have HB0 := Lf.hide (rnew_two W A B)
  have HG0 := Lf.hide (Lf.gbt (Lf.gb (w := W) A) (Lf.gb B))
  go_enter Try.func36, Try.ntmps36
  go_wp2_with fail
  refine (HB.out _ HG0.out).mono ?_; rintro e w1 ⟨rfl, hg⟩
  have HG1 := Lf.hide (Lf.gbt HG0.out hg)
  have HA1 := Lf.hide (keepB HA0.out hg)
  have HB1 := Lf.hide (keepB HB0.out hg)
  have q10 := cell0_of HA1.out
  have q11 := cell1_of HA1.out
  obtain ⟨b10, b11, b12, b13, b14, b15, b16⟩ := box7 HB1.out
  clear hg
  go_wp2_with fail
  go_ret
  exact ⟨rfl, HG1.out⟩

set_option maxRecDepth 100000 in
set_option maxHeartbeats 2000000 in
theorem rhas_3_yes {W : World} {n xa : Int} {s : ByteArray} {a aa ta na : Option Addr} {tn c al ac tl tc nl nc : Nat} {b : Bool} (HB : Hid (Ans 74 #[.agg #[.int .i64 3, .int .i64 n, .int .i64 xa, .string s, .slice aa al ac, .slice ta tl tc, .slice na nl nc], .bool true, .bool false, .bool false, .int .i64 0, .int .i64 0, .bool false] W true)) (HN : Hid (Ans 75 #[.int .i64 n] W b)) :
    Calls Try.prog 36 #[.agg #[.int .i64 3, .slice a tn c], .agg #[.int .i64 3, .int .i64 n, .int .i64 xa, .string s, .slice aa al ac, .slice ta tl tc, .slice na nl nc]] W fun e w' => e = .returned (.bool b) ∧ W.grownBy w' none := by
  let A : Obj := .cells #[.int .i64 3, .slice a tn c] 24
  let B : Obj := .cells #[.int .i64 3, .int .i64 n, .int .i64 xa, .string s, .slice aa al ac, .slice ta tl tc, .slice na nl nc] 28
  have HA0 := Lf.hide (res_new W A B)
  have HB0 := Lf.hide (rnew_two W A B)
  have HG0 := Lf.hide (Lf.gbt (Lf.gb (w := W) A) (Lf.gb B))
  go_enter Try.func36, Try.ntmps36
  go_wp2_with fail
  refine (HB.out _ HG0.out).mono ?_; rintro e w1 ⟨rfl, hg⟩
  have HG1 := Lf.hide (Lf.gbt HG0.out hg)
  have HA1 := Lf.hide (keepB HA0.out hg)
  have HB1 := Lf.hide (keepB HB0.out hg)
  have q10 := cell0_of HA1.out
  have q11 := cell1_of HA1.out
  obtain ⟨b10, b11, b12, b13, b14, b15, b16⟩ := box7 HB1.out
  clear hg
  go_wp2_with fail
  refine (HN.out _ HG1.out).mono ?_; rintro e w2 ⟨rfl, hg⟩
  have HG2 := Lf.hide (Lf.gbt HG1.out hg)
  clear hg
  go_wp2_with fail
  go_ret
  exact ⟨by simp, HG2.out⟩

set_option maxRecDepth 100000 in
set_option maxHeartbeats 2000000 in
theorem rhas_4_no {W : World} {n xa : Int} {s : ByteArray} {a aa ta na : Option Addr} {tn c al ac tl tc nl nc : Nat} (HB : Hid (Ans 74 #[.agg #[.int .i64 4, .int .i64 n, .int .i64 xa, .string s, .slice aa al ac, .slice ta tl tc, .slice na nl nc], .bool true, .bool false, .bool false, .int .i64 0, .int .i64 0, .bool false] W false)) :
    Calls Try.prog 36 #[.agg #[.int .i64 4, .slice a tn c], .agg #[.int .i64 4, .int .i64 n, .int .i64 xa, .string s, .slice aa al ac, .slice ta tl tc, .slice na nl nc]] W fun e w' => e = .returned (.bool false) ∧ W.grownBy w' none := by
  let A : Obj := .cells #[.int .i64 4, .slice a tn c] 24
  let B : Obj := .cells #[.int .i64 4, .int .i64 n, .int .i64 xa, .string s, .slice aa al ac, .slice ta tl tc, .slice na nl nc] 28
  have HA0 := Lf.hide (res_new W A B)
  have HB0 := Lf.hide (rnew_two W A B)
  have HG0 := Lf.hide (Lf.gbt (Lf.gb (w := W) A) (Lf.gb B))
  go_enter Try.func36, Try.ntmps36
  go_wp2_with fail
  refine (HB.out _ HG0.out).mono ?_; rintro e w1 ⟨rfl, hg⟩
  have HG1 := Lf.hide (Lf.gbt HG0.out hg)
  have HA1 := Lf.hide (keepB HA0.out hg)
  have HB1 := Lf.hide (keepB HB0.out hg)
  have q10 := cell0_of HA1.out
  have q11 := cell1_of HA1.out
  obtain ⟨b10, b11, b12, b13, b14, b15, b16⟩ := box7 HB1.out
  clear hg
  go_wp2_with fail
  go_ret
  exact ⟨rfl, HG1.out⟩

set_option maxRecDepth 100000 in
set_option maxHeartbeats 2000000 in
theorem rhas_4_yes {W : World} {n xa : Int} {s : ByteArray} {a aa ta na : Option Addr} {tn c al ac tl tc nl nc : Nat} {b : Bool} (HB : Hid (Ans 74 #[.agg #[.int .i64 4, .int .i64 n, .int .i64 xa, .string s, .slice aa al ac, .slice ta tl tc, .slice na nl nc], .bool true, .bool false, .bool false, .int .i64 0, .int .i64 0, .bool false] W true)) (HN : Hid (Ans 76 #[.int .i64 n] W b)) :
    Calls Try.prog 36 #[.agg #[.int .i64 4, .slice a tn c], .agg #[.int .i64 4, .int .i64 n, .int .i64 xa, .string s, .slice aa al ac, .slice ta tl tc, .slice na nl nc]] W fun e w' => e = .returned (.bool b) ∧ W.grownBy w' none := by
  let A : Obj := .cells #[.int .i64 4, .slice a tn c] 24
  let B : Obj := .cells #[.int .i64 4, .int .i64 n, .int .i64 xa, .string s, .slice aa al ac, .slice ta tl tc, .slice na nl nc] 28
  have HA0 := Lf.hide (res_new W A B)
  have HB0 := Lf.hide (rnew_two W A B)
  have HG0 := Lf.hide (Lf.gbt (Lf.gb (w := W) A) (Lf.gb B))
  go_enter Try.func36, Try.ntmps36
  go_wp2_with fail
  refine (HB.out _ HG0.out).mono ?_; rintro e w1 ⟨rfl, hg⟩
  have HG1 := Lf.hide (Lf.gbt HG0.out hg)
  have HA1 := Lf.hide (keepB HA0.out hg)
  have HB1 := Lf.hide (keepB HB0.out hg)
  have q10 := cell0_of HA1.out
  have q11 := cell1_of HA1.out
  obtain ⟨b10, b11, b12, b13, b14, b15, b16⟩ := box7 HB1.out
  clear hg
  go_wp2_with fail
  refine (HN.out _ HG1.out).mono ?_; rintro e w2 ⟨rfl, hg⟩
  have HG2 := Lf.hide (Lf.gbt HG1.out hg)
  clear hg
  go_wp2_with fail
  go_ret
  exact ⟨by simp, HG2.out⟩

set_option maxRecDepth 100000 in
set_option maxHeartbeats 2000000 in
theorem rhas_5_no {W : World} {n xa : Int} {s : ByteArray} {a aa ta na : Option Addr} {tn c al ac tl tc nl nc : Nat} (HB : Hid (Ans 74 #[.agg #[.int .i64 5, .int .i64 n, .int .i64 xa, .string s, .slice aa al ac, .slice ta tl tc, .slice na nl nc], .bool true, .bool false, .bool false, .int .i64 0, .int .i64 0, .bool false] W false)) :
    Calls Try.prog 36 #[.agg #[.int .i64 5, .slice a tn c], .agg #[.int .i64 5, .int .i64 n, .int .i64 xa, .string s, .slice aa al ac, .slice ta tl tc, .slice na nl nc]] W fun e w' => e = .returned (.bool false) ∧ W.grownBy w' none := by
  let A : Obj := .cells #[.int .i64 5, .slice a tn c] 24
  let B : Obj := .cells #[.int .i64 5, .int .i64 n, .int .i64 xa, .string s, .slice aa al ac, .slice ta tl tc, .slice na nl nc] 28
  have HA0 := Lf.hide (res_new W A B)
  have HB0 := Lf.hide (rnew_two W A B)
  have HG0 := Lf.hide (Lf.gbt (Lf.gb (w := W) A) (Lf.gb B))
  go_enter Try.func36, Try.ntmps36
  go_wp2_with fail
  refine (HB.out _ HG0.out).mono ?_; rintro e w1 ⟨rfl, hg⟩
  have HG1 := Lf.hide (Lf.gbt HG0.out hg)
  have HA1 := Lf.hide (keepB HA0.out hg)
  have HB1 := Lf.hide (keepB HB0.out hg)
  have q10 := cell0_of HA1.out
  have q11 := cell1_of HA1.out
  obtain ⟨b10, b11, b12, b13, b14, b15, b16⟩ := box7 HB1.out
  clear hg
  go_wp2_with fail
  go_ret
  exact ⟨rfl, HG1.out⟩

set_option maxRecDepth 100000 in
set_option maxHeartbeats 2000000 in
theorem rhas_5_yes {W : World} {n xa : Int} {s : ByteArray} {a aa ta na : Option Addr} {tn c al ac tl tc nl nc : Nat} {b : Bool} (HB : Hid (Ans 74 #[.agg #[.int .i64 5, .int .i64 n, .int .i64 xa, .string s, .slice aa al ac, .slice ta tl tc, .slice na nl nc], .bool true, .bool false, .bool false, .int .i64 0, .int .i64 0, .bool false] W true)) (HN : Hid (Ans 76 #[.int .i64 n] W b)) :
    Calls Try.prog 36 #[.agg #[.int .i64 5, .slice a tn c], .agg #[.int .i64 5, .int .i64 n, .int .i64 xa, .string s, .slice aa al ac, .slice ta tl tc, .slice na nl nc]] W fun e w' => e = .returned (.bool b) ∧ W.grownBy w' none := by
  let A : Obj := .cells #[.int .i64 5, .slice a tn c] 24
  let B : Obj := .cells #[.int .i64 5, .int .i64 n, .int .i64 xa, .string s, .slice aa al ac, .slice ta tl tc, .slice na nl nc] 28
  have HA0 := Lf.hide (res_new W A B)
  have HB0 := Lf.hide (rnew_two W A B)
  have HG0 := Lf.hide (Lf.gbt (Lf.gb (w := W) A) (Lf.gb B))
  go_enter Try.func36, Try.ntmps36
  go_wp2_with fail
  refine (HB.out _ HG0.out).mono ?_; rintro e w1 ⟨rfl, hg⟩
  have HG1 := Lf.hide (Lf.gbt HG0.out hg)
  have HA1 := Lf.hide (keepB HA0.out hg)
  have HB1 := Lf.hide (keepB HB0.out hg)
  have q10 := cell0_of HA1.out
  have q11 := cell1_of HA1.out
  obtain ⟨b10, b11, b12, b13, b14, b15, b16⟩ := box7 HB1.out
  clear hg
  go_wp2_with fail
  refine (HN.out _ HG1.out).mono ?_; rintro e w2 ⟨rfl, hg⟩
  have HG2 := Lf.hide (Lf.gbt HG1.out hg)
  clear hg
  go_wp2_with fail
  go_ret
  exact ⟨by simp, HG2.out⟩

set_option maxRecDepth 100000 in
set_option maxHeartbeats 2000000 in
theorem rhas_6_no {W : World} {n xa : Int} {s : ByteArray} {a aa ta na : Option Addr} {tn c al ac tl tc nl nc : Nat} (HB : Hid (Ans 74 #[.agg #[.int .i64 6, .int .i64 n, .int .i64 xa, .string s, .slice aa al ac, .slice ta tl tc, .slice na nl nc], .bool false, .bool false, .bool true, .int .i64 0, .int .i64 0, .bool false] W false)) :
    Calls Try.prog 36 #[.agg #[.int .i64 6, .slice a tn c], .agg #[.int .i64 6, .int .i64 n, .int .i64 xa, .string s, .slice aa al ac, .slice ta tl tc, .slice na nl nc]] W fun e w' => e = .returned (.bool false) ∧ W.grownBy w' none := by
  let A : Obj := .cells #[.int .i64 6, .slice a tn c] 24
  let B : Obj := .cells #[.int .i64 6, .int .i64 n, .int .i64 xa, .string s, .slice aa al ac, .slice ta tl tc, .slice na nl nc] 28
  have HA0 := Lf.hide (res_new W A B)
  have HB0 := Lf.hide (rnew_two W A B)
  have HG0 := Lf.hide (Lf.gbt (Lf.gb (w := W) A) (Lf.gb B))
  go_enter Try.func36, Try.ntmps36
  go_wp2_with fail
  refine (HB.out _ HG0.out).mono ?_; rintro e w1 ⟨rfl, hg⟩
  have HG1 := Lf.hide (Lf.gbt HG0.out hg)
  have HA1 := Lf.hide (keepB HA0.out hg)
  have HB1 := Lf.hide (keepB HB0.out hg)
  have q10 := cell0_of HA1.out
  have q11 := cell1_of HA1.out
  obtain ⟨b10, b11, b12, b13, b14, b15, b16⟩ := box7 HB1.out
  clear hg
  go_wp2_with fail
  go_ret
  exact ⟨rfl, HG1.out⟩

set_option maxRecDepth 100000 in
set_option maxHeartbeats 2000000 in
theorem rhas_6_yes {W : World} {n xa : Int} {s : ByteArray} {a aa ta na : Option Addr} {tn c al ac tl tc nl nc : Nat} (HB : Hid (Ans 74 #[.agg #[.int .i64 6, .int .i64 n, .int .i64 xa, .string s, .slice aa al ac, .slice ta tl tc, .slice na nl nc], .bool false, .bool false, .bool true, .int .i64 0, .int .i64 0, .bool false] W true)) (hm : s.size ≤ maxLen) :
    Calls Try.prog 36 #[.agg #[.int .i64 6, .slice a tn c], .agg #[.int .i64 6, .int .i64 n, .int .i64 xa, .string s, .slice aa al ac, .slice ta tl tc, .slice na nl nc]] W fun e w' => e = .returned (.bool (decide (s.size ≤ 200))) ∧ W.grownBy w' none := by
  unfold maxLen at hm
  let A : Obj := .cells #[.int .i64 6, .slice a tn c] 24
  let B : Obj := .cells #[.int .i64 6, .int .i64 n, .int .i64 xa, .string s, .slice aa al ac, .slice ta tl tc, .slice na nl nc] 28
  have HA0 := Lf.hide (res_new W A B)
  have HB0 := Lf.hide (rnew_two W A B)
  have HG0 := Lf.hide (Lf.gbt (Lf.gb (w := W) A) (Lf.gb B))
  go_enter Try.func36, Try.ntmps36
  go_wp2_with fail
  refine (HB.out _ HG0.out).mono ?_; rintro e w1 ⟨rfl, hg⟩
  have HG1 := Lf.hide (Lf.gbt HG0.out hg)
  have HA1 := Lf.hide (keepB HA0.out hg)
  have HB1 := Lf.hide (keepB HB0.out hg)
  have q10 := cell0_of HA1.out
  have q11 := cell1_of HA1.out
  obtain ⟨b10, b11, b12, b13, b14, b15, b16⟩ := box7 HB1.out
  clear hg
  go_wp2_with fail
  go_ret
  exact Lf.retb (by rw [Bool.eq_iff_iff]; simp; omega) HG1.out

set_option maxRecDepth 100000 in
set_option maxHeartbeats 2000000 in
theorem rhas_7_no {W : World} {n xa : Int} {s : ByteArray} {a aa ta na : Option Addr} {tn c al ac tl tc nl nc : Nat} (HB : Hid (Ans 74 #[.agg #[.int .i64 7, .int .i64 n, .int .i64 xa, .string s, .slice aa al ac, .slice ta tl tc, .slice na nl nc], .bool true, .bool false, .bool false, .int .i64 0, .int .i64 0, .bool false] W false)) :
    Calls Try.prog 36 #[.agg #[.int .i64 7, .slice a tn c], .agg #[.int .i64 7, .int .i64 n, .int .i64 xa, .string s, .slice aa al ac, .slice ta tl tc, .slice na nl nc]] W fun e w' => e = .returned (.bool false) ∧ W.grownBy w' none := by
  let A : Obj := .cells #[.int .i64 7, .slice a tn c] 24
  let B : Obj := .cells #[.int .i64 7, .int .i64 n, .int .i64 xa, .string s, .slice aa al ac, .slice ta tl tc, .slice na nl nc] 28
  have HA0 := Lf.hide (res_new W A B)
  have HB0 := Lf.hide (rnew_two W A B)
  have HG0 := Lf.hide (Lf.gbt (Lf.gb (w := W) A) (Lf.gb B))
  go_enter Try.func36, Try.ntmps36
  go_wp2_with fail
  refine (HB.out _ HG0.out).mono ?_; rintro e w1 ⟨rfl, hg⟩
  have HG1 := Lf.hide (Lf.gbt HG0.out hg)
  have HA1 := Lf.hide (keepB HA0.out hg)
  have HB1 := Lf.hide (keepB HB0.out hg)
  have q10 := cell0_of HA1.out
  have q11 := cell1_of HA1.out
  obtain ⟨b10, b11, b12, b13, b14, b15, b16⟩ := box7 HB1.out
  clear hg
  go_wp2_with fail
  go_ret
  exact ⟨rfl, HG1.out⟩

set_option maxRecDepth 100000 in
set_option maxHeartbeats 2000000 in
theorem rhas_7_yes {W : World} {n xa : Int} {s : ByteArray} {a aa ta na : Option Addr} {tn c al ac tl tc nl nc : Nat} {b : Bool} (HB : Hid (Ans 74 #[.agg #[.int .i64 7, .int .i64 n, .int .i64 xa, .string s, .slice aa al ac, .slice ta tl tc, .slice na nl nc], .bool true, .bool false, .bool false, .int .i64 0, .int .i64 0, .bool false] W true)) (HN : Hid (Ans 77 #[.int .i64 n] W b)) :
    Calls Try.prog 36 #[.agg #[.int .i64 7, .slice a tn c], .agg #[.int .i64 7, .int .i64 n, .int .i64 xa, .string s, .slice aa al ac, .slice ta tl tc, .slice na nl nc]] W fun e w' => e = .returned (.bool b) ∧ W.grownBy w' none := by
  let A : Obj := .cells #[.int .i64 7, .slice a tn c] 24
  let B : Obj := .cells #[.int .i64 7, .int .i64 n, .int .i64 xa, .string s, .slice aa al ac, .slice ta tl tc, .slice na nl nc] 28
  have HA0 := Lf.hide (res_new W A B)
  have HB0 := Lf.hide (rnew_two W A B)
  have HG0 := Lf.hide (Lf.gbt (Lf.gb (w := W) A) (Lf.gb B))
  go_enter Try.func36, Try.ntmps36
  go_wp2_with fail
  refine (HB.out _ HG0.out).mono ?_; rintro e w1 ⟨rfl, hg⟩
  have HG1 := Lf.hide (Lf.gbt HG0.out hg)
  have HA1 := Lf.hide (keepB HA0.out hg)
  have HB1 := Lf.hide (keepB HB0.out hg)
  have q10 := cell0_of HA1.out
  have q11 := cell1_of HA1.out
  obtain ⟨b10, b11, b12, b13, b14, b15, b16⟩ := box7 HB1.out
  clear hg
  go_wp2_with fail
  refine (HN.out _ HG1.out).mono ?_; rintro e w2 ⟨rfl, hg⟩
  have HG2 := Lf.hide (Lf.gbt HG1.out hg)
  clear hg
  go_wp2_with fail
  go_ret
  exact ⟨by simp, HG2.out⟩

end Go.Proofs.Ytmmgihaoahhkjaa
