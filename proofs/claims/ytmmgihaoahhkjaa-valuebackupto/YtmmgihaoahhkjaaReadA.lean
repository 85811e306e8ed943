/- branch by its contract: what a primitive tells of a value of a type. -/
import Derived.Test.YtmmgihaoahhkjaaTellA
import Derived.Test.YtmmgihaoahhkjaaHasAA
import Derived.OwnWalk
import Derived.Test.YtmmgihaoahhkjaaListsV
import Derived.Test.YtmmgihaoahhkjaaWorth
import Derived.Deep.RegionHeld3
import Derived.Deep.DeepCutAuto
namespace Go.Proofs.Ytmmgihaoahhkjaa
set_option maxRecDepth 20000
open Go.ChangeShapes Go.WideShapes Go.ChangeAt Go.RowKit
set_option linter.unusedVariables false

set_option maxRecDepth 100000 in
set_option maxHeartbeats 1000000 in
theorem br_unit (a : Option Addr) (l c : Nat) (W : World) : Calls Try.prog 88 #[tyV 1 a l c, .int .i64 20] W fun e w' => e = .returned (.tuple #[.int .i64 0, .slice none 0 0, .bool true]) ∧ W.grownBy w' none := by
  unfold tyV
  go_enter Try.func88, Try.ntmps88
  go_wp2_with fail
  go_ret3
  exact ⟨rfl, Lf.gb _⟩

set_option maxRecDepth 100000 in
set_option maxHeartbeats 1000000 in
theorem br_false (a : Option Addr) (l c : Nat) (W : World) : Calls Try.prog 88 #[tyV 2 a l c, .int .i64 22] W fun e w' => e = .returned (.tuple #[.int .i64 0, .slice none 0 0, .bool true]) ∧ W.grownBy w' none := by
  unfold tyV
  go_enter Try.func88, Try.ntmps88
  go_wp2_with fail
  go_ret3
  exact ⟨rfl, Lf.gb _⟩

set_option maxRecDepth 100000 in
set_option maxHeartbeats 1000000 in
theorem br_true (a : Option Addr) (l c : Nat) (W : World) : Calls Try.prog 88 #[tyV 2 a l c, .int .i64 21] W fun e w' => e = .returned (.tuple #[.int .i64 1, .slice none 0 0, .bool true]) ∧ W.grownBy w' none := by
  unfold tyV
  go_enter Try.func88, Try.ntmps88
  go_wp2_with fail
  go_ret3
  exact ⟨rfl, Lf.gb _⟩

set_option maxRecDepth 100000 in
set_option maxHeartbeats 1000000 in
theorem br_none (a : Option Addr) (l c : Nat) (W : World) : Calls Try.prog 88 #[tyV 9 a l c, .int .i64 27] W fun e w' => e = .returned (.tuple #[.int .i64 0, .slice none 0 0, .bool true]) ∧ W.grownBy w' none := by
  unfold tyV
  go_enter Try.func88, Try.ntmps88
  go_wp2_with fail
  go_ret3
  exact ⟨rfl, Lf.gb _⟩

set_option maxRecDepth 100000 in
set_option maxHeartbeats 1000000 in
theorem br_some (a : Option Addr) (l c : Nat) (W : World) : Calls Try.prog 88 #[tyV 9 a l c, .int .i64 26] W fun e w' => e = .returned (.tuple #[.int .i64 0, .slice a l c, .bool true]) ∧ W.grownBy w' none := by
  unfold tyV
  go_enter Try.func88, Try.ntmps88
  go_wp2_with fail
  go_quiet (fail)
  go_wp2_with fail
  go_ret3
  exact ⟨rfl, grow_drewN (Lf.gb _)⟩

set_option maxRecDepth 100000 in
set_option maxHeartbeats 1000000 in
theorem br_pair (a : Option Addr) (l c : Nat) (W : World) : Calls Try.prog 88 #[tyV 11 a l c, .int .i64 23] W fun e w' => e = .returned (.tuple #[.int .i64 0, .slice a l c, .bool true]) ∧ W.grownBy w' none := by
  unfold tyV
  go_enter Try.func88, Try.ntmps88
  go_wp2_with fail
  go_quiet (fail)
  go_wp2_with fail
  go_ret3
  exact ⟨rfl, grow_drewN (Lf.gb _)⟩

set_option maxRecDepth 100000 in
set_option maxHeartbeats 1000000 in
theorem br_left (b o c : Nat) (hc : 2 ≤ c) (W : World) : Calls Try.prog 88 #[tyV 12 (some ⟨b, o, none⟩) 2 c, .int .i64 24] W fun e w' => e = .returned (.tuple #[.int .i64 0, .slice (some ⟨b, o, none⟩) 1 c, .bool true]) ∧ W.grownBy w' none := by
  have hc1 : 1 ≤ c := by omega
  unfold tyV
  go_enter Try.func88, Try.ntmps88
  go_wp2_with fail
  go_quiet (fail)
  go_wp2_with fail
  go_ret3
  exact ⟨rfl, grow_drewN (Lf.gb _)⟩

set_option maxRecDepth 100000 in
set_option maxHeartbeats 1000000 in
theorem br_right (b o c : Nat) (hc : 2 ≤ c) (W : World) : Calls Try.prog 88 #[tyV 12 (some ⟨b, o, none⟩) 2 c, .int .i64 25] W fun e w' => e = .returned (.tuple #[.int .i64 1, .slice (some ⟨b, o + 2, none⟩) 1 (c - 1), .bool true]) ∧ W.grownBy w' none := by
  have hc1 : 1 ≤ c := by omega
  unfold tyV
  go_enter Try.func88, Try.ntmps88
  go_wp2_with fail
  go_quiet (fail)
  go_wp2_with fail
  go_ret3
  exact ⟨rfl, grow_drewN (Lf.gb _)⟩

set_option maxRecDepth 100000 in
set_option maxHeartbeats 1000000 in
theorem br_no1 (a : Option Addr) (l c : Nat) (W : World) (p : Int) (h20 : p ≠ 20) : Calls Try.prog 88 #[tyV 1 a l c, .int .i64 p] W fun e w' => e = .returned (.tuple #[.int .i64 0, .slice none 0 0, .bool false]) ∧ W.grownBy w' none := by
  have b20 : (p == 20) = false := by simpa using h20
  clear h20
  unfold tyV
  go_enter Try.func88, Try.ntmps88
  go_wp2_with fail
  go_ret3
  exact ⟨rfl, Lf.gb _⟩

set_option maxRecDepth 100000 in
set_option maxHeartbeats 1000000 in
theorem br_no2 (a : Option Addr) (l c : Nat) (W : World) (p : Int) (h21 : p ≠ 21) (h22 : p ≠ 22) : Calls Try.prog 88 #[tyV 2 a l c, .int .i64 p] W fun e w' => e = .returned (.tuple #[.int .i64 0, .slice none 0 0, .bool false]) ∧ W.grownBy w' none := by
  have b21 : (p == 21) = false := by simpa using h21
  have b22 : (p == 22) = false := by simpa using h22
  clear h21 h22
  unfold tyV
  go_enter Try.func88, Try.ntmps88
  go_wp2_with fail
  go_ret3
  exact ⟨rfl, Lf.gb _⟩

set_option maxRecDepth 100000 in
set_option maxHeartbeats 1000000 in
theorem br_no9 (a : Option Addr) (l c : Nat) (W : World) (p : Int) (h26 : p ≠ 26) (h27 : p ≠ 27) : Calls Try.prog 88 #[tyV 9 a l c, .int .i64 p] W fun e w' => e = .returned (.tuple #[.int .i64 0, .slice none 0 0, .bool false]) ∧ W.grownBy w' none := by
  have b26 : (p == 26) = false := by simpa using h26
  have b27 : (p == 27) = false := by simpa using h27
  clear h26 h27
  unfold tyV
  go_enter Try.func88, Try.ntmps88
  go_wp2_with fail
  go_ret3
  exact ⟨rfl, Lf.gb _⟩

set_option maxRecDepth 100000 in
set_option maxHeartbeats 1000000 in
theorem br_no11 (a : Option Addr) (l c : Nat) (W : World) (p : Int) (h23 : p ≠ 23) : Calls Try.prog 88 #[tyV 11 a l c, .int .i64 p] W fun e w' => e = .returned (.tuple #[.int .i64 0, .slice none 0 0, .bool false]) ∧ W.grownBy w' none := by
  have b23 : (p == 23) = false := by simpa using h23
  clear h23
  unfold tyV
  go_enter Try.func88, Try.ntmps88
  go_wp2_with fail
  go_ret3
  exact ⟨rfl, Lf.gb _⟩

set_option maxRecDepth 100000 in
set_option maxHeartbeats 1000000 in
theorem br_no12 (a : Option Addr) (l c : Nat) (W : World) (p : Int) (h24 : p ≠ 24) (h25 : p ≠ 25) : Calls Try.prog 88 #[tyV 12 a l c, .int .i64 p] W fun e w' => e = .returned (.tuple #[.int .i64 0, .slice none 0 0, .bool false]) ∧ W.grownBy w' none := by
  have b24 : (p == 24) = false := by simpa using h24
  have b25 : (p == 25) = false := by simpa using h25
  clear h24 h25
  unfold tyV
  go_enter Try.func88, Try.ntmps88
  go_wp2_with fail
  go_ret3
  exact ⟨rfl, Lf.gb _⟩

set_option maxRecDepth 100000 in
set_option maxHeartbeats 1000000 in
theorem br_no (a : Option Addr) (l c : Nat) (W : World) (t p : Int) (h1 : t ≠ 1) (h2 : t ≠ 2) (h9 : t ≠ 9) (h11 : t ≠ 11) (h12 : t ≠ 12) : Calls Try.prog 88 #[tyV t a l c, .int .i64 p] W fun e w' => e = .returned (.tuple #[.int .i64 0, .slice none 0 0, .bool false]) ∧ W.grownBy w' none := by
  have b1 : (t == 1) = false := by simpa using h1
  have b2 : (t == 2) = false := by simpa using h2
  have b9 : (t == 9) = false := by simpa using h9
  have b11 : (t == 11) = false := by simpa using h11
  have b12 : (t == 12) = false := by simpa using h12
  clear h1 h2 h9 h11 h12
  unfold tyV
  go_enter Try.func88, Try.ntmps88
  go_wp2_with fail
  go_ret3
  exact ⟨rfl, Lf.gb _⟩

/-- what branch answers -/
def BranchPost (ok : Nat → Prop) (T : Ty) (p : Int) (W : World) (e : Ending) (w' : World) : Prop :=
  W.grownBy w' none ∧ ((branchF T p = none ∧ e = .returned (.tuple #[.int .i64 0, .slice none 0 0, .bool false])) ∨
    ∃ m ts ta tc V, branchF T p = some (m, ts) ∧ e = .returned (.tuple #[.int .i64 m, .slice ta ts.length tc, .bool true]) ∧ I64 m ∧ RowT ok W ts ta V ∧ (∃ d, ∀ U ∈ ts, formedB d U = true) ∧ ts.length ≤ 2)

theorem branch_any {ok : Nat → Prop} {W : World} {T : Ty} {tv : Value} (hT : LiesT ok W T tv) {d : Nat} (hf : formedB d T = true) (p : Int) : Calls Try.prog 88 #[tv, .int .i64 p] W (BranchPost ok T p W) := by
  have hcap := hT
  obtain ⟨a, c, V, rfl, it, hR⟩ := hT.inv
  have hcp := hcap.cap
  obtain ⟨hlen, hfa⟩ := formed_args2 hf
  have I0 : I64 0 := ⟨by omega, by omega⟩
  have I1 : I64 1 := ⟨by omega, by omega⟩
  obtain ⟨t, args⟩ := T
  simp only [Ty.t, Ty.args] at *
  have hno : branchF (.nd t args) p = none → (Calls Try.prog 88 #[tyV t a args.length c, .int .i64 p] W fun e w' => e = .returned (.tuple #[.int .i64 0, .slice none 0 0, .bool false]) ∧ W.grownBy w' none) → Calls Try.prog 88 #[tyV t a args.length c, .int .i64 p] W (BranchPost ok (.nd t args) p W) := fun h1 h2 => h2.mono fun e w' ⟨he, hg⟩ => ⟨hg, .inl ⟨h1, he⟩⟩
  have hnil : ∀ m, I64 m → branchF (.nd t args) p = some (m, []) → (Calls Try.prog 88 #[tyV t a args.length c, .int .i64 p] W fun e w' => e = .returned (.tuple #[.int .i64 m, .slice none 0 0, .bool true]) ∧ W.grownBy w' none) → Calls Try.prog 88 #[tyV t a args.length c, .int .i64 p] W (BranchPost ok (.nd t args) p W) := fun m im h1 h2 => h2.mono fun e w' ⟨he, hg⟩ => ⟨hg, .inr ⟨m, [], none, 0, fun _ => .int .i64 0, h1, he, im, RowT.nil _ _ _ _, ⟨0, fun U hU => by simp at hU⟩, by simp⟩⟩
  by_cases h1 : t = 1
  · subst h1
    by_cases q : p = 20
    · subst q; exact hnil 0 I0 rfl (br_unit _ _ _ _)
    · exact hno (by simp [branchF, Ty.t, q]) (br_no1 _ _ _ _ _ q)
  by_cases h2 : t = 2
  · subst h2
    by_cases q : p = 22
    · subst q; exact hnil 0 I0 rfl (br_false _ _ _ _)
    by_cases q2 : p = 21
    · subst q2; exact hnil 1 I1 rfl (br_true _ _ _ _)
    exact hno (by simp [branchF, Ty.t, q, q2]) (br_no2 _ _ _ _ _ q2 q)
  by_cases h9 : t = 9
  · subst h9
    by_cases q : p = 27
    · subst q; exact hnil 0 I0 rfl (br_none _ _ _ _)
    by_cases q2 : p = 26
    · subst q2
      have hl1 : args.length = 1 := by simp [partsF] at hlen; omega
      exact (br_some _ _ _ _).mono fun e w' ⟨he, hg⟩ => ⟨hg, .inr ⟨0, args, a, c, V, rfl, he, I0, hR, ⟨_, hfa⟩, by omega⟩⟩
    exact hno (by simp [branchF, Ty.t, q, q2]) (br_no9 _ _ _ _ _ q2 q)
  by_cases h11 : t = 11
  · subst h11
    by_cases q : p = 23
    · subst q
      have hl2 : args.length = 2 := by simp [partsF] at hlen; omega
      exact (br_pair _ _ _ _).mono fun e w' ⟨he, hg⟩ => ⟨hg, .inr ⟨0, args, a, c, V, rfl, he, I0, hR, ⟨_, hfa⟩, by omega⟩⟩
    exact hno (by simp [branchF, Ty.t, q]) (br_no11 _ _ _ _ _ q)
  by_cases h12 : t = 12
  · subst h12
    have hl2 : args.length = 2 := by simp [partsF] at hlen; omega
    obtain ⟨A, B, rfl⟩ : ∃ A B, args = [A, B] := by
      match args, hl2 with
      | [A, B], _ => exact ⟨A, B, rfl⟩
    obtain ⟨b, o, rfl, _, t0, a0, l0, c0, hv0, e0, e1⟩ := hR.2.1 0 (by simp)
    obtain ⟨b', o', hbo, hok1, t1, a1, l1, c1, hv1, e2, e3⟩ := hR.2.1 1 (by simp)
    simp only [Option.some.injEq, Addr.mk.injEq, and_true] at hbo
    obtain ⟨rfl, rfl⟩ := hbo
    simp only [List.length_cons, List.length_nil] at hcp
    by_cases q : p = 24
    · subst q
      refine (br_left b o c (by omega) W).mono fun e w' ⟨he, hg⟩ => ⟨hg, .inr ⟨0, [A], some ⟨b, o, none⟩, c, V, rfl, he, I0, ⟨by simp [maxLen], fun i hi => ?_, fun i hi => ?_⟩, ⟨d + 1, fun U hU => hfa U (by simp at hU; simp [hU])⟩, by simp⟩⟩
      · obtain rfl : i = 0 := by simp at hi; omega
        exact hR.2.1 0 (by simp)
      · obtain rfl : i = 0 := by simp at hi; omega
        exact hR.2.2 0 (by simp)
    by_cases q2 : p = 25
    · subst q2
      refine (br_right b o c (by omega) W).mono fun e w' ⟨he, hg⟩ => ⟨hg, .inr ⟨1, [B], some ⟨b, o + 2, none⟩, c - 1, fun i => V (i + 1), rfl, he, I1, ⟨by simp [maxLen], fun i hi => ?_, fun i hi => ?_⟩, ⟨d + 1, fun U hU => hfa U (by simp at hU; simp [hU])⟩, by simp⟩⟩
      · obtain rfl : i = 0 := by simp at hi; omega
        exact ⟨b, o + 2, rfl, hok1, t1, a1, l1, c1, hv1, by simpa using e2, by simpa using e3⟩
      · obtain rfl : i = 0 := by simp at hi; omega
        exact hR.2.2 1 (by simp)
    exact hno (by simp [branchF, Ty.t, q, q2]) (br_no12 _ _ _ _ _ q q2)
  exact hno (by simp [branchF, Ty.t, h1, h2, h9, h11, h12]) (br_no _ _ _ _ _ _ h1 h2 h9 h11 h12)

end Go.Proofs.Ytmmgihaoahhkjaa

/- readEach by its contract, given what read does with smaller trees. -/
namespace Go.Proofs.Ytmmgihaoahhkjaa
set_option maxRecDepth 20000
open Go.ChangeShapes Go.WideShapes Go.ChangeAt Go.RowKit
set_option linter.unusedVariables false

/-- what read answers -/
def ReadPost (t : Tr) (T : Ty) (W : World) (e : Ending) (w' : World) : Prop :=
  W.grownBy w' none ∧ ∃ k n a s aa al ac ta tl tc na nl nc bb, e = .returned (.tuple #[vaV k n a s aa al ac ta tl tc na nl nc, .bool bb]) ∧
    (bb = true → ∃ x, readT t T = some x ∧ LiesV (W.heap.size ≤ ·) w' x (vaV k n a s aa al ac ta tl tc na nl nc)) ∧ (bb = false → readT t T = none)

/-- read does so with all trees of N nodes at most -/
def ReadN (N : Nat) : Prop := ∀ (t : Tr) (T : Ty) (u tv : Value) (W : World) (d : Nat), t.size ≤ N → t.size ≤ 900 → Lies (fun _ => True) W t u → LiesT (fun _ => True) W T tv → formedB d T = true → Calls Try.prog 47 #[tv, u] W (ReadPost t T W)

/-- what readEach and readElts answer -/
def EachPost (r : Option (List Va)) (W : World) (e : Ending) (w' : World) : Prop :=
  W.grownBy w' none ∧ ((∃ xs, r = some xs ∧ ∃ a c V, e = .returned (.tuple #[.slice a xs.length c, .bool true]) ∧ xs.length ≤ c ∧ RowVa (W.heap.size ≤ ·) w' xs a V) ∨ (r = none ∧ e = .returned (.tuple #[.slice none 0 0, .bool false])))

theorem readTs_len : ∀ (l : List Tr) (ts : List Ty), l.length ≠ ts.length → readTs l ts = none
  | [], [], h => by simp at h
  | [], _ :: _, _ => by simp [readTs]
  | _ :: _, [], _ => by simp [readTs]
  | t :: l, T :: ts, h => by
    rw [readTs]
    cases readT t T with
    | none => rfl
    | some x => simp [readTs_len l ts (by simpa using h)]

theorem ListOkV.slice {H : Nat} {w : World} {v : Value} {ts : List Va} {vs : List Value} (h : ListOkV H w v ts vs) : ∃ la lc, v = .slice la vs.length lc := by
  rcases h.own.2 with ⟨rfl, h0⟩ | ⟨g, cap, cur, rfl, _⟩
  · exact ⟨none, 0, by rw [h0]⟩
  · exact ⟨_, _, rfl⟩

theorem ListOkV.call {H : Nat} {w w' : World} {v : Value} {ts : List Va} {vs : List Value} (h : ListOkV H w v ts vs) (hg : w.grownBy w' none) : ListOkV H w' v ts vs := by
  refine ⟨World.ownsRow.kept h.own hg ?_, h.len, fun i t u ht hu => (h.lies i t u ht hu).same (fun b o _ hlt => World.cell?_of_block (hg.block b hlt (by simp)))⟩
  cases v.ownBlock <;> simp

theorem grow_set7New {w0 w : World} {b : Nat} {v0 v1 v2 v3 v4 v5 v6 : Value} (h : w0.grownBy w none) (hb : w0.heap.size ≤ b) : w0.grownBy (((((((w.setCell ⟨b, 0, none⟩ v0).setCell ⟨b, 1, none⟩ v1).setCell ⟨b, 2, none⟩ v2).setCell ⟨b, 3, none⟩ v3).setCell ⟨b, 4, none⟩ v4).setCell ⟨b, 5, none⟩ v5).setCell ⟨b, 6, none⟩ v6) none :=
  grow_setNew (grow_setNew (grow_setNew (grow_setNew (grow_setNew (grow_setNew (grow_setNew h hb _ _ _) hb _ _ _) hb _ _ _) hb _ _ _) hb _ _ _) hb _ _ _) hb _ _ _

/-- behind read's call: what it answered lies in a block -/
def RdCut (t : Tr) (T : Ty) (wr : World) (p q : Value) (wx : World) : Prop :=
  ∃ b9 k n a s aa al ac ta tl tc na nl nc bb, p = .pointer (some ⟨b9, 0, none⟩) ∧ q = .bool bb ∧ wx.heap[b9]? = some (.cells #[.int .i64 k, .int .i64 n, .int .i64 a, .string s, .slice aa al ac, .slice ta tl tc, .slice na nl nc] 28 (0, 0)) ∧ wr.grownBy wx none ∧
    (bb = true → ∃ x, readT t T = some x ∧ LiesV (wr.heap.size ≤ ·) wx x (vaV k n a s aa al ac ta tl tc na nl nc)) ∧ (bb = false → readT t T = none)

theorem rdCut_one {t : Tr} {T : Ty} {wr w5 w2 : World} {k n a : Int} {s : ByteArray} {aa : Option Addr} {al ac : Nat} {ta : Option Addr} {tl tc : Nat} {na : Option Addr} {nl nc : Nat} {bb : Bool} (h5 : wr.grownBy w5 none) (hg : w5.drew.grownBy w2 none)
    (h1 : bb = true → ∃ x, readT t T = some x ∧ LiesV (w5.drew.heap.size ≤ ·) w2 x (vaV k n a s aa al ac ta tl tc na nl nc)) (h2 : bb = false → readT t T = none) :
    RdCut t T wr (.pointer (some ⟨w2.heap.size, 0, none⟩)) (.bool bb) (w2.alloc (.cells #[.int .i64 k, .int .i64 n, .int .i64 a, .string s, .slice aa al ac, .slice ta tl tc, .slice na nl nc] 28)) := by
  refine ⟨_, k, n, a, s, aa, al, ac, ta, tl, tc, na, nl, nc, bb, rfl, rfl, heap_alloc_new _ _, Lf.gbt (Lf.gbt (grow_drew h5) hg) (Lf.gb _), fun hb => ?_, h2⟩
  obtain ⟨x, e, hL⟩ := h1 hb
  refine ⟨x, e, (hL.same (fun b o _ hlt => World.cell?_of_block ((Lf.gb (w := w2) _).block b hlt (by simp)))).okMono (fun b _ h => ?_)⟩
  have : w5.heap.size ≤ b := h
  have := h5.size
  omega

theorem rdCut_two {t : Tr} {T : Ty} {wr w5 w2 : World} {o : Obj} {k n a : Int} {s : ByteArray} {aa : Option Addr} {al ac : Nat} {ta : Option Addr} {tl tc : Nat} {na : Option Addr} {nl nc : Nat} {bb : Bool} {x0 x1 x2 x3 x4 x5 x6 : Value} (h5 : wr.grownBy w5 none) (hg : (w5.drew.alloc o).grownBy w2 none) (hb : w2.heap[w5.heap.size]? = some (.cells #[x0, x1, x2, x3, x4, x5, x6] 28 (0, 0)))
    (h1 : bb = true → ∃ x, readT t T = some x ∧ LiesV ((w5.drew.alloc o).heap.size ≤ ·) w2 x (vaV k n a s aa al ac ta tl tc na nl nc)) (h2 : bb = false → readT t T = none) :
    RdCut t T wr (.pointer (some ⟨w5.heap.size, 0, none⟩)) (.bool bb) (set7 w2 w5.heap.size (.int .i64 k) (.int .i64 n) (.int .i64 a) (.string s) (.slice aa al ac) (.slice ta tl tc) (.slice na nl nc)) := by
  have hgs := set7_grow w2 w5.heap.size (.int .i64 k) (.int .i64 n) (.int .i64 a) (.string s) (.slice aa al ac) (.slice ta tl tc) (.slice na nl nc)
  refine ⟨_, k, n, a, s, aa, al, ac, ta, tl, tc, na, nl, nc, bb, rfl, rfl, set7_block hb _ _ _ _ _ _ _, grow_new (Lf.gbt (Lf.gbt (grow_drew h5) (Lf.gb _)) hg) hgs h5.size, fun hbb => ?_, h2⟩
  obtain ⟨x, e, hL⟩ := h1 hbb
  have hz : (w5.drew.alloc o).heap.size = w5.heap.size + 1 := World.size_alloc _ _
  rw [hz] at hL
  refine ⟨x, e, (hL.same (fun b o hb hlt => World.cell?_of_block (hgs.block b hlt (by simp; have : w5.heap.size + 1 ≤ b := hb; omega)))).okMono (fun b _ h => ?_)⟩
  have : w5.heap.size + 1 ≤ b := h
  have := h5.size
  omega

set_option maxRecDepth 100000 in
set_option maxHeartbeats 800000 in
theorem readEach_any {N : Nat} (hN0 : ReadN N) {W : World} {l : List Tr} {ts : List Ty} {la ta : Option Addr} {lc tc : Nat} {VL VT : Nat → Value} {d : Nat} (hL : RowN (fun _ => True) W l la VL) (hT : RowT (fun _ => True) W ts ta VT) (hf : ∀ U ∈ ts, formedB d U = true) (hz : sizes l ≤ N) (hz9 : sizes l ≤ 900) :
    Calls Try.prog 85 #[.slice la l.length lc, .slice ta ts.length tc] W (EachPost (readTs l ts) W) := by
  have hll := length_le_sizes l
  have htm := hT.1
  unfold maxLen at htm
  by_cases hlen : l.length = ts.length
  · have HIH : Hid (∀ (j : Nat) (h : j < l.length) (h2 : j < ts.length) (W2 : World), W.grownBy W2 none → Calls Try.prog 47 #[VT j, VL j] W2 (ReadPost l[j] ts[j] W2)) := fun j h h2 W2 hg => by
      have h3 : (l[j]).size ≤ sizes l := by
        have h4 := sizes_take_succ l j h
        have h5 := sizes_take_le l (j + 1)
        omega
      exact hN0 _ _ _ _ W2 d (by omega) (by omega) ((hL.2.2 j h).same (sameAll hg)) ((hT.2.2 j h2).same (sameAll hg)) (hf _ (List.getElem_mem h2))
    have HL := Lf.hide hL
    have HT := Lf.hide hT
    have HLEN := Lf.hide hlen
    clear hN0 hL hT hf hz
    rw [← hlen]
    clear hlen
    have HGV := Lf.hide (growV_any l.length (by omega) W)
    go_enter Try.func85, Try.ntmps85
    go_wp2_with fail
    refine HGV.out.mono ?_; rintro e w1 ⟨cv0, rfl, hown0, hg0⟩
    have HO0 := Lf.hide hown0
    have HG0 := Lf.hide hg0
    clear hown0 hg0 HGV
    go_wp2_with fail
    go_loopw [6, 21] (fun lv iv wr => ∃ (xs : List Va) (vs : List Value), iv = .int .i64 vs.length ∧ vs.length ≤ l.length ∧ ListOkV W.heap.size wr lv xs vs ∧ W.grownBy wr none ∧ readTs l ts = (readTs (l.drop vs.length) (ts.drop vs.length)).map (xs ++ ·)) (fun _ iv _ => l.length - (intOf iv).toNat)
    case atStart => exact ⟨[], [], rfl, Nat.zero_le _, ⟨HO0.out, rfl, fun i t u h => by simp at h⟩, HG0.out, by simp⟩
    case round =>
      obtain ⟨xs, vs, rfl, hj, hK, hg, hr⟩ := hrel
      obtain ⟨ra, rc, rfl⟩ := hK.slice
      have hxl := hK.len
      by_cases hlt : vs.length < l.length
      · have hlt2 : vs.length < ts.length := by have := HLEN.out; omega
        obtain ⟨b, o, rfl, _, k', n', p', s', a', l', c', hv, h0, h1, h2, h3, h4⟩ := (HL.out.2.1 vs.length hlt).same (w' := wr) (sameAll hg)
        obtain ⟨b2, o2, rfl, _, t2, a2, l2, c2, hv2, e0, e1⟩ := (HT.out.2.1 vs.length hlt2).same (w' := wr) (sameAll hg)
        have hbl : b < wr.heap.size := World.block_lt_of_cell? wr _ h0
        have hbl2 : b2 < wr.heap.size := World.block_lt_of_cell? wr _ e0
        have hd1 : l.drop vs.length = l[vs.length] :: l.drop (vs.length + 1) := List.drop_eq_getElem_cons hlt
        have hd2 : ts.drop vs.length = ts[vs.length] :: ts.drop (vs.length + 1) := List.drop_eq_getElem_cons hlt2
        have hih : ∀ W2, wr.grownBy W2 none → Calls Try.prog 47 #[tyV t2 a2 l2 c2, nodeV k' n' p' s' a' l' c'] W2 (ReadPost l[vs.length] ts[vs.length] W2) := fun W2 hW2 => by
          have := HIH.out vs.length hlt hlt2 W2 (Lf.gbt hg hW2)
          rw [hv, hv2] at this
          exact this
        have HC := Lf.hide hih
        rw [hd1, hd2, readTs] at hr
        have HR := Lf.hide hr
        have HK := Lf.hide hK
        have HG := Lf.hide hg
        have HXL := Lf.hide hxl
        clear hih hr hd1 hd2 hK hg hv hv2 hxl
        unfold tyV nodeV at HC
        go_wp2_with fail
        have hw5 := Lf.gb (w := wr) (.cells #[.int .i64 k', .int .i64 n', .int .i64 p', .string s', .slice a' l' c'] 39)
        have hn5 := heap_alloc_new wr (.cells #[.int .i64 k', .int .i64 n', .int .i64 p', .string s', .slice a' l' c'] 39)
        generalize wr.alloc (.cells #[.int .i64 k', .int .i64 n', .int .i64 p', .string s', .slice a' l' c'] 39) = w5 at *
        have k1 : ∀ W3 : World, w5.grownBy W3 none → W3.heap[wr.heap.size]? = _ := fun W3 h => (h.block _ (Array.getElem?_eq_some_iff.1 hn5).1 (by simp)).trans hn5
        have f0 : ∀ W3 : World, w5.grownBy W3 none → W3.cell? ⟨wr.heap.size, 0, none⟩ = some (.int .i64 k') := fun W3 h => (box5 (k1 W3 h)).1
        have f1 : ∀ W3 : World, w5.grownBy W3 none → W3.cell? ⟨wr.heap.size, 1, none⟩ = some (.int .i64 n') := fun W3 h => (box5 (k1 W3 h)).2.1
        have f2 : ∀ W3 : World, w5.grownBy W3 none → W3.cell? ⟨wr.heap.size, 2, none⟩ = some (.int .i64 p') := fun W3 h => (box5 (k1 W3 h)).2.2.1
        have f3 : ∀ W3 : World, w5.grownBy W3 none → W3.cell? ⟨wr.heap.size, 3, none⟩ = some (.string s') := fun W3 h => (box5 (k1 W3 h)).2.2.2.1
        have f4 : ∀ W3 : World, w5.grownBy W3 none → W3.cell? ⟨wr.heap.size, 4, none⟩ = some (.slice a' l' c') := fun W3 h => (box5 (k1 W3 h)).2.2.2.2
        have g0 : ∀ W3 : World, w5.grownBy W3 none → W3.cell? ⟨b2, o2 + vs.length * 2, none⟩ = some (.int .i64 t2) := fun W3 h => (World.cell?_of_block ((Lf.gbt hw5 h).block b2 hbl2 (by simp))).trans e0
        have g1 : ∀ W3 : World, w5.grownBy W3 none → W3.cell? ⟨b2, o2 + vs.length * 2 + 1, none⟩ = some (.slice a2 l2 c2) := fun W3 h => (World.cell?_of_block ((Lf.gbt hw5 h).block b2 hbl2 (by simp))).trans e1
        have HW5 := Lf.hide hw5
        clear k1 hw5 hn5 h0 h1 h2 h3 h4 e0 e1
        go_cut [9, 10] (fun p q wx => RdCut l[vs.length] ts[vs.length] wr p q wx)
        case first =>
          go_region_held3 (fun w' => w5.grownBy w' none) (first | with_reducible assumption | with_reducible exact grow_set7New (by assumption) (Nat.le_refl _) | with_reducible exact Lf.gbt (by assumption) (Lf.gb _) | with_reducible exact grow_drew (grow_refl _ _) | with_reducible exact grow_drew (Lf.gb _)) (first
            | (go_at_call 47; refine (HC.out _ (Lf.gbt HW5.out (by assumption))).mono ?_; rintro e w2 hpost; obtain ⟨hgp, kk, nn, aa, ss, xa, xl, xc, ya, yl, yc, za, zl, zc, bb, rfl, hpt, hpf⟩ := hpost; have HPT := Lf.hide hpt; have HPF := Lf.hide hpf; have HGP := Lf.hide hgp; have hS := Lf.gbt (by assumption) hgp; have hb9 : w2.heap[w5.heap.size]? = some (.cells #[.int .i64 0, .int .i64 0, .int .i64 0, .string ⟨#[]⟩, .slice none 0 0, .slice none 0 0, .slice none 0 0] 28 (0, 0)) := (hgp.block _ (by simp) (by simp)).trans (heap_alloc_new w5.drew _); obtain ⟨v0, v1, v2, v3, v4, v5, v6⟩ := box7 hb9; have fz := free7 hb9; have HB9 := Lf.hide hb9; clear hpt hpf hgp hb9 f0 f1 f2 f3 f4 g0 g1; unfold vaV)
            | (go_at_call 47; refine (HC.out _ (Lf.gbt HW5.out (by assumption))).mono ?_; rintro e w2 hpost; obtain ⟨hgp, kk, nn, aa, ss, xa, xl, xc, ya, yl, yc, za, zl, zc, bb, rfl, hpt, hpf⟩ := hpost; have HPT := Lf.hide hpt; have HPF := Lf.hide hpf; have HGP := Lf.hide hgp; have hS := Lf.gbt (by assumption) hgp; clear hpt hpf hgp f0 f1 f2 f3 f4 g0 g1; unfold vaV))
          all_goals
            go_wp2_with fail
            go_meet
            first
            | with_reducible exact rdCut_one HW5.out HGP.out HPT.out HPF.out
            | exact rdCut_two HW5.out HGP.out HB9.out HPT.out HPF.out
        case rest =>
          obtain ⟨b9, kk, nn, aa, ss, xa, xl, xc, ya, yl, yc, za, zl, zc, bb, rfl, rfl, hb9, hgx, hpt, hpf⟩ := hcut
          obtain ⟨v0, v1, v2, v3, v4, v5, v6⟩ := box7 hb9
          cases bb with
          | false =>
            have hnone : readTs l ts = none := by
              have h := HR.out
              rw [hpf rfl] at h
              exact h
            have HN := Lf.hide hnone
            have HGX := Lf.hide (Lf.gbt HG.out hgx)
            clear hnone hgx hpt hpf hb9 f0 f1 f2 f3 f4 g0 g1 HR HC HIH
            go_wp2_with fail
            go_ret2
            exact ⟨HGX.out, .inr ⟨HN.out, rfl⟩⟩
          | true =>
            obtain ⟨x, hx, hLx⟩ := hpt rfl
            have hr2 : readTs l ts = (readTs (l.drop (vs.length + 1)) (ts.drop (vs.length + 1))).map (xs ++ [x] ++ ·) := by
              have h := HR.out
              rw [hx] at h
              rw [h]
              cases readTs (l.drop (vs.length + 1)) (ts.drop (vs.length + 1)) <;> simp
            have HR2 := Lf.hide hr2
            have HGX := Lf.hide (Lf.gbt HG.out hgx)
            have HLX := Lf.hide hLx
            have HKX := Lf.hide (HK.out.call hgx)
            have HOB : Hid (∀ k, (Value.slice ra vs.length rc).ownBlock = some k → k < wr.heap.size) := fun k hk => (World.ownsRow.lt HK.out.own k hk).2
            have hzx : W.heap.size ≤ wc.heap.size := HGX.out.size
            have hzw : W.heap.size ≤ wr.heap.size := HG.out.size
            clear hr2 hLx hx hgx hpt hpf hb9 f0 f1 f2 f3 f4 g0 g1 HR HC HIH
            go_wp2_with (at_builtin; refine appVa W.heap.size vs kk nn aa ss xa xl xc ya yl yc za zl zc wc (.slice ra vs.length rc) rfl (.tmp 37) (.tmp 39) rfl rfl rfl rfl HKX.out.own hzx (by omega) ?_; intro g cap w5 ho5 hg5; have HK5 := Lf.hide (HKX.out.push (S := wr.heap.size) hzw HOB.out HLX.out hg5 ho5); have HG5 := Lf.hide (grow_own HGX.out HKX.out.own (Nat.le_refl _) hg5.1); clear ho5 hg5)
            refine ⟨⟨xs ++ [x], vs ++ [vaV kk nn aa ss xa xl xc ya yl yc za zl zc], by simp, by simp; omega, ?_, HG5.out, ?_⟩, by simp [intOf]; omega⟩
            · have h := HK5.out
              simpa using h
            · have h := HR2.out
              simpa using h
      · have hje : vs.length = l.length := by omega
        have hend : readTs l ts = some xs := by
          have h2 := HLEN.out
          rw [hr, List.drop_of_length_le (by omega), List.drop_of_length_le (by omega), readTs]
          simp
        have hlx : xs.length ≤ maxLen := by unfold maxLen; omega
        obtain ⟨a, c, V, hv, hc, hrow⟩ := hK.done hlx
        have HE := Lf.hide hend
        have HROW := Lf.hide hrow
        have HG := Lf.hide hg
        have HV := Lf.hide hv
        have HCC := Lf.hide hc
        have hlti : ¬ (vs.length : Int) < (l.length : Int) := by omega
        clear hend hrow hg hv hc hr hK hje HIH hlx hxl
        go_wp2_with fail
        go_ret2
        exact ⟨HG.out, .inl ⟨xs, HE.out, a, c, V, by rw [HV.out]; rfl, HCC.out, HROW.out⟩⟩
  · have hn := readTs_len l ts hlen
    have HN := Lf.hide hn
    have hb : ((l.length : Int) == (ts.length : Int)) = false := by simpa using (by omega : ¬ (l.length : Int) = ts.length)
    clear hN0 hL hT hf hn
    have hne : ¬ (l.length : Int) = (ts.length : Int) := by omega
    clear hlen
    go_enter Try.func85, Try.ntmps85
    go_wp2_with fail
    go_ret2
    exact ⟨grow_refl _ _, .inr ⟨HN.out, rfl⟩⟩

end Go.Proofs.Ytmmgihaoahhkjaa

/- readElts by its contract, given what read does with smaller trees. -/
namespace Go.Proofs.Ytmmgihaoahhkjaa
set_option maxRecDepth 20000
open Go.ChangeShapes Go.WideShapes Go.ChangeAt Go.RowKit
set_option linter.unusedVariables false

theorem Lies.invN {ok : Nat → Prop} {w : World} {t : Tr} {u : Value} (h : Lies ok w t u) : ∃ a c V, u = Go.Proofs.Ytmmgihaoahhkjaa.nodeV t.k0 t.n0 t.p0 t.s0 a t.args0.length c ∧ (I64 t.k0 ∧ I64 t.n0 ∧ I64 t.p0 ∧ t.s0.size ≤ maxLen) ∧ RowN ok w t.args0 a V := by
  cases h with
  | mk V hl hs ik iN ip hc hr => exact ⟨_, _, V, rfl, ⟨ik, iN, ip, hs⟩, hl, hc, hr⟩

theorem readEs_cons (t : Tr) (l : List Tr) (ts : List Ty) : readEs (t :: l) ts = match readTs t.args0 ts with
    | none => none
    | some ys => if t.p0 = 28 then (readEs l ts).map (leafVa 11 0 ⟨#[]⟩ ys :: ·) else none := by
  cases t; rw [readEs]; rfl

theorem lt_of_blk2 {w : World} {b : Nat} {o : Obj} (h : w.heap[b]? = some o) : b < w.heap.size := (Array.getElem?_eq_some_iff.1 h).1

theorem tsize_eq (t : Tr) : t.size = sizes t.args0 + 1 := by cases t; rw [Tr.size]; rfl

theorem liesV_leaf {ok : Nat → Prop} {w : World} {k n : Int} {s : ByteArray} {ys : List Va} {a : Option Addr} {c : Nat} {V : Nat → Value} (ik : I64 k) (iN : I64 n) (hs : s.size ≤ maxLen) (hR : RowVa ok w ys a V) (hc : ys.length ≤ c) : LiesV ok w (leafVa k n s ys) (vaV k n 0 s a ys.length c none 0 0 none 0 0) :=
  LiesV.of (types := []) (code := []) (VT := fun _ => .int .i64 0) (VN := fun _ => .int .i64 0) hc hs ik iN ⟨by omega, by omega⟩ hR (RowT.nil _ _ _ _) (RowN.nil _ _ _ _)

set_option maxRecDepth 100000 in
set_option maxHeartbeats 1000000 in
theorem readElts_any {N : Nat} (hN0 : ReadN N) {W : World} {T : Ty} {tv : Value} {l : List Tr} {la : Option Addr} {lc : Nat} {VL : Nat → Value} {d : Nat} (hT0 : LiesT (fun _ => True) W T tv) (hL : RowN (fun _ => True) W l la VL) (hf : ∀ U ∈ T.args, formedB d U = true) (hz : sizes l ≤ N) (hz9 : sizes l ≤ 900) :
    Calls Try.prog 87 #[tv, .slice la l.length lc] W (EachPost (readEs l T.args) W) := by
  obtain ⟨ta, tc, VT, rfl, it, hT⟩ := hT0.inv
  have hll := length_le_sizes l
  have htm := hT.1
  unfold maxLen at htm
  have HIH : Hid (∀ (j : Nat) (h : j < l.length), ∃ a c, VL j = nodeV l[j].k0 l[j].n0 l[j].p0 l[j].s0 a l[j].args0.length c ∧ ∀ (W2 : World), W.grownBy W2 none → Calls Try.prog 85 #[.slice a l[j].args0.length c, .slice ta T.args.length tc] W2 (EachPost (readTs l[j].args0 T.args) W2)) := fun j h => by
    have h3 : (l[j]).size ≤ sizes l := by
      have h4 := sizes_take_succ l j h
      have h5 := sizes_take_le l (j + 1)
      omega
    have h6 := tsize_eq l[j]
    obtain ⟨a, c, V, e, _, hR⟩ := (hL.2.2 j h).invN
    exact ⟨a, c, e, fun W2 hg => readEach_any hN0 (hR.same (sameAll hg)) (hT.same (sameAll hg)) hf (by omega) (by omega)⟩
  have HL := Lf.hide hL
  have hB0 := heap_alloc_new W (.cells #[.int .i64 T.t, .slice ta T.args.length tc] 24)
  have HB0 := Lf.hide hB0
  clear hN0 hL hT hf hz hT0 it hB0
  unfold tyV
  go_enter Try.func87, Try.ntmps87
  go_wp2_with fail
  go_loopw [6, 13] (fun lv iv wr => ∃ (xs : List Va) (vs : List Value), iv = .int .i64 vs.length ∧ vs.length ≤ l.length ∧ ListOkV W.heap.size wr lv xs vs ∧ W.grownBy wr none ∧ wr.heap[W.heap.size]? = some (.cells #[.int .i64 T.t, .slice ta T.args.length tc] 24 (0, 0)) ∧ readEs l T.args = (readEs (l.drop vs.length) T.args).map (xs ++ ·)) (fun _ iv _ => l.length - (intOf iv).toNat)
  case atStart => exact ⟨[], [], rfl, Nat.zero_le _, ⟨World.ownsRow_nil _ _ _ _, rfl, fun i t u h => by simp at h⟩, Lf.gb _, HB0.out, by simp⟩
  case round =>
    obtain ⟨xs, vs, rfl, hj, hK, hg, hbx, hr⟩ := hrel
    obtain ⟨ra, rc, rfl⟩ := hK.slice
    have hxl := hK.len
    by_cases hlt : vs.length < l.length
    · obtain ⟨ca, cc, hcv, hcall⟩ := HIH.out vs.length hlt
      obtain ⟨b, o, rfl, _, k', n', p', s', a', l', c', hv, h0, h1, h2, h3, h4⟩ := (HL.out.2.1 vs.length hlt).same (w' := wr) (sameAll hg)
      have hbl : b < wr.heap.size := World.block_lt_of_cell? wr _ h0
      have hd1 : l.drop vs.length = l[vs.length] :: l.drop (vs.length + 1) := List.drop_eq_getElem_cons hlt
      rw [hd1, readEs_cons] at hr
      rw [hv] at hcv
      unfold nodeV at hcv
      simp only [Value.agg.injEq, Array.mk.injEq, List.cons.injEq, Value.int.injEq, Value.slice.injEq, true_and, and_true] at hcv
      obtain ⟨-, -, ep, -, rfl, el, rfl⟩ := hcv
      rw [← ep] at hr
      have hih : ∀ W2, wr.grownBy W2 none → Calls Try.prog 85 #[.slice a' l' c', .slice ta T.args.length tc] W2 (EachPost (readTs l[vs.length].args0 T.args) W2) := fun W2 hW2 => by
        have := hcall W2 (Lf.gbt hg hW2)
        rw [← el] at this
        exact this
      have hbz := lt_of_blk2 hbx
      have q0 := cell0_of hbx
      have q1 := cell1_of hbx
      have HC := Lf.hide hih
      have HR := Lf.hide hr
      have HK := Lf.hide hK
      have HG := Lf.hide hg
      have HXL := Lf.hide hxl
      have HBX := Lf.hide hbx
      have HN5 := Lf.hide (heap_alloc_new wr (.cells #[.int .i64 k', .int .i64 n', .int .i64 p', .string s', .slice a' l' c'] 39))
      have HG5 := Lf.hide (Lf.gb (w := wr) (.cells #[.int .i64 k', .int .i64 n', .int .i64 p', .string s', .slice a' l' c'] 39))
      generalize readTs l[vs.length].args0 T.args = rr at *
      clear hih hr hd1 hK hg hv hxl hcall ep el hbx
      go_wp2_with fail
      refine (HC.out _ HG5.out).mono ?_; rintro e w3 ⟨hg3, hw⟩
      have hn3 := (hg3.block _ (lt_of_blk2 HN5.out) (by simp)).trans HN5.out
      obtain ⟨m0, m1, m2, m3, m4⟩ := box5 hn3
      have HG3 := Lf.hide (Lf.gbt HG5.out hg3)
      rcases hw with ⟨ys, rfl, ya, yc, V, rfl, hyc, hrow⟩ | ⟨rfl, rfl⟩
      · by_cases hp : p' = 28
        · subst hp
          have hr2 : readEs l T.args = (readEs (l.drop (vs.length + 1)) T.args).map (xs ++ [leafVa 11 0 ⟨#[]⟩ ys] ++ ·) := by
            rw [HR.out]
            simp only [if_true]
            cases readEs (l.drop (vs.length + 1)) T.args <;> simp
          have HR2 := Lf.hide hr2
          have HLX := Lf.hide (liesV_leaf (k := 11) (n := 0) (s := ⟨#[]⟩) ⟨by omega, by omega⟩ ⟨by omega, by omega⟩ (Nat.zero_le _) (hrow.okMono (ok' := (wr.heap.size ≤ ·)) (fun b _ hb => by have h9 : (wr.alloc (.cells #[.int .i64 k', .int .i64 n', .int .i64 28, .string s', .slice a' l' c'] 39)).heap.size ≤ b := hb; rw [World.size_alloc] at h9; show wr.heap.size ≤ b; omega)) hyc)
          have HGX := Lf.hide (Lf.gbt HG.out HG3.out)
          have HKX := Lf.hide (HK.out.call HG3.out)
          have HB3 := Lf.hide ((HG3.out.block _ (lt_of_blk2 HBX.out) (by simp)).trans HBX.out)
          have HOB : Hid (∀ k, (Value.slice ra vs.length rc).ownBlock = some k → k < wr.heap.size) := fun k hk => (World.ownsRow.lt HK.out.own k hk).2
          have hzx : W.heap.size ≤ w3.heap.size := HGX.out.size
          have hzw : W.heap.size ≤ wr.heap.size := HG.out.size
          have HBE : Hid (∀ (w5 : World) (v5 : Value), Gr w3 (.slice ra vs.length rc) w5 v5 → w5.heap[W.heap.size]? = some (.cells #[.int .i64 T.t, .slice ta T.args.length tc] 24 (0, 0))) := fun w5 v5 hgr => (hgr.block (lt_of_blk2 HB3.out) (own_ne_type HKX.out.own HB3.out (by decide))).trans HB3.out
          clear hr2 hrow hg3 hyc hn3 HR HC HIH HN5
          go_wp2_with (at_builtin; refine appVa W.heap.size vs 11 0 0 ⟨#[]⟩ ya ys.length yc none 0 0 none 0 0 w3 (.slice ra vs.length rc) rfl (.tmp 32) (.tmp 35) rfl rfl rfl rfl HKX.out.own hzx (by omega) ?_; intro g cap w5 ho5 hg5; have HB5 := Lf.hide (HBE.out w5 _ hg5); have HK5 := Lf.hide (HKX.out.push (S := wr.heap.size) hzw HOB.out HLX.out hg5 ho5); have HG9 := Lf.hide (grow_own HGX.out HKX.out.own (Nat.le_refl _) hg5.1); clear ho5 hg5)
          refine ⟨⟨xs ++ [leafVa 11 0 ⟨#[]⟩ ys], vs ++ [vaV 11 0 0 ⟨#[]⟩ ya ys.length yc none 0 0 none 0 0], by simp, by simp; omega, ?_, HG9.out, HB5.out, ?_⟩, by simp [intOf]; omega⟩
          · have h := HK5.out
            simpa using h
          · have h := HR2.out
            simpa using h
        · have hnone : readEs l T.args = none := by
            rw [HR.out]; simp [hp]
          have HN := Lf.hide hnone
          have HGX := Lf.hide (Lf.gbt HG.out HG3.out)
          have hpb : (p' == 28) = false := by simpa using hp
          clear hnone hrow hg3 hyc hn3 HR HC HIH hp
          go_wp2_with fail
          go_ret2
          exact ⟨HGX.out, .inr ⟨HN.out, rfl⟩⟩
      · have hnone : readEs l T.args = none := HR.out
        have HN := Lf.hide hnone
        have HGX := Lf.hide (Lf.gbt HG.out HG3.out)
        clear hnone hg3 hn3 HR HC HIH
        go_wp2_with fail
        go_ret2
        exact ⟨HGX.out, .inr ⟨HN.out, rfl⟩⟩
    · have hje : vs.length = l.length := by omega
      have hend : readEs l T.args = some xs := by
        rw [hr, List.drop_of_length_le (by omega), readEs]
        simp
      have hlx : xs.length ≤ maxLen := by unfold maxLen; omega
      obtain ⟨a, c, V, hv, hc, hrow⟩ := hK.done hlx
      have HE := Lf.hide hend
      have HROW := Lf.hide hrow
      have HG := Lf.hide hg
      have HV := Lf.hide hv
      have HCC := Lf.hide hc
      have hlti : ¬ (vs.length : Int) < (l.length : Int) := by omega
      clear hend hrow hg hv hc hr hK hje HIH hlx hxl hbx
      go_wp2_with fail
      go_ret2
      exact ⟨HG.out, .inl ⟨xs, HE.out, a, c, V, by rw [HV.out]; rfl, HCC.out, HROW.out⟩⟩

end Go.Proofs.Ytmmgihaoahhkjaa
