/- Comparing numbers and texts, and two values by themselves: each by its contract. -/
import Derived.Test.YtmmgihaoahhkjaaValA
import Derived.Test.YtmmgihaoahhkjaaSameA
import Derived.Deep.RegionHeld3
import Derived.Deep.DeepCutAuto
namespace Go.Proofs.Ytmmgihaoahhkjaa
open Go.ChangeShapes Go.WideShapes Go.ChangeAt Go.RowKit
set_option linter.unusedVariables false

theorem nanI_any (a : Int) (w : World) : Calls Try.prog 95 #[.int .i64 a] w fun e w' => e = .returned (.bool false) ∧ w' = w := by
  go_enter Try.func95, Try.ntmps95
  go_wp2
  all_goals
    go_ret
    first | exact ⟨rfl, rfl⟩ | exact Lf.retb (by simp) rfl

theorem nanS_any (a : ByteArray) (w : World) : Calls Try.prog 96 #[.string a] w fun e w' => e = .returned (.bool false) ∧ w' = w := by
  go_enter Try.func96, Try.ntmps96
  go_wp2
  all_goals
    go_ret
    first | exact ⟨rfl, rfl⟩ | exact Lf.retb (by simp) rfl

theorem cmpI_any (a b : Int) (w : World) : Calls Try.prog 59 #[.int .i64 a, .int .i64 b] w fun e w' => e = .returned (.int .i64 (cmpI a b)) ∧ w' = w := by
  have H := Lf.hide nanI_any
  by_cases h1 : a < b
  · have hr : cmpI a b = -1 := by rw [cmpI, if_pos h1]
    rw [hr]
    clear hr
    go_enter Try.func59, Try.ntmps59
    go_wp2_with ((go_at_call 95; refine (H.out _ _).mono ?_; rintro e w' ⟨rfl, rfl⟩))
    go_ret
    exact ⟨rfl, rfl⟩
  · by_cases h2 : b < a
    · have hr : cmpI a b = 1 := by rw [cmpI, if_neg h1, if_pos h2]
      rw [hr]
      clear hr
      go_enter Try.func59, Try.ntmps59
      go_wp2_with ((go_at_call 95; refine (H.out _ _).mono ?_; rintro e w' ⟨rfl, rfl⟩))
      go_ret
      exact ⟨rfl, rfl⟩
    · have hr : cmpI a b = 0 := by rw [cmpI, if_neg h1, if_neg h2]
      rw [hr]
      clear hr
      go_enter Try.func59, Try.ntmps59
      go_wp2_with ((go_at_call 95; refine (H.out _ _).mono ?_; rintro e w' ⟨rfl, rfl⟩))
      go_ret
      exact ⟨rfl, rfl⟩

theorem bytesLess_irrefl : ∀ l : List UInt8, Op.bytesLess l l = false
  | [] => rfl
  | a :: l => by simp [Op.bytesLess, bytesLess_irrefl l]

theorem cmpS_any (a b : ByteArray) (w : World) : Calls Try.prog 60 #[.string a, .string b] w fun e w' => e = .returned (.int .i64 (cmpS a b)) ∧ w' = w := by
  have H := Lf.hide nanS_any
  have hgt : ∀ w, (binOp BinOp.gtr 9 (.string a) (.string b)).run Try.prog w = .ok (.bool (!(Op.bytesLess a.toList b.toList || a.toList == b.toList))) w := fun w => by simp [binOp, Op.stringOp]
  have hr : cmpS a b = if Op.bytesLess a.toList b.toList = true then -1 else if a.toList = b.toList then 0 else 1 := rfl
  rw [hr]
  cases h1 : Op.bytesLess a.toList b.toList with
  | true =>
    rw [if_pos rfl]
    go_enter Try.func60, Try.ntmps60
    go_wp2_with ((go_at_call 96; refine (H.out _ _).mono ?_; rintro e w' ⟨rfl, rfl⟩))
    go_ret
    exact ⟨rfl, rfl⟩
  | false =>
    rw [if_neg (by decide)]
    by_cases h2 : a.toList = b.toList
    · rw [if_pos h2]
      have h3 : (a.toList == b.toList) = true := by simpa using h2
      have hs : a = b := by
        have h4 : a.data = b.data := by
          apply Array.ext'
          rw [ByteArray.toList_eq, ByteArray.toList_eq] at h2
          exact h2
        cases a; cases b; simp_all
      subst hs
      clear h2 h3
      go_enter Try.func60, Try.ntmps60
      go_wp2_with ((go_at_call 96; refine (H.out _ _).mono ?_; rintro e w' ⟨rfl, rfl⟩))
      go_ret
      exact ⟨rfl, rfl⟩
    · rw [if_neg h2]
      have h3 : (a.toList == b.toList) = false := by simpa using h2
      have h4 : (Op.bytesLess a.toList b.toList || a.toList == b.toList) = false := by rw [h1, h3]; rfl
      go_enter Try.func60, Try.ntmps60
      go_wp2_with ((go_at_call 96; refine (H.out _ _).mono ?_; rintro e w' ⟨rfl, rfl⟩))
      go_ret
      exact ⟨rfl, rfl⟩

theorem vmade_any (k n a : Int) (s : ByteArray) (aa : Option Addr) (al ac : Nat) (ta : Option Addr) (tl tc : Nat) (na : Option Addr) (nl nc : Nat) (w : World) :
    Calls Try.prog 38 #[vaV k n a s aa al ac ta tl tc na nl nc] w fun e w' => e = .returned (.slice aa al ac) ∧ w.grownBy w' none := by
  unfold vaV
  go_enter Try.func38, Try.ntmps38
  go_wp2_with fail
  go_ret
  exact ⟨rfl, Lf.gb _⟩

theorem or2_any (b : Nat) (x y : Int) (w : World) (h0 : w.cell? ⟨b, 0, none⟩ = some (.int .i64 x)) (h1 : w.cell? ⟨b, 1, none⟩ = some (.int .i64 y)) :
    Calls Try.prog 58 #[.slice (some ⟨b, 0, none⟩) 2 2] w fun e w' => e = .returned (.int .i64 (if x ≠ 0 then x else y)) ∧ w.grownBy w' none := by
  generalize hr : (if x ≠ 0 then x else y) = r
  have HR := Lf.hide hr
  clear hr
  have HG0 := Lf.hide (grow_refl w none)
  have HC0 := Lf.hide h0
  have HC1 := Lf.hide h1
  clear h0 h1
  go_enter Try.func58, Try.ntmps58
  go_wp2_with fail
  go_loopw [8] (fun i wr => ∃ j : Nat, j ≤ 2 ∧ i = .int .i64 j ∧ wr = w ∧ (0 < j → x = 0) ∧ (1 < j → y = 0)) (fun i _ => 2 - (intOf i).toNat)
  case atStart => exact ⟨0, by omega, rfl, rfl, fun h => by omega, fun h => by omega⟩
  case round =>
    obtain ⟨j, hj, rfl, rfl, e1, e2⟩ := hrel
    have E1 := Lf.hide e1
    have E2 := Lf.hide e2
    have c0 := HC0.out
    have c1 := HC1.out
    clear e1 e2
    rcases (show j = 0 ∨ j = 1 ∨ j = 2 from by omega) with rfl | rfl | rfl
    · by_cases hx : x = 0
      · have HX := Lf.hide hx
        have hx1 : (x == 0) = true := by simpa using hx
        have hx2 : (x != 0) = false := by simpa using hx
        clear hx
        go_wp2_with fail
        go_roundw
        case rel => exact ⟨1, by omega, by go_num, trivial, fun _ => HX.out, fun h => by omega⟩
        case measure => simp [intOf]
      · have HX := Lf.hide hx
        have hx1 : (x == 0) = false := by simpa using hx
        have hx2 : (x != 0) = true := by simpa using hx
        go_wp2_with fail
        go_ret
        exact Lf.reti (by rw [← HR.out, if_pos HX.out]) HG0.out
    · by_cases hx : y = 0
      · have HX := Lf.hide hx
        have hx1 : (y == 0) = true := by simpa using hx
        have hx2 : (y != 0) = false := by simpa using hx
        clear hx
        go_wp2_with fail
        go_roundw
        case rel => exact ⟨2, by omega, by go_num, trivial, fun _ => E1.out (by omega), fun _ => HX.out⟩
        case measure => simp [intOf]
      · have HX := Lf.hide hx
        have hx1 : (y == 0) = false := by simpa using hx
        have hx2 : (y != 0) = true := by simpa using hx
        go_wp2_with fail
        go_ret
        exact Lf.reti (by rw [← HR.out, if_neg (by simpa using E1.out (by omega))]) HG0.out
    · clear c0 c1
      go_wp2_with fail
      go_ret
      exact Lf.reti (by rw [← HR.out, if_neg (by simpa using E1.out (by omega)), E2.out (by omega)]) HG0.out

theorem or2_new (w0 : World) (T : TypeId) (x y : Int) (H : Nat) (hH : w0.heap.size = H) :
    Calls Try.prog 58 #[.slice (some ⟨H, 0, none⟩) 2 2] (w0.alloc (.cells #[.int .i64 x, .int .i64 y] T)).drew fun e w' => e = .returned (.int .i64 (if x ≠ 0 then x else y)) ∧ w0.grownBy w' none := by
  subst hH
  have hb : (w0.alloc (.cells #[.int .i64 x, .int .i64 y] T)).drew.heap[w0.heap.size]? = some (.cells #[.int .i64 x, .int .i64 y] T) := heap_alloc_new w0 (.cells #[.int .i64 x, .int .i64 y] T)
  exact (or2_any w0.heap.size x y _ (cell0_of hb) (cell1_of hb)).mono fun e w' h => ⟨h.1, Lf.gbt (grow_drew (Lf.gb _)) h.2⟩

end Go.Proofs.Ytmmgihaoahhkjaa

/- How Order compares two values by themselves. -/
namespace Go.Proofs.Ytmmgihaoahhkjaa
open Go.ChangeShapes Go.WideShapes Go.ChangeAt Go.RowKit
set_option linter.unusedVariables false

set_option maxRecDepth 100000 in
set_option maxHeartbeats 2000000 in
/-- how Order compares two values by themselves -/
theorem ord1_any {w : World} {x y : Va} {u v : Value} (hx : LiesV (fun _ => True) w x u) (hy : LiesV (fun _ => True) w y v) (W : World) :
    Calls Try.prog 57 #[u, v] W fun e w' => e = .returned (.int .i64 (ordC x y)) ∧ W.grownBy w' none := by
  obtain ⟨aa, ac, ta, tc, na, nc, _, _, _, rfl, _, _, _, _⟩ := hx.inv
  obtain ⟨aa2, ac2, ta2, tc2, na2, nc2, _, _, _, rfl, _, _, _, _⟩ := hy.inv
  clear hx hy
  have HO := Lf.hide or2_any
  have hr : ordC x y = if cmpI x.n y.n ≠ 0 then cmpI x.n y.n else cmpS x.s y.s := rfl
  rw [hr]
  have H1 := Lf.hide (fun w => cmpI_any x.n y.n w)
  have H2 := Lf.hide (fun w => cmpS_any x.s y.s w)
  clear hr
  generalize cmpI x.n y.n = c1 at *
  generalize cmpS x.s y.s = c2 at *
  unfold vaV
  generalize hr : (if c1 ≠ 0 then c1 else c2) = r
  have HR := Lf.hide hr
  clear hr HO
  have HO : Hid (∀ (w0 : World) (T : TypeId) (H : Nat), w0.heap.size = H → Calls Try.prog 58 #[.slice (some ⟨H, 0, none⟩) 2 2] (w0.alloc (.cells #[.int .i64 c1, .int .i64 c2] T)).drew fun e w' => e = .returned (.int .i64 r) ∧ w0.grownBy w' none) := fun w0 T H hH => by
    rw [← HR.out]; exact or2_new w0 T c1 c2 H hH
  clear HR
  go_enter Try.func57, Try.ntmps57
  go_wp2_with fail
  have hbx : ((W.alloc (.cells #[.int .i64 x.k, .int .i64 x.n, .int .i64 x.a, .string x.s, .slice aa x.args.length ac, .slice ta x.types.length tc, .slice na x.code.length nc] 28)).alloc (.cells #[.int .i64 y.k, .int .i64 y.n, .int .i64 y.a, .string y.s, .slice aa2 y.args.length ac2, .slice ta2 y.types.length tc2, .slice na2 y.code.length nc2] 28)).heap[W.heap.size]? = some (.cells #[.int .i64 x.k, .int .i64 x.n, .int .i64 x.a, .string x.s, .slice aa x.args.length ac, .slice ta x.types.length tc, .slice na x.code.length nc] 28 (0, 0)) := res_new _ _ _
  have hby : ((W.alloc (.cells #[.int .i64 x.k, .int .i64 x.n, .int .i64 x.a, .string x.s, .slice aa x.args.length ac, .slice ta x.types.length tc, .slice na x.code.length nc] 28)).alloc (.cells #[.int .i64 y.k, .int .i64 y.n, .int .i64 y.a, .string y.s, .slice aa2 y.args.length ac2, .slice ta2 y.types.length tc2, .slice na2 y.code.length nc2] 28)).heap[W.heap.size + 1]? = some (.cells #[.int .i64 y.k, .int .i64 y.n, .int .i64 y.a, .string y.s, .slice aa2 y.args.length ac2, .slice ta2 y.types.length tc2, .slice na2 y.code.length nc2] 28 (0, 0)) := by
    have := heap_alloc_new (W.alloc (.cells #[.int .i64 x.k, .int .i64 x.n, .int .i64 x.a, .string x.s, .slice aa x.args.length ac, .slice ta x.types.length tc, .slice na x.code.length nc] 28)) (.cells #[.int .i64 y.k, .int .i64 y.n, .int .i64 y.a, .string y.s, .slice aa2 y.args.length ac2, .slice ta2 y.types.length tc2, .slice na2 y.code.length nc2] 28)
    rwa [show (W.alloc (.cells #[.int .i64 x.k, .int .i64 x.n, .int .i64 x.a, .string x.s, .slice aa x.args.length ac, .slice ta x.types.length tc, .slice na x.code.length nc] 28)).heap.size = W.heap.size + 1 from by simp] at this
  have hgW : W.grownBy ((W.alloc (.cells #[.int .i64 x.k, .int .i64 x.n, .int .i64 x.a, .string x.s, .slice aa x.args.length ac, .slice ta x.types.length tc, .slice na x.code.length nc] 28)).alloc (.cells #[.int .i64 y.k, .int .i64 y.n, .int .i64 y.a, .string y.s, .slice aa2 y.args.length ac2, .slice ta2 y.types.length tc2, .slice na2 y.code.length nc2] 28)) none := Lf.gbt (Lf.gb _) (Lf.gb _)
  generalize (W.alloc (.cells #[.int .i64 x.k, .int .i64 x.n, .int .i64 x.a, .string x.s, .slice aa x.args.length ac, .slice ta x.types.length tc, .slice na x.code.length nc] 28)).alloc (.cells #[.int .i64 y.k, .int .i64 y.n, .int .i64 y.a, .string y.s, .slice aa2 y.args.length ac2, .slice ta2 y.types.length tc2, .slice na2 y.code.length nc2] 28) = W2 at *
  have keepx : ∀ W3 : World, W2.grownBy W3 none → W3.heap[W.heap.size]? = _ := fun W3 h => (h.block _ (Array.getElem?_eq_some_iff.1 hbx).1 (by simp)).trans hbx
  have keepy : ∀ W3 : World, W2.grownBy W3 none → W3.heap[W.heap.size + 1]? = _ := fun W3 h => (h.block _ (Array.getElem?_eq_some_iff.1 hby).1 (by simp)).trans hby
  have c1x : ∀ W3 : World, W2.grownBy W3 none → W3.cell? ⟨W.heap.size, 1, none⟩ = some (.int .i64 x.n) := fun W3 h => (box7 (keepx W3 h)).2.1
  have c3x : ∀ W3 : World, W2.grownBy W3 none → W3.cell? ⟨W.heap.size, 3, none⟩ = some (.string x.s) := fun W3 h => (box7 (keepx W3 h)).2.2.2.1
  have c1y : ∀ W3 : World, W2.grownBy W3 none → W3.cell? ⟨W.heap.size + 1, 1, none⟩ = some (.int .i64 y.n) := fun W3 h => (box7 (keepy W3 h)).2.1
  have c3y : ∀ W3 : World, W2.grownBy W3 none → W3.cell? ⟨W.heap.size + 1, 3, none⟩ = some (.string y.s) := fun W3 h => (box7 (keepy W3 h)).2.2.2.1
  have HGW := Lf.hide hgW
  clear keepx keepy hbx hby hgW
  go_region_held3 (fun w' => W2.grownBy w' none) (first | assumption | exact grow_drew (grow_refl _ _) | exact Lf.gbt (by assumption) (Lf.gb _)) (first
    | (go_at_call 59; refine (H1.out _).mono ?_; rintro e w' ⟨rfl, rfl⟩)
    | (go_at_call 60; refine (H2.out _).mono ?_; rintro e w' ⟨rfl, rfl⟩)
    | (go_at_call 58; refine (HO.out _ _ _ (by simp)).mono ?_; rintro e w' ⟨rfl, hg⟩))
  all_goals
    go_wp2_with fail
    go_ret
    exact ⟨rfl, Lf.gbt HGW.out (by assumption)⟩

end Go.Proofs.Ytmmgihaoahhkjaa
