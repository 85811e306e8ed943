/- Order, and whether a map's keys rise: each by its contract. -/
import Derived.Test.YtmmgihaoahhkjaaSide
import Derived.Test.YtmmgihaoahhkjaaSideA
import Derived.Deep.RegionHeld3
import Derived.Deep.DeepCutAuto
namespace Go.Proofs.Ytmmgihaoahhkjaa
open Go.ChangeShapes Go.WideShapes Go.ChangeAt Go.RowKit
set_option linter.unusedVariables false

theorem wrapN (n : Nat) (h : n < 9223372036854775808) : IntKind.i64.wrap (n : Int) = (n : Int) := by
  have e : (n : Int) % 2 ^ 64 = n := Int.emod_eq_of_lt (by omega) (by omega)
  simp only [IntKind.wrap, IntKind.bits, IntKind.signed, e]
  rw [if_neg]
  simp
  omega

theorem ent_ord1 : ∀ args w, (callFunc 57 args).run Try.prog w = .ok (.enter 57 args) w := fun args w => by simp [go_sem]

theorem LiesV.up {w W : World} {x : Va} {v : Value} (h : LiesV (fun _ => True) w x v) (hg : w.grownBy W none) : LiesV (fun _ => True) W x v := h.same (sameAll hg)

theorem rowOneV {W : World} {x : Va} {b : Nat} {k n a : Int} {s : ByteArray} {aa : Option Addr} {al ac : Nat} {ta : Option Addr} {tl tc : Nat} {na : Option Addr} {nl nc : Nat} {T : TypeId}
    (hb : W.heap[b]? = some (.cells #[.int .i64 k, .int .i64 n, .int .i64 a, .string s, .slice aa al ac, .slice ta tl tc, .slice na nl nc] T (0, 0))) (hL : LiesV (fun _ => True) W x (vaV k n a s aa al ac ta tl tc na nl nc)) : RowVa (fun _ => True) W [x] (some ⟨b, 0, none⟩) (fun _ => vaV k n a s aa al ac ta tl tc na nl nc) := by
  refine ⟨by simp [maxLen], fun i hi => ?_, fun i hi => ?_⟩
  · have : i = 0 := by simpa using hi
    subst this
    obtain ⟨h0, h1, h2, h3, h4, h5, h6⟩ := box7 hb
    exact ⟨b, 0, rfl, trivial, k, n, a, s, aa, al, ac, ta, tl, tc, na, nl, nc, rfl, h0, h1, h2, h3, h4, h5, h6⟩
  · have : i = 0 := by simpa using hi
    subst this
    exact hL

theorem new_3of4 (w : World) (o1 o2 o3 o4 : Obj) : ((((w.alloc o1).alloc o2).alloc o3).alloc o4).heap[w.heap.size + 1 + 1]? = some o3 := by
  have h := res_new ((w.alloc o1).alloc o2) o3 o4
  rwa [show ((w.alloc o1).alloc o2).heap.size = w.heap.size + 1 + 1 from by simp] at h
theorem new_4of4 (w : World) (o1 o2 o3 o4 : Obj) : ((((w.alloc o1).alloc o2).alloc o3).alloc o4).heap[w.heap.size + 1 + 1 + 1]? = some o4 := by
  have h := new_two ((w.alloc o1).alloc o2) o3 o4
  rwa [show ((w.alloc o1).alloc o2).heap.size = w.heap.size + 1 + 1 from by simp] at h

set_option maxRecDepth 100000 in
set_option maxHeartbeats 1000000 in
theorem order_any {w : World} {x y : Va} {u v : Value} (hx : LiesV (fun _ => True) w x u) (hy : LiesV (fun _ => True) w y v) (hz : x.size ≤ 20000000) (W : World) (hW : w.grownBy W none) :
    Calls Try.prog 26 #[u, v] W fun e w' => e = .returned (.int .i64 (ordV x y)) ∧ W.grownBy w' none := by
  obtain ⟨k1, n1, a1, s1, aa1, al1, ac1, ta1, tl1, tc1, na1, nl1, nc1, rfl⟩ := hx.vaV
  obtain ⟨k2, n2, a2, s2, aa2, al2, ac2, ta2, tl2, tc2, na2, nl2, nc2, rfl⟩ := hy.vaV
  have HX := Lf.hide (LiesV.up hx hW)
  have HY := Lf.hide (LiesV.up hy hW)
  have HZ := Lf.hide hz
  have hS : ∀ (W2 : World) (b c : Nat) (ca cb : Nat), W.grownBy W2 none → 1 ≤ ca → 1 ≤ cb → W2.heap[b]? = some (.cells #[.int .i64 k1, .int .i64 n1, .int .i64 a1, .string s1, .slice aa1 al1 ac1, .slice ta1 tl1 tc1, .slice na1 nl1 nc1] 28 (0, 0)) → W2.heap[c]? = some (.cells #[.int .i64 k2, .int .i64 n2, .int .i64 a2, .string s2, .slice aa2 al2 ac2, .slice ta2 tl2 tc2, .slice na2 nl2 nc2] 28 (0, 0)) →
      Calls Try.prog 37 #[.slice (some ⟨b, 0, none⟩) 1 ca, .slice (some ⟨c, 0, none⟩) 1 cb, .func (.func 38) #[] #[], .func (.func 57) #[] #[]] W2 fun e w' => e = .returned (.int .i64 (ordV x y)) ∧ W2.grownBy w' none := by
    intro W2 b c ca cb hg h1 h2 hb hc
    have h := side_any ordC 57 ent_ord1 (w0 := W2) (xs := [x]) (ys := [y]) (ca := ca) (cb := cb) h1 h2 (rowOneV hb (LiesV.up HX.out hg)) (rowOneV hc (LiesV.up HY.out hg)) (fun x y u v W3 h3 hx hy _ => ord1_any hx hy W3) (by have := HZ.out; simp [vsizes]; omega)
    rw [sbsVs_one] at h
    exact h
  have HS := Lf.hide hS
  clear hS hx hy hz hW
  generalize ordV x y = r at *
  unfold vaV at *
  go_enter Try.func26, Try.ntmps26
  go_wp2_with fail
  refine (HS.out _ _ _ 1 1 (Lf.gbt (Lf.gbt (Lf.gbt (Lf.gb _) (Lf.gb _)) (Lf.gb _)) (Lf.gb _)) (Nat.le_refl _) (Nat.le_refl _) (new_3of4 _ _ _ _ _) (new_4of4 _ _ _ _ _)).mono ?_; rintro e w1 ⟨rfl, hg⟩
  have HG := Lf.hide (Lf.gbt (Lf.gbt (Lf.gbt (Lf.gbt (Lf.gb _) (Lf.gb _)) (Lf.gb _)) (Lf.gb _)) hg)
  clear hg
  go_wp2_with fail
  go_ret
  exact ⟨rfl, HG.out⟩

theorem liesV_zero (ok : Nat → Prop) (w : World) : LiesV ok w zeroVa (vaV 0 0 0 ⟨#[]⟩ none 0 0 none 0 0 none 0 0) :=
  LiesV.of (args := []) (types := []) (code := []) (V := fun _ => .int .i64 0) (VT := fun _ => .int .i64 0) (VN := fun _ => .int .i64 0) (Nat.zero_le _) (by decide) (by constructor <;> decide) (by constructor <;> decide) (by constructor <;> decide) (RowVa.nil _ _ _ _) (RowT.nil _ _ _ _) (RowN.nil _ _ _ _)

set_option maxRecDepth 100000 in
theorem keyOf_any {w : World} {x : Va} {u : Value} (hx : LiesV (fun _ => True) w x u) (W : World) (hW : w.grownBy W none) :
    Calls Try.prog 72 #[u] W fun e w' => ∃ kv, e = .returned kv ∧ LiesV (fun _ => True) w (keyF x) kv ∧ W.grownBy w' none := by
  obtain ⟨aa, ac, ta, tc, na, nc, VV, VT, VN, rfl, ⟨ik, iN, ia, hs, hlc⟩, hRV, hRY, hRN⟩ := hx.inv
  have hl := hRV.1
  unfold maxLen at hl
  cases hA : x.args with
  | nil =>
    have hk : keyF x = zeroVa := by unfold keyF; rw [hA]
    rw [hk]
    have HZ := Lf.hide (liesV_zero (fun _ => True) w)
    clear hx hRV hRY hRN hk ik iN ia hs hlc hW hl
    simp only [List.length_nil]
    unfold vaV at *
    go_enter Try.func72, Try.ntmps72
    go_wp2_with fail
    have hb' := new_two W (.cells #[.int .i64 x.k, .int .i64 x.n, .int .i64 x.a, .string x.s, .slice aa 0 ac, .slice ta x.types.length tc, .slice na x.code.length nc] 28) (.cells #[.int .i64 0, .int .i64 0, .int .i64 0, .string ⟨#[]⟩, .slice none 0 0, .slice none 0 0, .slice none 0 0] 28)
    have hg' : W.grownBy ((W.alloc (.cells #[.int .i64 x.k, .int .i64 x.n, .int .i64 x.a, .string x.s, .slice aa 0 ac, .slice ta x.types.length tc, .slice na x.code.length nc] 28)).alloc (.cells #[.int .i64 0, .int .i64 0, .int .i64 0, .string ⟨#[]⟩, .slice none 0 0, .slice none 0 0, .slice none 0 0] 28)) none := Lf.gbt (Lf.gb _) (Lf.gb _)
    generalize (W.alloc (.cells #[.int .i64 x.k, .int .i64 x.n, .int .i64 x.a, .string x.s, .slice aa 0 ac, .slice ta x.types.length tc, .slice na x.code.length nc] 28)).alloc (.cells #[.int .i64 0, .int .i64 0, .int .i64 0, .string ⟨#[]⟩, .slice none 0 0, .slice none 0 0, .slice none 0 0] 28) = wf at *
    obtain ⟨z0, z1, z2, z3, z4, z5, z6⟩ := box7 hb'
    exact bodyPost_ret (v := vaV 0 0 0 ⟨#[]⟩ none 0 0 none 0 0 none 0 0) (by simp [results, Try.results72, go_sem, z0, z1, z2, z3, z4, z5, z6, vaV]) rfl ⟨_, rfl, HZ.out, hg'⟩
  | cons p l =>
    have hk : keyF x = p := by unfold keyF; rw [hA]
    rw [hk]
    rw [hA] at hRV hl
    have hL1 := hRV.2.2 0 (by simp)
    simp only [List.getElem_cons_zero] at hL1
    obtain ⟨b3, o3, rfl, _, k1, n1, a1, s1, aa1, al1, ac1, ta1, tl1, tc1, na1, nl1, nc1, hv1, e0, e1, e2, e3, e4, e5, e6⟩ := (hRV.2.1 0 (by simp)).same (sameAll hW)
    rw [hv1] at hL1
    rw [Nat.zero_mul, Nat.add_zero] at e0 e1 e2 e3 e4 e5 e6
    have q3 : b3 < W.heap.size := World.block_lt_of_cell? W _ e0
    have HL1 := Lf.hide hL1
    have z1 : ¬ ((l.length : Int) + 1 = 0) := by omega
    have z2 : (((l.length : Int) + 1) == 0) = false := by rw [beq_eq_false_iff_ne]; exact z1
    clear hx hRV hRY hRN hk ik iN ia hs hlc hW hL1 hv1
    simp only [List.length_cons] at hl ⊢
    unfold vaV at *
    go_enter Try.func72, Try.ntmps72
    go_wp2_with fail
    have hb' := new_two W (.cells #[.int .i64 x.k, .int .i64 x.n, .int .i64 x.a, .string x.s, .slice (some ⟨b3, o3, none⟩) (l.length + 1) ac, .slice ta x.types.length tc, .slice na x.code.length nc] 28) (.cells #[.int .i64 k1, .int .i64 n1, .int .i64 a1, .string s1, .slice aa1 al1 ac1, .slice ta1 tl1 tc1, .slice na1 nl1 nc1] 28)
    have hg' : W.grownBy ((W.alloc (.cells #[.int .i64 x.k, .int .i64 x.n, .int .i64 x.a, .string x.s, .slice (some ⟨b3, o3, none⟩) (l.length + 1) ac, .slice ta x.types.length tc, .slice na x.code.length nc] 28)).alloc (.cells #[.int .i64 k1, .int .i64 n1, .int .i64 a1, .string s1, .slice aa1 al1 ac1, .slice ta1 tl1 tc1, .slice na1 nl1 nc1] 28)) none := Lf.gbt (Lf.gb _) (Lf.gb _)
    generalize (W.alloc (.cells #[.int .i64 x.k, .int .i64 x.n, .int .i64 x.a, .string x.s, .slice (some ⟨b3, o3, none⟩) (l.length + 1) ac, .slice ta x.types.length tc, .slice na x.code.length nc] 28)).alloc (.cells #[.int .i64 k1, .int .i64 n1, .int .i64 a1, .string s1, .slice aa1 al1 ac1, .slice ta1 tl1 tc1, .slice na1 nl1 nc1] 28) = wf at *
    obtain ⟨z0, z1, z2, z3, z4, z5, z6⟩ := box7 hb'
    exact bodyPost_ret (v := vaV k1 n1 a1 s1 aa1 al1 ac1 ta1 tl1 tc1 na1 nl1 nc1) (by simp [results, Try.results72, go_sem, z0, z1, z2, z3, z4, z5, z6, vaV]) rfl ⟨_, rfl, HL1.out, hg'⟩

theorem key_size (x : Va) : (keyF x).size ≤ x.size := by
  have h := vsize_eq x
  unfold keyF
  cases hA : x.args with
  | nil => have := vsize_pos x; simp [zeroVa, Va.size, vsizes, tysizes, sizes]; omega
  | cons p l => rw [hA, vsizes] at h; simp only; omega

set_option maxRecDepth 100000 in
set_option maxHeartbeats 2000000 in
theorem rises_any {w : World} {l : List Va} {a : Option Addr} {c : Nat} {V : Nat → Value} (hl : RowVa (fun _ => True) w l a V) (hz : vsizes l ≤ 20000000) (W : World) (hW : w.grownBy W none) :
    Calls Try.prog 34 #[.slice a l.length c] W fun e w' => e = .returned (.bool (risesF l)) ∧ W.grownBy w' none := by
  have hn := hl.1
  unfold maxLen at hn
  have HL := Lf.hide hl
  have HZ := Lf.hide hz
  have HW := Lf.hide hW
  clear hl hz hW
  go_enter Try.func34, Try.ntmps34
  go_wp2_with fail
  go_loopw [3] (fun iv wr => ∃ j : Nat, 1 ≤ j ∧ (j ≤ l.length ∨ j = 1) ∧ iv = .int .i64 j ∧ (∀ i (h : i + 1 < l.length), i + 1 < j → ordV (keyF l[i]) (keyF l[i + 1]) < 0) ∧ W.grownBy wr none) (fun iv _ => l.length - (intOf iv).toNat)
  case atStart => exact ⟨1, Nat.le_refl _, .inr rfl, rfl, fun i h hi => by omega, grow_refl _ _⟩
  case round =>
    obtain ⟨j, hj1, hj2, rfl, hall, hgr⟩ := hrel
    by_cases hlt : j < l.length
    · obtain ⟨m, rfl⟩ : ∃ m, j = m + 1 := ⟨j - 1, by omega⟩
      have hgw := Lf.gbt HW.out hgr
      have hLe := HL.out.2.2 m (by omega)
      have hLf := HL.out.2.2 (m + 1) hlt
      obtain ⟨be, oe, hae, _, k1, n1, a1, s1, aa1, al1, ac1, ta1, tl1, tc1, na1, nl1, nc1, hv1, e0, e1, e2, e3, e4, e5, e6⟩ := (HL.out.2.1 m (by omega)).same (sameAll hgw)
      obtain ⟨bf, of, haf, _, k2, n2, a2, s2, aa2, al2, ac2, ta2, tl2, tc2, na2, nl2, nc2, hv2, f0, f1, f2, f3, f4, f5, f6⟩ := (HL.out.2.1 (m + 1) hlt).same (sameAll hgw)
      rw [hae] at haf
      simp only [Option.some.injEq, Addr.mk.injEq, and_true] at haf
      obtain ⟨rfl, rfl⟩ := haf
      subst hae
      rw [hv1] at hLe
      rw [hv2] at hLf
      unfold vaV at hLe hLf
      have qe : be < wr.heap.size := World.block_lt_of_cell? wr _ e0
      have ed0 : ∀ W3 : World, wr.grownBy W3 none → W3.cell? ⟨be, oe + m * 7, none⟩ = some (.int .i64 k1) := fun W3 h => (World.cell?_of_block (h.block be qe (by simp))).trans e0
      have ed1 : ∀ W3 : World, wr.grownBy W3 none → W3.cell? ⟨be, oe + m * 7 + 1, none⟩ = some (.int .i64 n1) := fun W3 h => (World.cell?_of_block (h.block be qe (by simp))).trans e1
      have ed2 : ∀ W3 : World, wr.grownBy W3 none → W3.cell? ⟨be, oe + m * 7 + 2, none⟩ = some (.int .i64 a1) := fun W3 h => (World.cell?_of_block (h.block be qe (by simp))).trans e2
      have ed3 : ∀ W3 : World, wr.grownBy W3 none → W3.cell? ⟨be, oe + m * 7 + 3, none⟩ = some (.string s1) := fun W3 h => (World.cell?_of_block (h.block be qe (by simp))).trans e3
      have ed4 : ∀ W3 : World, wr.grownBy W3 none → W3.cell? ⟨be, oe + m * 7 + 4, none⟩ = some (.slice aa1 al1 ac1) := fun W3 h => (World.cell?_of_block (h.block be qe (by simp))).trans e4
      have ed5 : ∀ W3 : World, wr.grownBy W3 none → W3.cell? ⟨be, oe + m * 7 + 5, none⟩ = some (.slice ta1 tl1 tc1) := fun W3 h => (World.cell?_of_block (h.block be qe (by simp))).trans e5
      have ed6 : ∀ W3 : World, wr.grownBy W3 none → W3.cell? ⟨be, oe + m * 7 + 6, none⟩ = some (.slice na1 nl1 nc1) := fun W3 h => (World.cell?_of_block (h.block be qe (by simp))).trans e6
      have fd0 : ∀ W3 : World, wr.grownBy W3 none → W3.cell? ⟨be, oe + (m + 1) * 7, none⟩ = some (.int .i64 k2) := fun W3 h => (World.cell?_of_block (h.block be qe (by simp))).trans f0
      have fd1 : ∀ W3 : World, wr.grownBy W3 none → W3.cell? ⟨be, oe + (m + 1) * 7 + 1, none⟩ = some (.int .i64 n2) := fun W3 h => (World.cell?_of_block (h.block be qe (by simp))).trans f1
      have fd2 : ∀ W3 : World, wr.grownBy W3 none → W3.cell? ⟨be, oe + (m + 1) * 7 + 2, none⟩ = some (.int .i64 a2) := fun W3 h => (World.cell?_of_block (h.block be qe (by simp))).trans f2
      have fd3 : ∀ W3 : World, wr.grownBy W3 none → W3.cell? ⟨be, oe + (m + 1) * 7 + 3, none⟩ = some (.string s2) := fun W3 h => (World.cell?_of_block (h.block be qe (by simp))).trans f3
      have fd4 : ∀ W3 : World, wr.grownBy W3 none → W3.cell? ⟨be, oe + (m + 1) * 7 + 4, none⟩ = some (.slice aa2 al2 ac2) := fun W3 h => (World.cell?_of_block (h.block be qe (by simp))).trans f4
      have fd5 : ∀ W3 : World, wr.grownBy W3 none → W3.cell? ⟨be, oe + (m + 1) * 7 + 5, none⟩ = some (.slice ta2 tl2 tc2) := fun W3 h => (World.cell?_of_block (h.block be qe (by simp))).trans f5
      have fd6 : ∀ W3 : World, wr.grownBy W3 none → W3.cell? ⟨be, oe + (m + 1) * 7 + 6, none⟩ = some (.slice na2 nl2 nc2) := fun W3 h => (World.cell?_of_block (h.block be qe (by simp))).trans f6
      have HKey : Hid (∀ (x : Va) (u : Value), LiesV (fun _ => True) w x u → ∀ W3 : World, wr.grownBy W3 none → Calls Try.prog 72 #[u] W3 fun e w' => ∃ kv, e = .returned kv ∧ LiesV (fun _ => True) w (keyF x) kv ∧ W3.grownBy w' none) := fun x u hx W3 h => keyOf_any hx W3 (Lf.gbt hgw h)
      have hsz : (keyF l[m]).size ≤ 20000000 := by
        have h1 : (keyF l[m]).size ≤ (l[m]).size := key_size _
        have h2 : (l[m]).size ≤ vsizes l := vsize_mem (List.getElem_mem _)
        have h3 := HZ.out
        omega
      have HOrd : Hid (∀ (u v : Value), LiesV (fun _ => True) w (keyF l[m]) u → LiesV (fun _ => True) w (keyF l[m + 1]) v → ∀ W3 : World, wr.grownBy W3 none → Calls Try.prog 26 #[u, v] W3 fun e w' => e = .returned (.int .i64 (ordV (keyF l[m]) (keyF l[m + 1]))) ∧ W3.grownBy w' none) := fun u v hu hv W3 h => order_any hu hv hsz W3 (Lf.gbt hgw h)
      have HGR := Lf.hide hgr
      have HALL := Lf.hide hall
      have w1 : IntKind.i64.wrap (m : Int) = (m : Int) := wrapN m (by omega)
      have w2 : IntKind.i64.wrap ((m : Int) + 1 - 1) = (m : Int) := by rw [show (m : Int) + 1 - 1 = (m : Int) from by omega]; exact w1
      have w3 : IntKind.i64.wrap ((m : Int) + 1) = (m : Int) + 1 := by rw [show (m : Int) + 1 = ((m + 1 : Nat) : Int) from by omega]; exact wrapN (m + 1) (by omega)
      have w4 : (m : Int) < (l.length : Int) := by omega
      have w5 : (m : Int) + 1 < (l.length : Int) := by omega
      have w6 : m < l.length := by omega
      have w7 : m + 1 < l.length := hlt
      have w8 : (0 : Int) ≤ (m : Int) + 1 := by omega
      clear hgr hall hgw hsz hv1 hv2 e0 e1 e2 e3 e4 e5 e6 f0 f1 f2 f3 f4 f5 f6
      generalize hr : ordV (keyF l[m]) (keyF l[m + 1]) = r at *
      have HR := Lf.hide hr
      clear hr
      by_cases hneg : r < 0
      · have hneg2 : ¬ 0 ≤ r := by omega
        go_wp2_with fail
        go_region_held3 (fun w' => wr.grownBy w' none) (first | assumption | exact grow_drew (grow_refl _ _)) (first
          | (go_at_call 72; refine (HKey.out _ _ (by assumption) _ (by assumption)).mono ?_; rintro e w' ⟨kv, rfl, hK, hg⟩; obtain ⟨_, _, _, _, _, _, _, _, _, _, _, _, _, rfl⟩ := hK.vaV; unfold vaV at hK ⊢; have hS := Lf.gbt (by assumption) hg)
          | (go_at_call 26; refine (HOrd.out _ _ (by assumption) (by assumption) _ (by assumption)).mono ?_; rintro e w' ⟨rfl, hg⟩; have hS := Lf.gbt (by assumption) hg))
        have HS9 := Lf.hide (Lf.gbt HGR.out hS)
        clear hS
        go_wp2_with fail
        go_roundw
        case rel =>
          refine ⟨m + 1 + 1, by omega, .inl (by omega), by go_num, fun i h hi => ?_, HS9.out⟩
          by_cases hi2 : i + 1 < m + 1
          · exact HALL.out i h hi2
          · obtain rfl : i = m := by omega
            rw [HR.out]; exact hneg
        case measure => simp [intOf]; omega
      · have hneg2 : 0 ≤ r := by omega
        go_wp2_with fail
        go_region_held3 (fun w' => wr.grownBy w' none) (first | assumption | exact grow_drew (grow_refl _ _)) (first
          | (go_at_call 72; refine (HKey.out _ _ (by assumption) _ (by assumption)).mono ?_; rintro e w' ⟨kv, rfl, hK, hg⟩; obtain ⟨_, _, _, _, _, _, _, _, _, _, _, _, _, rfl⟩ := hK.vaV; unfold vaV at hK ⊢; have hS := Lf.gbt (by assumption) hg)
          | (go_at_call 26; refine (HOrd.out _ _ (by assumption) (by assumption) _ (by assumption)).mono ?_; rintro e w' ⟨rfl, hg⟩; have hS := Lf.gbt (by assumption) hg))
        have HS9 := Lf.hide (Lf.gbt HGR.out hS)
        clear hS
        go_wp2_with fail
        go_ret
        exact Lf.retb (risesF_no l m hlt (by rw [HR.out]; omega)).symm HS9.out
    · have hres : risesF l = true := (risesF_iff l).2 fun i h => hall i h (by omega)
      have HRR := Lf.hide hres
      have HGR := Lf.hide hgr
      have hj3 : ¬ (j : Int) < (l.length : Int) := by omega
      clear hres hgr hall
      go_wp2_with fail
      go_ret
      exact Lf.retb HRR.out.symm HGR.out

end Go.Proofs.Ytmmgihaoahhkjaa
