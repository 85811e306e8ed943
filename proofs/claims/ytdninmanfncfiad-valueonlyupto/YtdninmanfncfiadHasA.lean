/- ofArgs by its contract. -/
import Derived.Test.YtdninmanfncfiadHasI
namespace Go.Proofs.Ytdninmanfncfiad
open Go.ChangeShapes Go.WideShapes Go.ChangeAt Go.RowKit
set_option linter.unusedVariables false

/-- what must be so of T for ofArgs -/
structure ArgsOk (T : Ty) (x : Va) : Prop where
  len : (T.args.length : Int) = partsF T.t
  side : T.t = 12 → x.n = 0 ∨ x.n = 1

set_option maxRecDepth 100000 in
set_option maxHeartbeats 2000000 in
theorem ofArgs_any {w : World} {T : Ty} {x : Va} {u v : Value} (hT : LiesT (fun _ => True) w T u) (hV : LiesV (fun _ => True) w x v) (hok : ArgsOk T x) (hz : x.size ≤ 20000000) (W : World) (hW : w.grownBy W none) :
    Calls Try.prog 22 #[u, v] W (OfPost w W (partsOf T x)) := by
  obtain ⟨a, c, V, rfl, it, hRT⟩ := hT.inv
  obtain ⟨aa, ac, ta, tc, na, nc, VV, VT, VN, rfl, ⟨ik, iN, ia, hs, hlc⟩, hRV, hRY, hRN⟩ := hV.inv
  have hll := vlength_le x.args
  have hsz := vsize_eq x
  have hla := hRV.1
  have hlt := hRT.1
  unfold maxLen at hla hlt
  have HCAP := Lf.hide hT.cap
  have HRV := Lf.hide hRV
  have HRY := Lf.hide hRY
  have HRT := Lf.hide hRT
  have HW := Lf.hide hW
  have HGB : Hid (∀ o1 o2 : Obj, W.grownBy ((W.alloc o1).alloc o2) none) := fun o1 o2 => Lf.gbt (Lf.gb _) (Lf.gb _)
  have HLEN := Lf.hide hok.len
  have HZ : Hid (x.args.length ≤ 20000000) := by show _ ≤ _; omega
  by_cases h8 : T.t = 8
  · have hp : partsOf T x = if x.args.length = x.types.length then some (x.types.zip x.args) else none := by
      simp only [partsOf, argTys]; rw [if_pos h8]; split <;> rfl
    have HC : Hid (∀ W2, W.grownBy W2 none → Calls Try.prog 54 #[.slice aa x.args.length ac, .slice ta x.types.length tc] W2 (OfPost w W2 (partsOf T x))) := fun W2 hg => by
      rw [hp]; exact oneEach_all HRV.out (TysAt.of HRY.out (Lf.gbt HW.out hg)) (Lf.gbt HW.out hg) HZ.out
    generalize partsOf T x = ps at *
    clear hp hT hV hok hz hW it ik iN ia hs hlc hRV hRY hRN hRT hll hsz HRV HRY HRT HW HLEN HZ
    rw [h8]
    clear h8
    unfold tyV vaV
    go_enter Try.func22, Try.ntmps22
    go_wp2_with fail
    refine (HC.out _ (HGB.out _ _)).mono ?_; rintro e w2 hpost
    have hp := OfPost.grown hpost (HGB.out _ _)
    clear hpost
    rcases hp with ⟨⟨hn, rfl⟩ | ⟨l, cv, cs, hn, rfl, ho, hc⟩, hg2⟩
    · have HN := Lf.hide hn
      have HG2 := Lf.hide hg2
      clear hn hg2
      go_wp2_with fail
      go_ret2
      exact ⟨.inl ⟨HN.out, rfl⟩, HG2.out⟩
    · have HO := Lf.hide ho
      have HCC := Lf.hide hc
      have HN := Lf.hide hn
      have HG2 := Lf.hide hg2
      clear ho hc hn hg2
      go_wp2_with fail
      go_ret2
      exact ⟨.inr ⟨l, cv, cs, HN.out, rfl, HO.out, HCC.out⟩, HG2.out⟩
  have b8 : (T.t == 8) = false := by simpa using h8
  by_cases h9 : T.t = 9 ∧ x.args.length = 0
  · have hp : partsOf T x = some [] := by
      simp only [partsOf, argTys]; rw [if_neg h8, if_pos h9]; rfl
    obtain ⟨h9, h0⟩ := h9
    rw [hp, h9, h0]
    clear hp hT hV hok hz hW it ik iN ia hs hlc hRV hRY hRN hRT hll hsz HRV HRY HRT HW HLEN HZ h8 b8 h9 h0
    unfold tyV vaV
    go_enter Try.func22, Try.ntmps22
    go_wp2_with fail
    go_ret2
    exact ⟨.inr ⟨[], .slice none 0 0, [], rfl, rfl, World.ownsRow_nil _ _ _ _, trivial⟩, HGB.out _ _⟩
  by_cases h10 : T.t = 10
  · have hp : partsOf T x = if x.args.length ≤ 24 then some ((List.replicate x.args.length (tyAt T.args 0)).zip x.args) else none := by
      simp only [partsOf, argTys]; rw [if_neg h8, if_neg h9, if_pos h10]; split <;> rfl
    have hl1 : T.args.length = 1 := by have := HLEN.out; rw [h10] at this; simp [partsF] at this; omega
    obtain ⟨y, hy⟩ := List.length_eq_one_iff.1 hl1
    have hyt : tyAt T.args 0 = y := by simp [tyAt, hy]
    obtain ⟨b0, o0, t0, a0, l0, c0, rfl, _, hv0, t1, t2⟩ := ((HRT.out.2.1 0 (by omega)).same (sameAll HW.out)).cells
    have hLy := HRT.out.2.2 0 (by omega)
    rw [hv0] at hLy
    simp only [hy, List.getElem_cons_zero] at hLy
    rw [Nat.zero_mul, Nat.add_zero] at t1 t2
    have q0 : b0 < W.heap.size := World.block_lt_of_cell? W _ t1
    have HC : Hid (∀ W2, W.grownBy W2 none → Calls Try.prog 55 #[.slice aa x.args.length ac, tyV t0 a0 l0 c0] W2 (OfPost w W2 (partsOf T x))) := fun W2 hg => by
      rw [hp, hyt]; exact items_any HRV.out hLy (Lf.gbt HW.out hg)
    generalize partsOf T x = ps at *
    clear hp hT hV hok hz hW it ik iN ia hs hlc hRV hRY hRN hRT hll hsz HRV HRY HRT HW HLEN HZ hyt hy hv0 hLy b8
    rw [h10, hl1]
    clear h10 h8 h9 hl1 hlt
    have HC2 : Hid (∀ w5 : World, W.grownBy w5 none → ∀ W2, w5.grownBy W2 none → Calls Try.prog 55 #[.slice aa x.args.length ac, .agg #[.int .i64 t0, .slice a0 l0 c0]] W2 (OfPost w w5 ps)) := fun w5 h5 W2 h2 => (HC.out W2 (Lf.gbt h5 h2)).mono fun e w' h => h.grown h2
    clear HC
    unfold tyV vaV
    go_enter Try.func22, Try.ntmps22
    go_wp2_with fail
    have hb0 := res_new W (.cells #[.int .i64 10, .slice (some ⟨b0, o0, none⟩) 1 c] 24) (.cells #[.int .i64 x.k, .int .i64 x.n, .int .i64 x.a, .string x.s, .slice aa x.args.length ac, .slice ta x.types.length tc, .slice na x.code.length nc] 30)
    have hb1 := new_twoI W (.cells #[.int .i64 10, .slice (some ⟨b0, o0, none⟩) 1 c] 24) (.cells #[.int .i64 x.k, .int .i64 x.n, .int .i64 x.a, .string x.s, .slice aa x.args.length ac, .slice ta x.types.length tc, .slice na x.code.length nc] 30)
    have HG5 := Lf.hide (Lf.gbt (Lf.gb (w := W) (.cells #[.int .i64 10, .slice (some ⟨b0, o0, none⟩) 1 c] 24)) (Lf.gb (.cells #[.int .i64 x.k, .int .i64 x.n, .int .i64 x.a, .string x.s, .slice aa x.args.length ac, .slice ta x.types.length tc, .slice na x.code.length nc] 30)))
    have hu1 := (World.cell?_of_block (HG5.out.block b0 q0 (by simp))).trans t1
    have hu2 := (World.cell?_of_block (HG5.out.block b0 q0 (by simp))).trans t2
    have hq5 : b0 < ((W.alloc (.cells #[.int .i64 10, .slice (some ⟨b0, o0, none⟩) 1 c] 24)).alloc (.cells #[.int .i64 x.k, .int .i64 x.n, .int .i64 x.a, .string x.s, .slice aa x.args.length ac, .slice ta x.types.length tc, .slice na x.code.length nc] 30)).heap.size := by simp; omega
    generalize (W.alloc (.cells #[.int .i64 10, .slice (some ⟨b0, o0, none⟩) 1 c] 24)).alloc (.cells #[.int .i64 x.k, .int .i64 x.n, .int .i64 x.a, .string x.s, .slice aa x.args.length ac, .slice ta x.types.length tc, .slice na x.code.length nc] 30) = w5 at *
    have k0 : ∀ W3 : World, w5.grownBy W3 none → W3.heap[W.heap.size]? = _ := fun W3 h => (h.block _ (Array.getElem?_eq_some_iff.1 hb0).1 (by simp)).trans hb0
    have k1 : ∀ W3 : World, w5.grownBy W3 none → W3.heap[W.heap.size + 1]? = _ := fun W3 h => (h.block _ (Array.getElem?_eq_some_iff.1 hb1).1 (by simp)).trans hb1
    have f1 : ∀ W3 : World, w5.grownBy W3 none → W3.cell? ⟨W.heap.size, 1, none⟩ = some (.slice (some ⟨b0, o0, none⟩) 1 c) := fun W3 h => cell1_of (k0 W3 h)
    have f2 : ∀ W3 : World, w5.grownBy W3 none → W3.cell? ⟨W.heap.size + 1, 4, none⟩ = some (.slice aa x.args.length ac) := fun W3 h => (box7 (k1 W3 h)).2.2.2.2.1
    have f3 : ∀ W3 : World, w5.grownBy W3 none → W3.cell? ⟨W.heap.size + 1, 1, none⟩ = some (.int .i64 x.n) := fun W3 h => (box7 (k1 W3 h)).2.1
    have f4 : ∀ W3 : World, w5.grownBy W3 none → W3.cell? ⟨b0, o0, none⟩ = some (.int .i64 t0) := fun W3 h => (World.cell?_of_block (h.block b0 hq5 (by simp))).trans hu1
    have f5 : ∀ W3 : World, w5.grownBy W3 none → W3.cell? ⟨b0, o0 + 1, none⟩ = some (.slice a0 l0 c0) := fun W3 h => (World.cell?_of_block (h.block b0 hq5 (by simp))).trans hu2
    clear k0 k1 hb0 hb1 hu1 hu2 hq5 q0 t1 t2
    go_region_held3 (fun w' => w5.grownBy w' none) (first | assumption | exact grow_drew (grow_refl _ _) | exact grow_drew (Lf.gb _) | exact Lf.gbt (by assumption) (Lf.gb _)) (first
      | (go_at_call 55; refine (HC2.out w5 HG5.out _ (by assumption)).mono ?_; rintro e w2 hpost; obtain ⟨cv, bb, rfl⟩ := hpost.form; have hS := Lf.gbt (grow_refl w5 none) hpost.2; have HPO := Lf.hide hpost; clear hpost))
    all_goals
      clear hS
      go_wp2_with fail
      go_ret2
      exact HPO.out.grown HG5.out
  have b10 : (T.t == 10) = false := by simpa using h10
  by_cases h13 : T.t = 13
  · have hp : partsOf T x = if x.args.length ≤ 24 then some ((List.replicate x.args.length (.nd 11 T.args)).zip x.args) else none := by
      simp only [partsOf, argTys]; rw [if_neg h8, if_neg h9, if_neg h10, if_pos h13]; split <;> rfl
    have HC : Hid (∀ W2, W.grownBy W2 none → Calls Try.prog 55 #[.slice aa x.args.length ac, tyV 11 a T.args.length c] W2 (OfPost w W2 (partsOf T x))) := fun W2 hg => by
      rw [hp]; exact items_any HRV.out (LiesT.of ⟨by decide, by decide⟩ HRT.out HCAP.out) (Lf.gbt HW.out hg)
    generalize partsOf T x = ps at *
    clear hp hT hV hok hz hW it ik iN ia hs hlc hRV hRY hRN hRT hll hsz HRV HRY HRT HW HLEN HZ b8 b10
    rw [h13]
    clear h13 h8 h9 h10
    unfold tyV at HC
    unfold tyV vaV
    go_enter Try.func22, Try.ntmps22
    go_wp2_with fail
    refine (HC.out _ (HGB.out _ _)).mono ?_; rintro e w2 hpost
    have hp := OfPost.grown hpost (HGB.out _ _)
    clear hpost
    rcases hp with ⟨⟨hn, rfl⟩ | ⟨l, cv, cs, hn, rfl, ho, hc⟩, hg2⟩
    · have HN := Lf.hide hn
      have HG2 := Lf.hide hg2
      clear hn hg2
      go_wp2_with fail
      go_ret2
      exact ⟨.inl ⟨HN.out, rfl⟩, HG2.out⟩
    · have HO := Lf.hide ho
      have HCC := Lf.hide hc
      have HN := Lf.hide hn
      have HG2 := Lf.hide hg2
      clear ho hc hn hg2
      go_wp2_with fail
      go_ret2
      exact ⟨.inr ⟨l, cv, cs, HN.out, rfl, HO.out, HCC.out⟩, HG2.out⟩
  have b13 : (T.t == 13) = false := by simpa using h13
  by_cases h12 : T.t = 12
  · have hl2 : T.args.length = 2 := by have := HLEN.out; rw [h12] at this; simp [partsF] at this; omega
    rcases hok.side h12 with hn | hn
    · have hp : partsOf T x = if x.args.length = ([T.args[0]'(by omega)] : List Ty).length then some (([T.args[0]'(by omega)] : List Ty).zip x.args) else none := by
        simp only [partsOf, argTys]; rw [if_neg h8, if_neg h9, if_neg h10, if_neg h13, if_pos h12, hn]
        have e1 : tyAt T.args ((0 : Int).toNat) = T.args[0]'(by omega) := by
          show tyAt T.args 0 = _
          unfold tyAt; rw [List.getElem?_eq_getElem (by omega)]; rfl
        rw [e1]
        by_cases h0 : x.args.length = 1
        · rw [if_pos h0, if_pos (by simpa using h0)]; rfl
        · rw [if_neg h0, if_neg (by simpa using h0)]; rfl
      obtain ⟨b0, o0, t0, a0, l0, c0, rfl, _, hv0, t1, t2⟩ := ((HRT.out.2.1 0 (by omega)).same (sameAll HW.out)).cells
      have hLy := HRT.out.2.2 0 (by omega)
      rw [hv0] at hLy
      rw [Nat.zero_mul, Nat.add_zero] at t1 t2
      have q0 : b0 < W.heap.size := World.block_lt_of_cell? W _ t1
      have HC2 : Hid (∀ w5 : World, W.grownBy w5 none → ∀ H, w5.heap.size = H → Calls Try.prog 54 #[.slice aa x.args.length ac, .slice (some ⟨H, 0, none⟩) 1 1] (w5.alloc (.cells #[.int .i64 t0, .slice a0 l0 c0] 24)).drew (OfPost w w5 (partsOf T x))) := fun w5 h5 H hH => by
        subst hH
        have hb : (w5.alloc (.cells #[.int .i64 t0, .slice a0 l0 c0] 24)).drew.heap[w5.heap.size]? = some (.cells #[.int .i64 t0, .slice a0 l0 c0] 24) := heap_alloc_new w5 _
        have hg : w5.grownBy (w5.alloc (.cells #[.int .i64 t0, .slice a0 l0 c0] 24)).drew none := grow_drew (Lf.gb _)
        rw [hp]
        refine (oneEach_all (ts := [T.args[0]'(by omega)]) (U := fun _ => tyV t0 a0 l0 c0) HRV.out ⟨by simp [maxLen], fun i hi => ?_⟩ (Lf.gbt HW.out (Lf.gbt h5 hg)) HZ.out).mono fun e w' h => h.grown hg
        have : i = 0 := by simpa using hi
        subst this
        exact ⟨⟨w5.heap.size, 0, rfl, trivial, t0, a0, l0, c0, rfl, cell0_of hb, cell1_of hb⟩, hLy⟩
      generalize partsOf T x = ps at *
      clear hp hT hV hok hz hW it ik iN ia hs hlc hRV hRY hRN hRT hll hsz HRV HRY HRT HW HLEN HZ hv0 hLy b8 b10 b13
      rw [h12, hl2, hn]
      clear h12 h8 h9 h10 h13 hl2 hlt hn
      unfold tyV vaV
      go_enter Try.func22, Try.ntmps22
      go_wp2_with fail
      have hb0 := res_new W (.cells #[.int .i64 12, .slice (some ⟨b0, o0, none⟩) 2 c] 24) (.cells #[.int .i64 x.k, .int .i64 0, .int .i64 x.a, .string x.s, .slice aa x.args.length ac, .slice ta x.types.length tc, .slice na x.code.length nc] 30)
      have hb1 := new_twoI W (.cells #[.int .i64 12, .slice (some ⟨b0, o0, none⟩) 2 c] 24) (.cells #[.int .i64 x.k, .int .i64 0, .int .i64 x.a, .string x.s, .slice aa x.args.length ac, .slice ta x.types.length tc, .slice na x.code.length nc] 30)
      have HG5 := Lf.hide (Lf.gbt (Lf.gb (w := W) (.cells #[.int .i64 12, .slice (some ⟨b0, o0, none⟩) 2 c] 24)) (Lf.gb (.cells #[.int .i64 x.k, .int .i64 0, .int .i64 x.a, .string x.s, .slice aa x.args.length ac, .slice ta x.types.length tc, .slice na x.code.length nc] 30)))
      have hu1 := (World.cell?_of_block (HG5.out.block b0 q0 (by simp))).trans t1
      have hu2 := (World.cell?_of_block (HG5.out.block b0 q0 (by simp))).trans t2
      have hq5 : b0 < ((W.alloc (.cells #[.int .i64 12, .slice (some ⟨b0, o0, none⟩) 2 c] 24)).alloc (.cells #[.int .i64 x.k, .int .i64 0, .int .i64 x.a, .string x.s, .slice aa x.args.length ac, .slice ta x.types.length tc, .slice na x.code.length nc] 30)).heap.size := by simp; omega
      generalize (W.alloc (.cells #[.int .i64 12, .slice (some ⟨b0, o0, none⟩) 2 c] 24)).alloc (.cells #[.int .i64 x.k, .int .i64 0, .int .i64 x.a, .string x.s, .slice aa x.args.length ac, .slice ta x.types.length tc, .slice na x.code.length nc] 30) = w5 at *
      have k0 : ∀ W3 : World, w5.grownBy W3 none → W3.heap[W.heap.size]? = _ := fun W3 h => (h.block _ (Array.getElem?_eq_some_iff.1 hb0).1 (by simp)).trans hb0
      have k1 : ∀ W3 : World, w5.grownBy W3 none → W3.heap[W.heap.size + 1]? = _ := fun W3 h => (h.block _ (Array.getElem?_eq_some_iff.1 hb1).1 (by simp)).trans hb1
      have f1 : ∀ W3 : World, w5.grownBy W3 none → W3.cell? ⟨W.heap.size, 1, none⟩ = some (.slice (some ⟨b0, o0, none⟩) 2 c) := fun W3 h => cell1_of (k0 W3 h)
      have f2 : ∀ W3 : World, w5.grownBy W3 none → W3.cell? ⟨W.heap.size + 1, 4, none⟩ = some (.slice aa x.args.length ac) := fun W3 h => (box7 (k1 W3 h)).2.2.2.2.1
      have f3 : ∀ W3 : World, w5.grownBy W3 none → W3.cell? ⟨W.heap.size + 1, 1, none⟩ = some (.int .i64 0) := fun W3 h => (box7 (k1 W3 h)).2.1
      have f4 : ∀ W3 : World, w5.grownBy W3 none → W3.cell? ⟨b0, o0, none⟩ = some (.int .i64 t0) := fun W3 h => (World.cell?_of_block (h.block b0 hq5 (by simp))).trans hu1
      have f5 : ∀ W3 : World, w5.grownBy W3 none → W3.cell? ⟨b0, o0 + 1, none⟩ = some (.slice a0 l0 c0) := fun W3 h => (World.cell?_of_block (h.block b0 hq5 (by simp))).trans hu2
      clear k0 k1 hb0 hb1 hu1 hu2 hq5 q0 t1 t2
      go_region_held3 (fun w' => w5.grownBy w' none) (first | assumption | exact grow_drew (grow_refl _ _) | exact grow_drew (Lf.gb _) | exact Lf.gbt (by assumption) (Lf.gb _)) (first
        | (go_at_call 54; refine (HC2.out w5 HG5.out _ rfl).mono ?_; rintro e w2 hpost; obtain ⟨cv, bb, rfl⟩ := hpost.form; have hS := Lf.gbt (grow_refl w5 none) hpost.2; have HPO := Lf.hide hpost; clear hpost))
      all_goals
        clear hS
        go_wp2_with fail
        go_ret2
        exact HPO.out.grown HG5.out
    · have hp : partsOf T x = if x.args.length = ([T.args[1]'(by omega)] : List Ty).length then some (([T.args[1]'(by omega)] : List Ty).zip x.args) else none := by
        simp only [partsOf, argTys]; rw [if_neg h8, if_neg h9, if_neg h10, if_neg h13, if_pos h12, hn]
        have e1 : tyAt T.args ((1 : Int).toNat) = T.args[1]'(by omega) := by
          show tyAt T.args 1 = _
          unfold tyAt; rw [List.getElem?_eq_getElem (by omega)]; rfl
        rw [e1]
        by_cases h0 : x.args.length = 1
        · rw [if_pos h0, if_pos (by simpa using h0)]; rfl
        · rw [if_neg h0, if_neg (by simpa using h0)]; rfl
      obtain ⟨b0, o0, t0, a0, l0, c0, rfl, _, hv0, t1, t2⟩ := ((HRT.out.2.1 1 (by omega)).same (sameAll HW.out)).cells
      have hLy := HRT.out.2.2 1 (by omega)
      rw [hv0] at hLy
      have q0 : b0 < W.heap.size := World.block_lt_of_cell? W _ t1
      have HC2 : Hid (∀ w5 : World, W.grownBy w5 none → ∀ H, w5.heap.size = H → Calls Try.prog 54 #[.slice aa x.args.length ac, .slice (some ⟨H, 0, none⟩) 1 1] (w5.alloc (.cells #[.int .i64 t0, .slice a0 l0 c0] 24)).drew (OfPost w w5 (partsOf T x))) := fun w5 h5 H hH => by
        subst hH
        have hb : (w5.alloc (.cells #[.int .i64 t0, .slice a0 l0 c0] 24)).drew.heap[w5.heap.size]? = some (.cells #[.int .i64 t0, .slice a0 l0 c0] 24) := heap_alloc_new w5 _
        have hg : w5.grownBy (w5.alloc (.cells #[.int .i64 t0, .slice a0 l0 c0] 24)).drew none := grow_drew (Lf.gb _)
        rw [hp]
        refine (oneEach_all (ts := [T.args[1]'(by omega)]) (U := fun _ => tyV t0 a0 l0 c0) HRV.out ⟨by simp [maxLen], fun i hi => ?_⟩ (Lf.gbt HW.out (Lf.gbt h5 hg)) HZ.out).mono fun e w' h => h.grown hg
        have : i = 0 := by simpa using hi
        subst this
        exact ⟨⟨w5.heap.size, 0, rfl, trivial, t0, a0, l0, c0, rfl, cell0_of hb, cell1_of hb⟩, hLy⟩
      generalize partsOf T x = ps at *
      clear hp hT hV hok hz hW it ik iN ia hs hlc hRV hRY hRN hRT hll hsz HRV HRY HRT HW HLEN HZ hv0 hLy b8 b10 b13
      rw [h12, hl2, hn]
      clear h12 h8 h9 h10 h13 hl2 hlt hn
      unfold tyV vaV
      go_enter Try.func22, Try.ntmps22
      go_wp2_with fail
      have hb0 := res_new W (.cells #[.int .i64 12, .slice (some ⟨b0, o0, none⟩) 2 c] 24) (.cells #[.int .i64 x.k, .int .i64 1, .int .i64 x.a, .string x.s, .slice aa x.args.length ac, .slice ta x.types.length tc, .slice na x.code.length nc] 30)
      have hb1 := new_twoI W (.cells #[.int .i64 12, .slice (some ⟨b0, o0, none⟩) 2 c] 24) (.cells #[.int .i64 x.k, .int .i64 1, .int .i64 x.a, .string x.s, .slice aa x.args.length ac, .slice ta x.types.length tc, .slice na x.code.length nc] 30)
      have HG5 := Lf.hide (Lf.gbt (Lf.gb (w := W) (.cells #[.int .i64 12, .slice (some ⟨b0, o0, none⟩) 2 c] 24)) (Lf.gb (.cells #[.int .i64 x.k, .int .i64 1, .int .i64 x.a, .string x.s, .slice aa x.args.length ac, .slice ta x.types.length tc, .slice na x.code.length nc] 30)))
      have hu1 := (World.cell?_of_block (HG5.out.block b0 q0 (by simp))).trans t1
      have hu2 := (World.cell?_of_block (HG5.out.block b0 q0 (by simp))).trans t2
      have hq5 : b0 < ((W.alloc (.cells #[.int .i64 12, .slice (some ⟨b0, o0, none⟩) 2 c] 24)).alloc (.cells #[.int .i64 x.k, .int .i64 1, .int .i64 x.a, .string x.s, .slice aa x.args.length ac, .slice ta x.types.length tc, .slice na x.code.length nc] 30)).heap.size := by simp; omega
      generalize (W.alloc (.cells #[.int .i64 12, .slice (some ⟨b0, o0, none⟩) 2 c] 24)).alloc (.cells #[.int .i64 x.k, .int .i64 1, .int .i64 x.a, .string x.s, .slice aa x.args.length ac, .slice ta x.types.length tc, .slice na x.code.length nc] 30) = w5 at *
      have k0 : ∀ W3 : World, w5.grownBy W3 none → W3.heap[W.heap.size]? = _ := fun W3 h => (h.block _ (Array.getElem?_eq_some_iff.1 hb0).1 (by simp)).trans hb0
      have k1 : ∀ W3 : World, w5.grownBy W3 none → W3.heap[W.heap.size + 1]? = _ := fun W3 h => (h.block _ (Array.getElem?_eq_some_iff.1 hb1).1 (by simp)).trans hb1
      have f1 : ∀ W3 : World, w5.grownBy W3 none → W3.cell? ⟨W.heap.size, 1, none⟩ = some (.slice (some ⟨b0, o0, none⟩) 2 c) := fun W3 h => cell1_of (k0 W3 h)
      have f2 : ∀ W3 : World, w5.grownBy W3 none → W3.cell? ⟨W.heap.size + 1, 4, none⟩ = some (.slice aa x.args.length ac) := fun W3 h => (box7 (k1 W3 h)).2.2.2.2.1
      have f3 : ∀ W3 : World, w5.grownBy W3 none → W3.cell? ⟨W.heap.size + 1, 1, none⟩ = some (.int .i64 1) := fun W3 h => (box7 (k1 W3 h)).2.1
      have f4 : ∀ W3 : World, w5.grownBy W3 none → W3.cell? ⟨b0, o0 + 1 * 2, none⟩ = some (.int .i64 t0) := fun W3 h => (World.cell?_of_block (h.block b0 hq5 (by simp))).trans hu1
      have f5 : ∀ W3 : World, w5.grownBy W3 none → W3.cell? ⟨b0, o0 + 1 * 2 + 1, none⟩ = some (.slice a0 l0 c0) := fun W3 h => (World.cell?_of_block (h.block b0 hq5 (by simp))).trans hu2
      clear k0 k1 hb0 hb1 hu1 hu2 hq5 q0 t1 t2
      go_region_held3 (fun w' => w5.grownBy w' none) (first | assumption | exact grow_drew (grow_refl _ _) | exact grow_drew (Lf.gb _) | exact Lf.gbt (by assumption) (Lf.gb _)) (first
        | (go_at_call 54; refine (HC2.out w5 HG5.out _ rfl).mono ?_; rintro e w2 hpost; obtain ⟨cv, bb, rfl⟩ := hpost.form; have hS := Lf.gbt (grow_refl w5 none) hpost.2; have HPO := Lf.hide hpost; clear hpost))
      all_goals
        clear hS
        go_wp2_with fail
        go_ret2
        exact HPO.out.grown HG5.out
  have b12 : (T.t == 12) = false := by simpa using h12
  by_cases h14 : T.t = 14
  · have hp : partsOf T x = if x.args.length = ([] : List Ty).length then some (([] : List Ty).zip x.args) else none := by
      simp only [partsOf, argTys]; rw [if_neg h8, if_neg h9, if_neg h10, if_neg h13, if_neg h12, if_pos h14]
      by_cases h0 : x.args.length = 0
      · rw [if_pos h0, if_pos (by simpa using h0)]; rfl
      · rw [if_neg h0, if_neg (by simpa using h0)]; rfl
    have HC : Hid (∀ W2, W.grownBy W2 none → Calls Try.prog 54 #[.slice aa x.args.length ac, .slice none 0 0] W2 (OfPost w W2 (partsOf T x))) := fun W2 hg => by
      rw [hp]; exact oneEach_all (ts := []) (U := fun _ => .int .i64 0) HRV.out ⟨by simp [maxLen], fun i hi => by simp at hi⟩ (Lf.gbt HW.out hg) HZ.out
    generalize partsOf T x = ps at *
    clear hp hT hV hok hz hW it ik iN ia hs hlc hRV hRY hRN hRT hll hsz HRV HRY HRT HW HLEN HZ b8 b10 b13 b12
    rw [h14]
    clear h14 h8 h9 h10 h13 h12
    unfold tyV vaV
    go_enter Try.func22, Try.ntmps22
    go_wp2_with fail
    refine (HC.out _ (HGB.out _ _)).mono ?_; rintro e w2 hpost
    have hp := OfPost.grown hpost (HGB.out _ _)
    clear hpost
    rcases hp with ⟨⟨hn, rfl⟩ | ⟨l, cv, cs, hn, rfl, ho, hc⟩, hg2⟩
    · have HN := Lf.hide hn
      have HG2 := Lf.hide hg2
      clear hn hg2
      go_wp2_with fail
      go_ret2
      exact ⟨.inl ⟨HN.out, rfl⟩, HG2.out⟩
    · have HO := Lf.hide ho
      have HCC := Lf.hide hc
      have HN := Lf.hide hn
      have HG2 := Lf.hide hg2
      clear ho hc hn hg2
      go_wp2_with fail
      go_ret2
      exact ⟨.inr ⟨l, cv, cs, HN.out, rfl, HO.out, HCC.out⟩, HG2.out⟩
  have b14 : (T.t == 14) = false := by simpa using h14
  have hp : partsOf T x = if x.args.length = T.args.length then some (T.args.zip x.args) else none := by
    simp only [partsOf, argTys]; rw [if_neg h8, if_neg h9, if_neg h10, if_neg h13, if_neg h12, if_neg h14]; split <;> rfl
  have HC : Hid (∀ W2, W.grownBy W2 none → Calls Try.prog 54 #[.slice aa x.args.length ac, .slice a T.args.length c] W2 (OfPost w W2 (partsOf T x))) := fun W2 hg => by
    rw [hp]; exact oneEach_all HRV.out (TysAt.of HRT.out (Lf.gbt HW.out hg)) (Lf.gbt HW.out hg) HZ.out
  generalize partsOf T x = ps at *
  clear hp hT hV hok hz hW it ik iN ia hs hlc hRV hRY hRN hRT hll hsz HRV HRY HRT HW HLEN HZ
  by_cases h99 : T.t = 9
  · have h0 : ¬ x.args.length = 0 := fun e => h9 ⟨h99, e⟩
    have z1 : ¬ (x.args.length : Int) = 0 := by omega
    have z2 : ((x.args.length : Int) == 0) = false := by rw [beq_eq_false_iff_ne]; exact z1
    clear h9 b8 b10 b13 b12 b14 h8 h10 h13 h12 h14 h0
    rw [h99]
    clear h99
    unfold tyV vaV
    go_enter Try.func22, Try.ntmps22
    go_wp2_with fail
    refine (HC.out _ (HGB.out _ _)).mono ?_; rintro e w2 hpost
    have hp := OfPost.grown hpost (HGB.out _ _)
    clear hpost
    rcases hp with ⟨⟨hn, rfl⟩ | ⟨l, cv, cs, hn, rfl, ho, hc⟩, hg2⟩
    · have HN := Lf.hide hn
      have HG2 := Lf.hide hg2
      clear hn hg2
      go_wp2_with fail
      go_ret2
      exact ⟨.inl ⟨HN.out, rfl⟩, HG2.out⟩
    · have HO := Lf.hide ho
      have HCC := Lf.hide hc
      have HN := Lf.hide hn
      have HG2 := Lf.hide hg2
      clear ho hc hn hg2
      go_wp2_with fail
      go_ret2
      exact ⟨.inr ⟨l, cv, cs, HN.out, rfl, HO.out, HCC.out⟩, HG2.out⟩
  · have b9 : (T.t == 9) = false := by simpa using h99
    clear h9
    unfold tyV vaV
    go_enter Try.func22, Try.ntmps22
    go_wp2_with fail
    refine (HC.out _ (HGB.out _ _)).mono ?_; rintro e w2 hpost
    have hp := OfPost.grown hpost (HGB.out _ _)
    clear hpost
    rcases hp with ⟨⟨hn, rfl⟩ | ⟨l, cv, cs, hn, rfl, ho, hc⟩, hg2⟩
    · have HN := Lf.hide hn
      have HG2 := Lf.hide hg2
      clear hn hg2
      go_wp2_with fail
      go_ret2
      exact ⟨.inl ⟨HN.out, rfl⟩, HG2.out⟩
    · have HO := Lf.hide ho
      have HCC := Lf.hide hc
      have HN := Lf.hide hn
      have HG2 := Lf.hide hg2
      clear ho hc hn hg2
      go_wp2_with fail
      go_ret2
      exact ⟨.inr ⟨l, cv, cs, HN.out, rfl, HO.out, HCC.out⟩, HG2.out⟩

end Go.Proofs.Ytdninmanfncfiad
