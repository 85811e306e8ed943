import Derived.Test.YtfakmokbccnamaaGreatZd
import Derived.Test.YtfakmokbccnamaaGreatZb
namespace Go.Proofs.YtfakmokbccnamaaGreat
set_option maxRecDepth 100000
set_option maxHeartbeats 4000000
open Go.ChangeShapes Go.WideShapes Go.ChangeAt Go.RowKit
set_option linter.unusedVariables false
set_option linter.unusedSimpArgs false
theorem gathers_56 {W : World} {n : Int} {ta ra da : Option Addr} {tl tc rl rc dl dc : Nat} {dk dn dp : Int} {ds : ByteArray} {s types : List Ty} {sv : Value} (hs : RowC W s sv) (hT : RowC W types (.slice ta tl tc)) (htl : types.length = 1) (hgd : s.all gYq = true) (hn : s.length <= 1000) :
 Calls Tryz.prog 32 #[insV 56 n ta tl tc ra rl rc dk dn dp ds da dl dc, sv] W (LPq (pFq s [(.nd 10 [(tAq types 0)])]) W) := by
 obtain ⟨sa, sl, sc, e1⟩ := hs.form3
 subst e1
 unfold insV
 obtain ⟨hg3, hI3, hR3⟩ := start2 W (.cells #[.int .i64 56, .int .i64 n, .slice ta tl tc, .slice ra rl rc, .int .i64 dk, .int .i64 dn, .int .i64 dp, .string ds, .slice da dl dc] 56) (.cells #[.slice none 0 0, .bool false] 27)
 have hsz : ((W.alloc (.cells #[.int .i64 56, .int .i64 n, .slice ta tl tc, .slice ra rl rc, .int .i64 dk, .int .i64 dn, .int .i64 dp, .string ds, .slice da dl dc] 56)).alloc (.cells #[.slice none 0 0, .bool false] 27)).heap.size = W.heap.size + 1 + 1 := by simp
 have hs3 := hs.grow hg3
 have hT3 := hT.grow hg3
 have hlen : 0 <= s.length := Nat.zero_le _
 obtain ⟨hsl, hsc, _⟩ := hs3.len
 obtain ⟨et, ect, _⟩ := hT3.len
 rw [htl] at et ect
 subst et
 have HTY := jh hT3
 obtain ⟨bt, ot, ty0, ay0, ly0, ky0, rfl, xy0a, xy0b, hAy0⟩ := hT3.at 0 (by omega)
 have HAy0 := jh hAy0
 have b1 : (sl : Int) <= (sc : Int) := by omega
 have HSL := jh hsl
 have HG3 := jh hg3
 have HI3 := jh hI3
 have HR3 := jh hR3
 have HS3 := jh hs3
 have HLEN := jh hlen
 simp only [Nat.reduceMul, Nat.reduceAdd, Nat.add_zero, Nat.mul_zero, Nat.zero_add] at xy0a xy0b
 obtain ⟨i0, i1, i2, i3, _⟩ := box9 hI3
 clear hg3 hI3 hR3 hs hs3 hT hT3 hsl hlen hgd htl hAy0
 go_enter Tryz.func32, Tryz.ntmps32
 go_wp2_with fail
 generalize (W.alloc _).alloc _ = W3 at *
 have yxy0a := fun (w' : World) (h : W3.grownBy w' (some (W.heap.size + 1))) => kDq HR3.out h xy0a xy0a
 have yxy0b := fun (w' : World) (h : W3.grownBy w' (some (W.heap.size + 1))) => kDq HR3.out h xy0a xy0b
 have yi2 := fun (w' : World) (h : W3.grownBy w' (some (W.heap.size + 1))) => (box9 (keepI HI3.out h)).2.2.1
 have hS3 : W3.grownBy W3 (some (W.heap.size + 1)) := gRf _ _
 have HD := HS3
 refine (of_any 10 _ _ _ _).mono ?_
 rintro e w10 ⟨rfl, hg⟩
 have HU0 := jh (LiesT.oq (t := 10) ⟨by decide, by decide⟩ (RowC.grow (RowC.one (new_at hsz) (HAy0.out.same (sAl (gBq _)))) hg))
 have HG10 : Hid (W3.grownBy w10 none) := gTq (gBq _) hg
 have hS : W3.grownBy w10 (some (W.heap.size + 1)) := gAq HG10.out
 clear hg
 go_wp2_with fail
 have hprev := HG10.out
 clear hprev
 refine (pAq (HD.out.grow (gTq HG10.out (gBq _))) (RowC.one (heap_alloc_new w10 _) (HU0.out.same (sAl (gBq _)))) (by simp <;> omega)).mono ?_
 rintro e w5 hp
 obtain ⟨a5, l5, c5, f5, er5, rfl, hS5, q0, q1, q2, HB5, HL5⟩ := lFq hp HG3.out (gTq HG10.out (gBq _)) HR3.out
 clear hp
 go_wp2_with fail
 exact eLq (fun w z0 z1 => by simp [results, Tryz.results32, go_sem, z0, z1]) rfl HB5.out HL5.out
theorem gathers_57 {W : World} {n : Int} {ta ra da : Option Addr} {tl tc rl rc dl dc : Nat} {dk dn dp : Int} {ds : ByteArray} {s types : List Ty} {sv : Value} (hs : RowC W s sv) (hT : RowC W types (.slice ta tl tc)) (hc : sFq s [0, 10] = true) (ht0 : sameT (tAq s 0) (tAq (tAq s 1).args 0) = true) (hz0 : (tAq s 0).size <= 50000000) (hgd : s.all gYq = true) (hn : s.length <= 1000) :
 Calls Tryz.prog 32 #[insV 57 n ta tl tc ra rl rc dk dn dp ds da dl dc, sv] W (LPq (pFq (s.drop 1) []) W) := by
 obtain ⟨sa, sl, sc, e1⟩ := hs.form3
 subst e1
 unfold insV
 obtain ⟨hg3, hI3, hR3⟩ := start2 W (.cells #[.int .i64 57, .int .i64 n, .slice ta tl tc, .slice ra rl rc, .int .i64 dk, .int .i64 dn, .int .i64 dp, .string ds, .slice da dl dc] 56) (.cells #[.slice none 0 0, .bool false] 27)
 have hs3 := hs.grow hg3
 have hT3 := hT.grow hg3
 have hlen : 2 <= s.length := slq hc
 obtain ⟨hsl, hsc, _⟩ := hs3.len
 obtain ⟨b, o, t0, a0, l0, k0, rfl, x0a, x0b, hA0⟩ := hs3.at 0 (by omega)
 have HA0 := jh hA0
 obtain ⟨_, _, t1, a1, l1, k1, eb, x1a, x1b, hA1⟩ := hs3.at 1 (by omega)
 simp only [Option.some.injEq, Addr.mk.injEq, and_true] at eb
 obtain ⟨rfl, rfl⟩ := eb
 have HA1 := jh hA1
 have hq1 : (tAq s 1).args.length = 1 := cAq hc hgd 1 10 1 rfl (by decide) (by decide)
 obtain ⟨_, hr1⟩ := hA1.args
 obtain ⟨el1, ec1, _⟩ := hr1.len
 rw [hq1] at el1 ec1
 subst el1
 have HQ1 := jh hr1
 have HQL := jh hq1
 obtain ⟨nb1, no1, t10, a10, l10, k10, rfl, x10a, x10b, hA10⟩ := hr1.at 0 (by omega)
 have HA10 := jh hA10
 have bz1 : (1 : Int) <= (sl : Int) := by omega
 have by0 : 0 < sl := by omega
 have bz2 : (2 : Int) <= (sl : Int) := by omega
 have by1 : (1 : Int) < (sl : Int) := by omega
 have b1 : (sl : Int) <= (sc : Int) := by omega
 have HSL := jh hsl
 have HG3 := jh hg3
 have HI3 := jh hI3
 have HR3 := jh hR3
 have HS3 := jh hs3
 have HLEN := jh hlen
 simp only [Nat.reduceMul, Nat.reduceAdd, Nat.add_zero, Nat.mul_zero, Nat.zero_add] at x0a x0b x1a x1b x10a x10b
 obtain ⟨i0, i1, i2, i3, _⟩ := box9 hI3
 clear hg3 hI3 hR3 hs hs3 hT hT3 hsl hlen hgd hA0 hA1 hr1 hq1 hA10
 go_enter Tryz.func32, Tryz.ntmps32
 go_wp2_with fail
 generalize (W.alloc _).alloc _ = W3 at *
 have yx0a := fun (w' : World) (h : W3.grownBy w' none) => kNq h x0a
 have yx0b := fun (w' : World) (h : W3.grownBy w' none) => kNq h x0b
 have yx1a := fun (w' : World) (h : W3.grownBy w' none) => kNq h x1a
 have yx1b := fun (w' : World) (h : W3.grownBy w' none) => kNq h x1b
 have yx10a := fun (w' : World) (h : W3.grownBy w' none) => kNq h x10a
 have yx10b := fun (w' : World) (h : W3.grownBy w' none) => kNq h x10b
 have yi0 := fun (w' : World) (h : W3.grownBy w' none) => kNq h i0
 have yi2 := fun (w' : World) (h : W3.grownBy w' none) => kNq h i2
 have hS0 : W3.grownBy W3 none := gRf _ _
 have HST := jh (sTq (W := (W3.alloc (.cells #[.int .i64 0, .int .i64 10] 3)).drew) (ks := [0, 10]) (kc := 2) (HS3.out.grow (gDr (gBq _))) (kinds2 (heap_alloc_new W3 _)) (by decide))
 rw [hc] at HST
 first
  | (go_region_held3 (fun w' => W3.grownBy w' none) (first | with_reducible assumption | with_reducible exact gDr (gRf _ _) | with_reducible exact gTq (by assumption) (gBq _) | with_reducible exact gDr (gBq _)) (first
   | (go_at_call 50; refine HST.out.mono ?_; rintro e w1 ⟨rfl, rfl⟩)
   | (go_at_call 16; refine (same_any (HA0.out.same (sAl (gDr (gBq _)))).low (HA10.out.same (sAl (gDr (gBq _)))).low hz0).mono ?_; rintro e wt0 ⟨rfl, hg⟩; rw [ht0]; have HGT0 : Hid (W3.grownBy wt0 none) := gTq (gDr (gBq _)) hg; have hST0 := HGT0.out; clear hg)))
  | fail
 clear yx0a yx0b yx1a yx1b yx10a yx10b yi0 yi2 hS0
 have hg := HGT0.out
 replace x0a := kNq hg x0a
 replace x0b := kNq hg x0b
 replace x1a := kNq hg x1a
 replace x1b := kNq hg x1b
 replace x10a := kNq hg x10a
 replace x10b := kNq hg x10b
 replace i0 := kNq hg i0
 replace i2 := kNq hg i2
 replace HI3 := bCq HI3 hg
 replace HR3 := bCq HR3 hg
 replace HS3 := rCq HS3 hg
 replace HG3 := gCq HG3 hg
 replace HA0 := tCq HA0 hg
 replace HA1 := tCq HA1 hg
 replace HA10 := tCq HA10 hg
 replace HQ1 := rCq HQ1 hg
 clear hg
 clear hST0 HST
 have yx0a := fun (w' : World) (h : wt0.grownBy w' (some (W.heap.size + 1))) => kDq HR3.out h x0a x0a
 have yx0b := fun (w' : World) (h : wt0.grownBy w' (some (W.heap.size + 1))) => kDq HR3.out h x0a x0b
 have yx1a := fun (w' : World) (h : wt0.grownBy w' (some (W.heap.size + 1))) => kDq HR3.out h x1a x1a
 have yx1b := fun (w' : World) (h : wt0.grownBy w' (some (W.heap.size + 1))) => kDq HR3.out h x1a x1b
 have yx10a := fun (w' : World) (h : wt0.grownBy w' (some (W.heap.size + 1))) => kDq HR3.out h x10a x10a
 have yx10b := fun (w' : World) (h : wt0.grownBy w' (some (W.heap.size + 1))) => kDq HR3.out h x10a x10b
 have hS3 : wt0.grownBy wt0 (some (W.heap.size + 1)) := gRf _ _
 have hc3 : ¬ sc - 1 = 0 := by omega
 have HD := jh (HS3.out.drop 1 (by have := HLEN.out; omega))
 go_wp2_with fail
 refine (pAq (HD.out.grow (gRf _ _)) (RowC.nil _ none 0) (by simp <;> omega)).mono ?_
 rintro e w5 hp
 obtain ⟨a5, l5, c5, f5, er5, rfl, hS5, q0, q1, q2, HB5, HL5⟩ := lFq hp HG3.out (gRf _ _) HR3.out
 clear hp
 go_wp2_with fail
 exact eLq (fun w z0 z1 => by simp [results, Tryz.results32, go_sem, z0, z1]) rfl HB5.out HL5.out
theorem gathers_57n {W : World} {n : Int} {ta ra da : Option Addr} {tl tc rl rc dl dc : Nat} {dk dn dp : Int} {ds : ByteArray} {s types : List Ty} {sv : Value} (hs : RowC W s sv) (hT : RowC W types (.slice ta tl tc)) (hc : sFq s [0, 10] = false) (hgd : s.all gYq = true) (hn : s.length <= 1000) :
 Calls Tryz.prog 32 #[insV 57 n ta tl tc ra rl rc dk dn dp ds da dl dc, sv] W (LPq (.no 5) W) := by
 obtain ⟨sa, sl, sc, e1⟩ := hs.form3
 subst e1
 unfold insV
 obtain ⟨hg3, hI3, hR3⟩ := start2 W (.cells #[.int .i64 57, .int .i64 n, .slice ta tl tc, .slice ra rl rc, .int .i64 dk, .int .i64 dn, .int .i64 dp, .string ds, .slice da dl dc] 56) (.cells #[.slice none 0 0, .bool false] 27)
 have hs3 := hs.grow hg3
 have hT3 := hT.grow hg3
 have hlen : 0 <= s.length := Nat.zero_le _
 obtain ⟨hsl, hsc, _⟩ := hs3.len
 have b1 : (sl : Int) <= (sc : Int) := by omega
 have HSL := jh hsl
 have HG3 := jh hg3
 have HI3 := jh hI3
 have HR3 := jh hR3
 have HS3 := jh hs3
 have HLEN := jh hlen
 obtain ⟨i0, i1, i2, i3, _⟩ := box9 hI3
 clear hg3 hI3 hR3 hs hs3 hT hT3 hsl hlen hgd
 go_enter Tryz.func32, Tryz.ntmps32
 go_wp2_with fail
 generalize (W.alloc _).alloc _ = W3 at *
 have yi0 := fun (w' : World) (h : W3.grownBy w' none) => kNq h i0
 have yi2 := fun (w' : World) (h : W3.grownBy w' none) => kNq h i2
 have hS0 : W3.grownBy W3 none := gRf _ _
 have HST := jh (sTq (W := W3.drew.alloc (.cells #[.int .i64 0, .int .i64 10] 3)) (ks := [0, 10]) (kc := 2) (HS3.out.grow (gTq (gDr (gRf _ _)) (gBq _))) (kinds2 (heap_alloc_new W3.drew _)) (by decide))
 rw [hc] at HST
 refine wp_region_held_drew (S := fun w' => W3.grownBy w' none) (by kernel_rfl) ?_ (fun hHeld => ?_)
 ·exact gDr (gRf _ _)
 refine rGq 0 26 ?_
 refine rGq 1 27 ?_
 refine rGq 2 28 ?_
 refine rGq 3 29 ?_
 refine rGq 4 30 ?_
 refine wpAnyH_ready (rs := [5]) (by kernel_rfl) (by simp) ?_
 refine AllReadyH.cons rfl (fun K hK => ?_) AllReadyH.nil
 go_simp
 refine hK.out _ _ (gTq hHeld (gBq _)) (fun _ => ?_)
 clear hK K
 replace hHeld := gTq hHeld (gBq (w := W3.drew) (.cells #[.int .i64 0, .int .i64 10] 3))
 refine wpAnyH_ready (rs := [6]) (by kernel_rfl) (by simp) ?_
 refine AllReadyH.cons rfl (fun K hK => ?_) AllReadyH.nil
 go_simp
 go_at_call 50
 refine HST.out.mono ?_; rintro e w1 ⟨rfl, rfl⟩
 refine hK.out _ _ hHeld (fun _ => ?_)
 clear hK K
 refine rGq 7 33 ?_
 refine rGq 8 34 ?_
 refine rNq 9 35 ?_
 refine rNq 10 36 ?_
 refine rNq 11 37 ?_
 refine rNq 12 38 ?_
 refine rNq 13 39 ?_
 refine rNq 14 40 ?_
 refine rNq 15 41 ?_
 refine rNq 16 42 ?_
 refine rNq 17 43 ?_
 refine rNq 18 44 ?_
 refine rGq 19 45 ?_
 refine rGq 20 25 ?_
 refine wpAnyH_done (by kernel_rfl) ?_ _
 clear hHeld
 clear HST yi0 yi2 hS0
 have hg : W3.grownBy (W3.drew.alloc (.cells #[.int .i64 0, .int .i64 10] 3)) none := gTq (gDr (gRf _ _)) (gBq _)
 replace i0 := kNq hg i0
 replace i2 := kNq hg i2
 replace HI3 := bCq HI3 hg
 replace HR3 := bCq HR3 hg
 replace HS3 := rCq HS3 hg
 replace HG3 := gCq HG3 hg
 clear hg
 generalize W3.drew.alloc _ = wk at *
 have hS3 : wk.grownBy wk (some (W.heap.size + 1)) := gRf _ _
 go_wp2_with fail
 refine (rLq 5 (by decide) _).mono ?_
 rintro e w5 hp
 obtain ⟨a5, l5, c5, f5, er5, rfl, hS5, q0, q1, q2, HB5, HL5⟩ := lFq hp HG3.out (gRf _ _) HR3.out
 clear hp
 go_wp2_with fail
 exact eLq (fun w z0 z1 => by simp [results, Tryz.results32, go_sem, z0, z1]) rfl HB5.out HL5.out
theorem gathers_57n1 {W : World} {n : Int} {ta ra da : Option Addr} {tl tc rl rc dl dc : Nat} {dk dn dp : Int} {ds : ByteArray} {s types : List Ty} {sv : Value} (hs : RowC W s sv) (hT : RowC W types (.slice ta tl tc)) (hc : sFq s [0, 10] = true) (ht0 : sameT (tAq s 0) (tAq (tAq s 1).args 0) = false) (hz0 : (tAq s 0).size <= 50000000) (hgd : s.all gYq = true) (hn : s.length <= 1000) :
 Calls Tryz.prog 32 #[insV 57 n ta tl tc ra rl rc dk dn dp ds da dl dc, sv] W (LPq (.no 5) W) := by
 obtain ⟨sa, sl, sc, e1⟩ := hs.form3
 subst e1
 unfold insV
 obtain ⟨hg3, hI3, hR3⟩ := start2 W (.cells #[.int .i64 57, .int .i64 n, .slice ta tl tc, .slice ra rl rc, .int .i64 dk, .int .i64 dn, .int .i64 dp, .string ds, .slice da dl dc] 56) (.cells #[.slice none 0 0, .bool false] 27)
 have hs3 := hs.grow hg3
 have hT3 := hT.grow hg3
 have hlen : 2 <= s.length := slq hc
 obtain ⟨hsl, hsc, _⟩ := hs3.len
 obtain ⟨b, o, t0, a0, l0, k0, rfl, x0a, x0b, hA0⟩ := hs3.at 0 (by omega)
 have HA0 := jh hA0
 obtain ⟨_, _, t1, a1, l1, k1, eb, x1a, x1b, hA1⟩ := hs3.at 1 (by omega)
 simp only [Option.some.injEq, Addr.mk.injEq, and_true] at eb
 obtain ⟨rfl, rfl⟩ := eb
 have HA1 := jh hA1
 have hq1 : (tAq s 1).args.length = 1 := cAq hc hgd 1 10 1 rfl (by decide) (by decide)
 obtain ⟨_, hr1⟩ := hA1.args
 obtain ⟨el1, ec1, _⟩ := hr1.len
 rw [hq1] at el1 ec1
 subst el1
 have HQ1 := jh hr1
 have HQL := jh hq1
 obtain ⟨nb1, no1, t10, a10, l10, k10, rfl, x10a, x10b, hA10⟩ := hr1.at 0 (by omega)
 have HA10 := jh hA10
 have bz1 : (1 : Int) <= (sl : Int) := by omega
 have by0 : 0 < sl := by omega
 have bz2 : (2 : Int) <= (sl : Int) := by omega
 have by1 : (1 : Int) < (sl : Int) := by omega
 have b1 : (sl : Int) <= (sc : Int) := by omega
 have HSL := jh hsl
 have HG3 := jh hg3
 have HI3 := jh hI3
 have HR3 := jh hR3
 have HS3 := jh hs3
 have HLEN := jh hlen
 simp only [Nat.reduceMul, Nat.reduceAdd, Nat.add_zero, Nat.mul_zero, Nat.zero_add] at x0a x0b x1a x1b x10a x10b
 obtain ⟨i0, i1, i2, i3, _⟩ := box9 hI3
 clear hg3 hI3 hR3 hs hs3 hT hT3 hsl hlen hgd hA0 hA1 hr1 hq1 hA10
 go_enter Tryz.func32, Tryz.ntmps32
 go_wp2_with fail
 generalize (W.alloc _).alloc _ = W3 at *
 have yx0a := fun (w' : World) (h : W3.grownBy w' none) => kNq h x0a
 have yx0b := fun (w' : World) (h : W3.grownBy w' none) => kNq h x0b
 have yx1a := fun (w' : World) (h : W3.grownBy w' none) => kNq h x1a
 have yx1b := fun (w' : World) (h : W3.grownBy w' none) => kNq h x1b
 have yx10a := fun (w' : World) (h : W3.grownBy w' none) => kNq h x10a
 have yx10b := fun (w' : World) (h : W3.grownBy w' none) => kNq h x10b
 have yi0 := fun (w' : World) (h : W3.grownBy w' none) => kNq h i0
 have yi2 := fun (w' : World) (h : W3.grownBy w' none) => kNq h i2
 have hS0 : W3.grownBy W3 none := gRf _ _
 have HST := jh (sTq (W := W3.drew.alloc (.cells #[.int .i64 0, .int .i64 10] 3)) (ks := [0, 10]) (kc := 2) (HS3.out.grow (gTq (gDr (gRf _ _)) (gBq _))) (kinds2 (heap_alloc_new W3.drew _)) (by decide))
 rw [hc] at HST
 refine wp_region_held_drew (S := fun w' => W3.grownBy w' none) (by kernel_rfl) ?_ (fun hHeld => ?_)
 ·exact gDr (gRf _ _)
 refine rGq 0 26 ?_
 refine rGq 1 27 ?_
 refine rGq 2 28 ?_
 refine rGq 3 29 ?_
 refine rGq 4 30 ?_
 refine wpAnyH_ready (rs := [5]) (by kernel_rfl) (by simp) ?_
 refine AllReadyH.cons rfl (fun K hK => ?_) AllReadyH.nil
 go_simp
 refine hK.out _ _ (gTq hHeld (gBq _)) (fun _ => ?_)
 clear hK K
 replace hHeld := gTq hHeld (gBq (w := W3.drew) (.cells #[.int .i64 0, .int .i64 10] 3))
 refine wpAnyH_ready (rs := [6]) (by kernel_rfl) (by simp) ?_
 refine AllReadyH.cons rfl (fun K hK => ?_) AllReadyH.nil
 go_simp
 go_at_call 50
 refine HST.out.mono ?_; rintro e w1 ⟨rfl, rfl⟩
 refine hK.out _ _ hHeld (fun _ => ?_)
 clear hK K
 refine rGq 7 33 ?_
 refine rGq 8 34 ?_
 refine rGq 9 35 ?_
 refine rGq 10 36 ?_
 refine rGq 11 37 ?_
 refine rGq 12 38 ?_
 refine rGq 13 39 ?_
 refine rGq 14 40 ?_
 refine rGq 15 41 ?_
 refine rGq 16 42 ?_
 refine rGq 17 43 ?_
 refine wpAnyH_ready (rs := [18]) (by kernel_rfl) (by simp) ?_
 refine AllReadyH.cons rfl (fun K hK => ?_) AllReadyH.nil
 go_simp
 go_at_call 16
 refine (same_any (HA0.out.same (sAl hHeld)).low (HA10.out.same (sAl hHeld)).low hz0).mono ?_; rintro e wt0 ⟨rfl, hg⟩
 rw [ht0]
 have hH9 := gTq hHeld hg
 refine hK.out _ _ hH9 (fun _ => ?_)
 have HGT0 := jh hH9
 have hST0 := hH9
 clear hK K hHeld hg
 have hHeld := hH9
 clear hH9
 refine rGq 19 45 ?_
 refine rGq 20 25 ?_
 refine wpAnyH_done (by kernel_rfl) ?_ _
 clear hHeld
 clear yx0a yx0b yx1a yx1b yx10a yx10b yi0 yi2 hS0
 have hg := HGT0.out
 replace x0a := kNq hg x0a
 replace x0b := kNq hg x0b
 replace x1a := kNq hg x1a
 replace x1b := kNq hg x1b
 replace x10a := kNq hg x10a
 replace x10b := kNq hg x10b
 replace i0 := kNq hg i0
 replace i2 := kNq hg i2
 replace HI3 := bCq HI3 hg
 replace HR3 := bCq HR3 hg
 replace HS3 := rCq HS3 hg
 replace HG3 := gCq HG3 hg
 replace HA0 := tCq HA0 hg
 replace HA1 := tCq HA1 hg
 replace HA10 := tCq HA10 hg
 replace HQ1 := rCq HQ1 hg
 clear hg
 clear hST0 HST
 have yx0a := fun (w' : World) (h : wt0.grownBy w' (some (W.heap.size + 1))) => kDq HR3.out h x0a x0a
 have yx0b := fun (w' : World) (h : wt0.grownBy w' (some (W.heap.size + 1))) => kDq HR3.out h x0a x0b
 have yx1a := fun (w' : World) (h : wt0.grownBy w' (some (W.heap.size + 1))) => kDq HR3.out h x1a x1a
 have yx1b := fun (w' : World) (h : wt0.grownBy w' (some (W.heap.size + 1))) => kDq HR3.out h x1a x1b
 have yx10a := fun (w' : World) (h : wt0.grownBy w' (some (W.heap.size + 1))) => kDq HR3.out h x10a x10a
 have yx10b := fun (w' : World) (h : wt0.grownBy w' (some (W.heap.size + 1))) => kDq HR3.out h x10a x10b
 have hS3 : wt0.grownBy wt0 (some (W.heap.size + 1)) := gRf _ _
 go_wp2_with fail
 refine (rLq 5 (by decide) _).mono ?_
 rintro e w5 hp
 obtain ⟨a5, l5, c5, f5, er5, rfl, hS5, q0, q1, q2, HB5, HL5⟩ := lFq hp HG3.out (gRf _ _) HR3.out
 clear hp
 go_wp2_with fail
 exact eLq (fun w z0 z1 => by simp [results, Tryz.results32, go_sem, z0, z1]) rfl HB5.out HL5.out
theorem gathers_61 {W : World} {n : Int} {ta ra da : Option Addr} {tl tc rl rc dl dc : Nat} {dk dn dp : Int} {ds : ByteArray} {s types : List Ty} {sv : Value} (hs : RowC W s sv) (hT : RowC W types (.slice ta tl tc)) (ht0 : compT (tAq types 0) = true) (hz0 : (tAq types 0).size <= 50000000) (htl : types.length = 2) (hgd : s.all gYq = true) (hn : s.length <= 1000) :
 Calls Tryz.prog 32 #[insV 61 n ta tl tc ra rl rc dk dn dp ds da dl dc, sv] W (LPq (pFq s [(.nd 13 types)]) W) := by
 obtain ⟨sa, sl, sc, e1⟩ := hs.form3
 subst e1
 unfold insV
 obtain ⟨hg3, hI3, hR3⟩ := start2 W (.cells #[.int .i64 61, .int .i64 n, .slice ta tl tc, .slice ra rl rc, .int .i64 dk, .int .i64 dn, .int .i64 dp, .string ds, .slice da dl dc] 56) (.cells #[.slice none 0 0, .bool false] 27)
 have hs3 := hs.grow hg3
 have hT3 := hT.grow hg3
 have hlen : 0 <= s.length := Nat.zero_le _
 obtain ⟨hsl, hsc, _⟩ := hs3.len
 obtain ⟨et, ect, _⟩ := hT3.len
 rw [htl] at et ect
 subst et
 have HTY := jh hT3
 obtain ⟨bt, ot, ty0, ay0, ly0, ky0, rfl, xy0a, xy0b, hAy0⟩ := hT3.at 0 (by omega)
 have HAy0 := jh hAy0
 have b1 : (sl : Int) <= (sc : Int) := by omega
 have HSL := jh hsl
 have HG3 := jh hg3
 have HI3 := jh hI3
 have HR3 := jh hR3
 have HS3 := jh hs3
 have HLEN := jh hlen
 simp only [Nat.reduceMul, Nat.reduceAdd, Nat.add_zero, Nat.mul_zero, Nat.zero_add] at xy0a xy0b
 obtain ⟨i0, i1, i2, i3, _⟩ := box9 hI3
 clear hg3 hI3 hR3 hs hs3 hT hT3 hsl hlen hgd htl hAy0
 go_enter Tryz.func32, Tryz.ntmps32
 go_wp2_with fail
 generalize (W.alloc _).alloc _ = W3 at *
 have yxy0a := fun (w' : World) (h : W3.grownBy w' none) => kNq h xy0a
 have yxy0b := fun (w' : World) (h : W3.grownBy w' none) => kNq h xy0b
 have yi0 := fun (w' : World) (h : W3.grownBy w' none) => kNq h i0
 have yi2 := fun (w' : World) (h : W3.grownBy w' none) => kNq h i2
 have hS0 : W3.grownBy W3 none := gRf _ _
 refine wp_region_held_drew (S := fun w' => W3.grownBy w' none) (by kernel_rfl) ?_ (fun hHeld => ?_)
 ·exact gDr (gRf _ _)
 refine rGq 0 26 ?_
 refine rGq 1 27 ?_
 refine rGq 2 28 ?_
 refine rGq 3 29 ?_
 refine rNq 4 30 ?_
 refine rNq 5 31 ?_
 refine rNq 6 32 ?_
 refine rGq 7 33 ?_
 refine rGq 8 34 ?_
 refine rNq 9 35 ?_
 refine rNq 10 36 ?_
 refine rNq 11 37 ?_
 refine rNq 12 38 ?_
 refine rNq 13 39 ?_
 refine rNq 14 40 ?_
 refine rNq 15 41 ?_
 refine rNq 16 42 ?_
 refine rNq 17 43 ?_
 refine rNq 18 44 ?_
 refine rGq 19 45 ?_
 refine rGq 20 25 ?_
 refine wpAnyH_done (by kernel_rfl) ?_ _
 clear hHeld
 clear yxy0a yxy0b yi0 yi2 hS0
 have hg : W3.grownBy W3.drew none := gDr (gRf _ _)
 replace xy0a := kNq hg xy0a
 replace xy0b := kNq hg xy0b
 replace i0 := kNq hg i0
 replace i2 := kNq hg i2
 replace HI3 := bCq HI3 hg
 replace HR3 := bCq HR3 hg
 replace HS3 := rCq HS3 hg
 replace HG3 := gCq HG3 hg
 replace HAy0 := tCq HAy0 hg
 replace HTY := jh (HTY.out.grow hg)
 clear hg
 generalize W3.drew = wd0 at *
 go_wp2_with fail
 go_wp2_with fail
 refine (comparable_any HAy0.out.low hz0).mono ?_; rintro e wt0 ⟨rfl, hg⟩
 rw [ht0]
 replace xy0a := kNq hg xy0a
 replace xy0b := kNq hg xy0b
 replace i0 := kNq hg i0
 replace i2 := kNq hg i2
 replace HI3 := bCq HI3 hg
 replace HR3 := bCq HR3 hg
 replace HS3 := rCq HS3 hg
 replace HG3 := gCq HG3 hg
 replace HAy0 := tCq HAy0 hg
 replace HTY := jh (HTY.out.grow hg)
 clear hg
 have yxy0a := fun (w' : World) (h : wt0.grownBy w' (some (W.heap.size + 1))) => kDq HR3.out h xy0a xy0a
 have yxy0b := fun (w' : World) (h : wt0.grownBy w' (some (W.heap.size + 1))) => kDq HR3.out h xy0a xy0b
 have yi2 := fun (w' : World) (h : wt0.grownBy w' (some (W.heap.size + 1))) => (box9 (keepI HI3.out h)).2.2.1
 have hS3 : wt0.grownBy wt0 (some (W.heap.size + 1)) := gRf _ _
 have HD := HS3
 go_wp2_with fail
 refine (of_any 13 _ _ _ _).mono ?_
 rintro e w10 ⟨rfl, hg⟩
 have HU0 := jh (LiesT.oq (t := 13) ⟨by decide, by decide⟩ (RowC.grow (HTY.out.grow (gRf _ _)) hg))
 have HG10 : Hid (wt0.grownBy w10 none) := gTq (gRf _ _) hg
 have hS : wt0.grownBy w10 (some (W.heap.size + 1)) := gAq HG10.out
 clear hg
 go_wp2_with fail
 have hprev := HG10.out
 clear hprev
 refine (pAq (HD.out.grow (gTq HG10.out (gBq _))) (RowC.one (heap_alloc_new w10 _) (HU0.out.same (sAl (gBq _)))) (by simp <;> omega)).mono ?_
 rintro e w5 hp
 obtain ⟨a5, l5, c5, f5, er5, rfl, hS5, q0, q1, q2, HB5, HL5⟩ := lFq hp HG3.out (gTq HG10.out (gBq _)) HR3.out
 clear hp
 go_wp2_with fail
 exact eLq (fun w z0 z1 => by simp [results, Tryz.results32, go_sem, z0, z1]) rfl HB5.out HL5.out
theorem gathers_61n1 {W : World} {n : Int} {ta ra da : Option Addr} {tl tc rl rc dl dc : Nat} {dk dn dp : Int} {ds : ByteArray} {s types : List Ty} {sv : Value} (hs : RowC W s sv) (hT : RowC W types (.slice ta tl tc)) (ht0 : compT (tAq types 0) = false) (hz0 : (tAq types 0).size <= 50000000) (htl : types.length = 2) (hgd : s.all gYq = true) (hn : s.length <= 1000) :
 Calls Tryz.prog 32 #[insV 61 n ta tl tc ra rl rc dk dn dp ds da dl dc, sv] W (LPq (.no 5) W) := by
 obtain ⟨sa, sl, sc, e1⟩ := hs.form3
 subst e1
 unfold insV
 obtain ⟨hg3, hI3, hR3⟩ := start2 W (.cells #[.int .i64 61, .int .i64 n, .slice ta tl tc, .slice ra rl rc, .int .i64 dk, .int .i64 dn, .int .i64 dp, .string ds, .slice da dl dc] 56) (.cells #[.slice none 0 0, .bool false] 27)
 have hs3 := hs.grow hg3
 have hT3 := hT.grow hg3
 have hlen : 0 <= s.length := Nat.zero_le _
 obtain ⟨hsl, hsc, _⟩ := hs3.len
 obtain ⟨et, ect, _⟩ := hT3.len
 rw [htl] at et ect
 subst et
 have HTY := jh hT3
 obtain ⟨bt, ot, ty0, ay0, ly0, ky0, rfl, xy0a, xy0b, hAy0⟩ := hT3.at 0 (by omega)
 have HAy0 := jh hAy0
 have b1 : (sl : Int) <= (sc : Int) := by omega
 have HSL := jh hsl
 have HG3 := jh hg3
 have HI3 := jh hI3
 have HR3 := jh hR3
 have HS3 := jh hs3
 have HLEN := jh hlen
 simp only [Nat.reduceMul, Nat.reduceAdd, Nat.add_zero, Nat.mul_zero, Nat.zero_add] at xy0a xy0b
 obtain ⟨i0, i1, i2, i3, _⟩ := box9 hI3
 clear hg3 hI3 hR3 hs hs3 hT hT3 hsl hlen hgd htl hAy0
 go_enter Tryz.func32, Tryz.ntmps32
 go_wp2_with fail
 generalize (W.alloc _).alloc _ = W3 at *
 have yxy0a := fun (w' : World) (h : W3.grownBy w' none) => kNq h xy0a
 have yxy0b := fun (w' : World) (h : W3.grownBy w' none) => kNq h xy0b
 have yi0 := fun (w' : World) (h : W3.grownBy w' none) => kNq h i0
 have yi2 := fun (w' : World) (h : W3.grownBy w' none) => kNq h i2
 have hS0 : W3.grownBy W3 none := gRf _ _
 refine wp_region_held_drew (S := fun w' => W3.grownBy w' none) (by kernel_rfl) ?_ (fun hHeld => ?_)
 ·exact gDr (gRf _ _)
 refine rGq 0 26 ?_
 refine rGq 1 27 ?_
 refine rGq 2 28 ?_
 refine rGq 3 29 ?_
 refine rNq 4 30 ?_
 refine rNq 5 31 ?_
 refine rNq 6 32 ?_
 refine rGq 7 33 ?_
 refine rGq 8 34 ?_
 refine rNq 9 35 ?_
 refine rNq 10 36 ?_
 refine rNq 11 37 ?_
 refine rNq 12 38 ?_
 refine rNq 13 39 ?_
 refine rNq 14 40 ?_
 refine rNq 15 41 ?_
 refine rNq 16 42 ?_
 refine rNq 17 43 ?_
 refine rNq 18 44 ?_
 refine rGq 19 45 ?_
 refine rGq 20 25 ?_
 refine wpAnyH_done (by kernel_rfl) ?_ _
 clear hHeld
 clear yxy0a yxy0b yi0 yi2 hS0
 have hg : W3.grownBy W3.drew none := gDr (gRf _ _)
 replace xy0a := kNq hg xy0a
 replace xy0b := kNq hg xy0b
 replace i0 := kNq hg i0
 replace i2 := kNq hg i2
 replace HI3 := bCq HI3 hg
 replace HR3 := bCq HR3 hg
 replace HS3 := rCq HS3 hg
 replace HG3 := gCq HG3 hg
 replace HAy0 := tCq HAy0 hg
 replace HTY := jh (HTY.out.grow hg)
 clear hg
 generalize W3.drew = wd0 at *
 go_wp2_with fail
 go_wp2_with fail
 refine (comparable_any HAy0.out.low hz0).mono ?_; rintro e wt0 ⟨rfl, hg⟩
 rw [ht0]
 replace xy0a := kNq hg xy0a
 replace xy0b := kNq hg xy0b
 replace i0 := kNq hg i0
 replace i2 := kNq hg i2
 replace HI3 := bCq HI3 hg
 replace HR3 := bCq HR3 hg
 replace HS3 := rCq HS3 hg
 replace HG3 := gCq HG3 hg
 replace HAy0 := tCq HAy0 hg
 replace HTY := jh (HTY.out.grow hg)
 clear hg
 have yxy0a := fun (w' : World) (h : wt0.grownBy w' (some (W.heap.size + 1))) => kDq HR3.out h xy0a xy0a
 have yxy0b := fun (w' : World) (h : wt0.grownBy w' (some (W.heap.size + 1))) => kDq HR3.out h xy0a xy0b
 have yi2 := fun (w' : World) (h : wt0.grownBy w' (some (W.heap.size + 1))) => (box9 (keepI HI3.out h)).2.2.1
 have hS3 : wt0.grownBy wt0 (some (W.heap.size + 1)) := gRf _ _
 go_wp2_with fail
 refine (rLq 5 (by decide) _).mono ?_
 rintro e w5 hp
 obtain ⟨a5, l5, c5, f5, er5, rfl, hS5, q0, q1, q2, HB5, HL5⟩ := lFq hp HG3.out (gRf _ _) HR3.out
 clear hp
 go_wp2_with fail
 exact eLq (fun w z0 z1 => by simp [results, Tryz.results32, go_sem, z0, z1]) rfl HB5.out HL5.out
theorem gathers_59a {W : World} {n : Int} {ta ra da : Option Addr} {tl tc rl rc dl dc : Nat} {dk dn dp : Int} {ds : ByteArray} {s types : List Ty} {sv : Value} (hs : RowC W s sv) (hT : RowC W types (.slice ta tl tc)) (hc : sFq s [6] = true) (hgd : s.all gYq = true) (hn : s.length <= 1000) :
 Calls Tryz.prog 32 #[insV 59 n ta tl tc ra rl rc dk dn dp ds da dl dc, sv] W (LPq (pFq (s.drop 1) [(.nd 4 [])]) W) := by
 obtain ⟨sa, sl, sc, e1⟩ := hs.form3
 subst e1
 unfold insV
 obtain ⟨hg3, hI3, hR3⟩ := start2 W (.cells #[.int .i64 59, .int .i64 n, .slice ta tl tc, .slice ra rl rc, .int .i64 dk, .int .i64 dn, .int .i64 dp, .string ds, .slice da dl dc] 56) (.cells #[.slice none 0 0, .bool false] 27)
 have hs3 := hs.grow hg3
 have hT3 := hT.grow hg3
 have hlen : 1 <= s.length := slq hc
 obtain ⟨hsl, hsc, _⟩ := hs3.len
 obtain ⟨b, o, t0, a0, l0, k0, rfl, x0a, x0b, hA0⟩ := hs3.at 0 (by omega)
 have HA0 := jh hA0
 have bz1 : (1 : Int) <= (sl : Int) := by omega
 have by0 : 0 < sl := by omega
 have b1 : (sl : Int) <= (sc : Int) := by omega
 have HSL := jh hsl
 have HG3 := jh hg3
 have HI3 := jh hI3
 have HR3 := jh hR3
 have HS3 := jh hs3
 have HLEN := jh hlen
 simp only [Nat.reduceMul, Nat.reduceAdd, Nat.add_zero, Nat.mul_zero, Nat.zero_add] at x0a x0b
 obtain ⟨i0, i1, i2, i3, _⟩ := box9 hI3
 clear hg3 hI3 hR3 hs hs3 hT hT3 hsl hlen hgd hA0
 go_enter Tryz.func32, Tryz.ntmps32
 go_wp2_with fail
 generalize (W.alloc _).alloc _ = W3 at *
 have yx0a := fun (w' : World) (h : W3.grownBy w' none) => kNq h x0a
 have yx0b := fun (w' : World) (h : W3.grownBy w' none) => kNq h x0b
 have yi0 := fun (w' : World) (h : W3.grownBy w' none) => kNq h i0
 have yi2 := fun (w' : World) (h : W3.grownBy w' none) => kNq h i2
 have hS0 : W3.grownBy W3 none := gRf _ _
 refine wp_region_held_drew (S := fun w' => W3.grownBy w' none) (by kernel_rfl) ?_ (fun hHeld => ?_)
 ·exact gDr (gRf _ _)
 refine rGq 0 26 ?_
 refine rGq 1 27 ?_
 refine rGq 2 28 ?_
 refine rGq 3 29 ?_
 refine rNq 4 30 ?_
 refine rNq 5 31 ?_
 refine rNq 6 32 ?_
 refine rGq 7 33 ?_
 refine rGq 8 34 ?_
 refine rNq 9 35 ?_
 refine rNq 10 36 ?_
 refine rNq 11 37 ?_
 refine rNq 12 38 ?_
 refine rNq 13 39 ?_
 refine rNq 14 40 ?_
 refine rNq 15 41 ?_
 refine rNq 16 42 ?_
 refine rNq 17 43 ?_
 refine rNq 18 44 ?_
 refine rGq 19 45 ?_
 refine rGq 20 25 ?_
 refine wpAnyH_done (by kernel_rfl) ?_ _
 clear hHeld
 clear yx0a yx0b yi0 yi2 hS0
 have hg : W3.grownBy W3.drew none := gDr (gRf _ _)
 replace x0a := kNq hg x0a
 replace x0b := kNq hg x0b
 replace i0 := kNq hg i0
 replace i2 := kNq hg i2
 replace HI3 := bCq HI3 hg
 replace HR3 := bCq HR3 hg
 replace HS3 := rCq HS3 hg
 replace HG3 := gCq HG3 hg
 replace HA0 := tCq HA0 hg
 clear hg
 generalize W3.drew = wd0 at *
 go_wp2_with fail
 have hg := gBq (w := wd0) (.cells #[.int .i64 6] 3)
 have hK3 := heap_alloc_new wd0 (.cells #[.int .i64 6] 3)
 have HST := jh (sTq (ks := [6]) (kc := 1) (HS3.out.grow hg) (kinds1 hK3) (by decide))
 rw [hc] at HST
 refine HST.out.mono ?_; rintro e w2 ⟨rfl, rfl⟩
 clear HST hK3
 replace x0a := kNq hg x0a
 replace x0b := kNq hg x0b
 replace i0 := kNq hg i0
 replace i2 := kNq hg i2
 replace HI3 := bCq HI3 hg
 replace HR3 := bCq HR3 hg
 replace HS3 := rCq HS3 hg
 replace HG3 := gCq HG3 hg
 replace HA0 := tCq HA0 hg
 clear hg
 generalize wd0.alloc _ = wk at *
 have yx0a := fun (w' : World) (h : wk.grownBy w' (some (W.heap.size + 1))) => kDq HR3.out h x0a x0a
 have yx0b := fun (w' : World) (h : wk.grownBy w' (some (W.heap.size + 1))) => kDq HR3.out h x0a x0b
 have hS3 : wk.grownBy wk (some (W.heap.size + 1)) := gRf _ _
 rcases (show (sc = 1 /\ sl = 1) \/ (¬ sc = 1 /\ ¬ sc - 1 = 0) by omega) with ⟨rfl, rfl⟩ | ⟨hc2, hc3⟩
 have HD := jh (HS3.out.dropAll 1 (by have := HSL.out; omega) (some ⟨b, o, none⟩) 0)
 rotate_left
 have HD := jh (HS3.out.drop 1 (by have := HLEN.out; omega))
 all_goals
  go_wp2_with fail
  go_region_held3 (fun w' => wk.grownBy w' (some (W.heap.size + 1))) (first | with_reducible assumption | with_reducible exact gDr (gRf _ _) | with_reducible exact grow_setR (by assumption) | with_reducible exact gTr (by assumption) (gAq (gBq _)) | with_reducible exact gDr (gAq (gBq _))) (first
   | (go_at_call 54; refine (of_any 4 _ _ _ _).mono ?_; rintro e w10 ⟨rfl, hg⟩; have HU0 := jh (LiesT.oq (t := 4) ⟨by decide, by decide⟩ (RowC.grow (RowC.nil _ none 0) (undrew hg))); have HG10 : Hid (wk.grownBy w10 none) := gTq (gRf _ _) (undrew hg); have hS : wk.grownBy w10 (some (W.heap.size + 1)) := gAq HG10.out; clear hg)
   | (go_at_call 51; have hprev := HG10.out; clear hprev; refine (pAq (HD.out.grow (gTq HG10.out (gBq _))) (RowC.one (heap_alloc_new w10 _) (HU0.out.same (sAl (gBq _)))) (by simp; omega)).mono ?_; rintro e w5 hp; obtain ⟨a5, l5, c5, f5, er5, rfl, hS5, q0, q1, q2, HB5, HL5⟩ := lFq hp HG3.out (gTq HG10.out (gBq _)) HR3.out; clear hp))
  go_wp2_with fail
  exact eLq (fun w z0 z1 => by simp [results, Tryz.results32, go_sem, z0, z1]) rfl HB5.out HL5.out
theorem gathers_59b {W : World} {n : Int} {ta ra da : Option Addr} {tl tc rl rc dl dc : Nat} {dk dn dp : Int} {ds : ByteArray} {s types : List Ty} {sv : Value} (hs : RowC W s sv) (hT : RowC W types (.slice ta tl tc)) (hc : sFq s [10] = true) (hf0 : sFq s [6] = false) (hgd : s.all gYq = true) (hn : s.length <= 1000) :
 Calls Tryz.prog 32 #[insV 59 n ta tl tc ra rl rc dk dn dp ds da dl dc, sv] W (LPq (pFq (s.drop 1) [(.nd 4 [])]) W) := by
 obtain ⟨sa, sl, sc, e1⟩ := hs.form3
 subst e1
 unfold insV
 obtain ⟨hg3, hI3, hR3⟩ := start2 W (.cells #[.int .i64 59, .int .i64 n, .slice ta tl tc, .slice ra rl rc, .int .i64 dk, .int .i64 dn, .int .i64 dp, .string ds, .slice da dl dc] 56) (.cells #[.slice none 0 0, .bool false] 27)
 have hs3 := hs.grow hg3
 have hT3 := hT.grow hg3
 have hlen : 1 <= s.length := slq hc
 obtain ⟨hsl, hsc, _⟩ := hs3.len
 obtain ⟨b, o, t0, a0, l0, k0, rfl, x0a, x0b, hA0⟩ := hs3.at 0 (by omega)
 have HA0 := jh hA0
 have bz1 : (1 : Int) <= (sl : Int) := by omega
 have by0 : 0 < sl := by omega
 have b1 : (sl : Int) <= (sc : Int) := by omega
 have HSL := jh hsl
 have HG3 := jh hg3
 have HI3 := jh hI3
 have HR3 := jh hR3
 have HS3 := jh hs3
 have HLEN := jh hlen
 simp only [Nat.reduceMul, Nat.reduceAdd, Nat.add_zero, Nat.mul_zero, Nat.zero_add] at x0a x0b
 obtain ⟨i0, i1, i2, i3, _⟩ := box9 hI3
 clear hg3 hI3 hR3 hs hs3 hT hT3 hsl hlen hgd hA0
 go_enter Tryz.func32, Tryz.ntmps32
 go_wp2_with fail
 generalize (W.alloc _).alloc _ = W3 at *
 have yx0a := fun (w' : World) (h : W3.grownBy w' none) => kNq h x0a
 have yx0b := fun (w' : World) (h : W3.grownBy w' none) => kNq h x0b
 have yi0 := fun (w' : World) (h : W3.grownBy w' none) => kNq h i0
 have yi2 := fun (w' : World) (h : W3.grownBy w' none) => kNq h i2
 have hS0 : W3.grownBy W3 none := gRf _ _
 refine wp_region_held_drew (S := fun w' => W3.grownBy w' none) (by kernel_rfl) ?_ (fun hHeld => ?_)
 ·exact gDr (gRf _ _)
 refine rGq 0 26 ?_
 refine rGq 1 27 ?_
 refine rGq 2 28 ?_
 refine rGq 3 29 ?_
 refine rNq 4 30 ?_
 refine rNq 5 31 ?_
 refine rNq 6 32 ?_
 refine rGq 7 33 ?_
 refine rGq 8 34 ?_
 refine rNq 9 35 ?_
 refine rNq 10 36 ?_
 refine rNq 11 37 ?_
 refine rNq 12 38 ?_
 refine rNq 13 39 ?_
 refine rNq 14 40 ?_
 refine rNq 15 41 ?_
 refine rNq 16 42 ?_
 refine rNq 17 43 ?_
 refine rNq 18 44 ?_
 refine rGq 19 45 ?_
 refine rGq 20 25 ?_
 refine wpAnyH_done (by kernel_rfl) ?_ _
 clear hHeld
 clear yx0a yx0b yi0 yi2 hS0
 have hg : W3.grownBy W3.drew none := gDr (gRf _ _)
 replace x0a := kNq hg x0a
 replace x0b := kNq hg x0b
 replace i0 := kNq hg i0
 replace i2 := kNq hg i2
 replace HI3 := bCq HI3 hg
 replace HR3 := bCq HR3 hg
 replace HS3 := rCq HS3 hg
 replace HG3 := gCq HG3 hg
 replace HA0 := tCq HA0 hg
 clear hg
 generalize W3.drew = wd0 at *
 go_wp2_with fail
 have hg := gBq (w := wd0) (.cells #[.int .i64 6] 3)
 have hK3 := heap_alloc_new wd0 (.cells #[.int .i64 6] 3)
 have HST := jh (sTq (ks := [6]) (kc := 1) (HS3.out.grow hg) (kinds1 hK3) (by decide))
 rw [hf0] at HST
 refine HST.out.mono ?_; rintro e w1 ⟨rfl, rfl⟩
 clear HST hK3
 replace x0a := kNq hg x0a
 replace x0b := kNq hg x0b
 replace i0 := kNq hg i0
 replace i2 := kNq hg i2
 replace HI3 := bCq HI3 hg
 replace HR3 := bCq HR3 hg
 replace HS3 := rCq HS3 hg
 replace HG3 := gCq HG3 hg
 replace HA0 := tCq HA0 hg
 clear hg
 generalize wd0.alloc _ = wa0 at *
 go_wp2_with fail
 have hg := gBq (w := wa0) (.cells #[.int .i64 10] 3)
 have hK3 := heap_alloc_new wa0 (.cells #[.int .i64 10] 3)
 have HST := jh (sTq (ks := [10]) (kc := 1) (HS3.out.grow hg) (kinds1 hK3) (by decide))
 rw [hc] at HST
 refine HST.out.mono ?_; rintro e w2 ⟨rfl, rfl⟩
 clear HST hK3
 replace x0a := kNq hg x0a
 replace x0b := kNq hg x0b
 replace i0 := kNq hg i0
 replace i2 := kNq hg i2
 replace HI3 := bCq HI3 hg
 replace HR3 := bCq HR3 hg
 replace HS3 := rCq HS3 hg
 replace HG3 := gCq HG3 hg
 replace HA0 := tCq HA0 hg
 clear hg
 generalize wa0.alloc _ = wk at *
 have yx0a := fun (w' : World) (h : wk.grownBy w' (some (W.heap.size + 1))) => kDq HR3.out h x0a x0a
 have yx0b := fun (w' : World) (h : wk.grownBy w' (some (W.heap.size + 1))) => kDq HR3.out h x0a x0b
 have hS3 : wk.grownBy wk (some (W.heap.size + 1)) := gRf _ _
 rcases (show (sc = 1 /\ sl = 1) \/ (¬ sc = 1 /\ ¬ sc - 1 = 0) by omega) with ⟨rfl, rfl⟩ | ⟨hc2, hc3⟩
 have HD := jh (HS3.out.dropAll 1 (by have := HSL.out; omega) (some ⟨b, o, none⟩) 0)
 rotate_left
 have HD := jh (HS3.out.drop 1 (by have := HLEN.out; omega))
 all_goals
  go_wp2_with fail
  go_region_held3 (fun w' => wk.grownBy w' (some (W.heap.size + 1))) (first | with_reducible assumption | with_reducible exact gDr (gRf _ _) | with_reducible exact grow_setR (by assumption) | with_reducible exact gTr (by assumption) (gAq (gBq _)) | with_reducible exact gDr (gAq (gBq _))) (first
   | (go_at_call 54; refine (of_any 4 _ _ _ _).mono ?_; rintro e w10 ⟨rfl, hg⟩; have HU0 := jh (LiesT.oq (t := 4) ⟨by decide, by decide⟩ (RowC.grow (RowC.nil _ none 0) (undrew hg))); have HG10 : Hid (wk.grownBy w10 none) := gTq (gRf _ _) (undrew hg); have hS : wk.grownBy w10 (some (W.heap.size + 1)) := gAq HG10.out; clear hg)
   | (go_at_call 51; have hprev := HG10.out; clear hprev; refine (pAq (HD.out.grow (gTq HG10.out (gBq _))) (RowC.one (heap_alloc_new w10 _) (HU0.out.same (sAl (gBq _)))) (by simp; omega)).mono ?_; rintro e w5 hp; obtain ⟨a5, l5, c5, f5, er5, rfl, hS5, q0, q1, q2, HB5, HL5⟩ := lFq hp HG3.out (gTq HG10.out (gBq _)) HR3.out; clear hp))
  go_wp2_with fail
  exact eLq (fun w z0 z1 => by simp [results, Tryz.results32, go_sem, z0, z1]) rfl HB5.out HL5.out
theorem gathers_59c {W : World} {n : Int} {ta ra da : Option Addr} {tl tc rl rc dl dc : Nat} {dk dn dp : Int} {ds : ByteArray} {s types : List Ty} {sv : Value} (hs : RowC W s sv) (hT : RowC W types (.slice ta tl tc)) (hc : sFq s [13] = true) (hf0 : sFq s [6] = false) (hf1 : sFq s [10] = false) (hgd : s.all gYq = true) (hn : s.length <= 1000) :
 Calls Tryz.prog 32 #[insV 59 n ta tl tc ra rl rc dk dn dp ds da dl dc, sv] W (LPq (pFq (s.drop 1) [(.nd 4 [])]) W) := by
 obtain ⟨sa, sl, sc, e1⟩ := hs.form3
 subst e1
 unfold insV
 obtain ⟨hg3, hI3, hR3⟩ := start2 W (.cells #[.int .i64 59, .int .i64 n, .slice ta tl tc, .slice ra rl rc, .int .i64 dk, .int .i64 dn, .int .i64 dp, .string ds, .slice da dl dc] 56) (.cells #[.slice none 0 0, .bool false] 27)
 have hs3 := hs.grow hg3
 have hT3 := hT.grow hg3
 have hlen : 1 <= s.length := slq hc
 obtain ⟨hsl, hsc, _⟩ := hs3.len
 obtain ⟨b, o, t0, a0, l0, k0, rfl, x0a, x0b, hA0⟩ := hs3.at 0 (by omega)
 have HA0 := jh hA0
 have bz1 : (1 : Int) <= (sl : Int) := by omega
 have by0 : 0 < sl := by omega
 have b1 : (sl : Int) <= (sc : Int) := by omega
 have HSL := jh hsl
 have HG3 := jh hg3
 have HI3 := jh hI3
 have HR3 := jh hR3
 have HS3 := jh hs3
 have HLEN := jh hlen
 simp only [Nat.reduceMul, Nat.reduceAdd, Nat.add_zero, Nat.mul_zero, Nat.zero_add] at x0a x0b
 obtain ⟨i0, i1, i2, i3, _⟩ := box9 hI3
 clear hg3 hI3 hR3 hs hs3 hT hT3 hsl hlen hgd hA0
 go_enter Tryz.func32, Tryz.ntmps32
 go_wp2_with fail
 generalize (W.alloc _).alloc _ = W3 at *
 have yx0a := fun (w' : World) (h : W3.grownBy w' none) => kNq h x0a
 have yx0b := fun (w' : World) (h : W3.grownBy w' none) => kNq h x0b
 have yi0 := fun (w' : World) (h : W3.grownBy w' none) => kNq h i0
 have yi2 := fun (w' : World) (h : W3.grownBy w' none) => kNq h i2
 have hS0 : W3.grownBy W3 none := gRf _ _
 refine wp_region_held_drew (S := fun w' => W3.grownBy w' none) (by kernel_rfl) ?_ (fun hHeld => ?_)
 ·exact gDr (gRf _ _)
 refine rGq 0 26 ?_
 refine rGq 1 27 ?_
 refine rGq 2 28 ?_
 refine rGq 3 29 ?_
 refine rNq 4 30 ?_
 refine rNq 5 31 ?_
 refine rNq 6 32 ?_
 refine rGq 7 33 ?_
 refine rGq 8 34 ?_
 refine rNq 9 35 ?_
 refine rNq 10 36 ?_
 refine rNq 11 37 ?_
 refine rNq 12 38 ?_
 refine rNq 13 39 ?_
 refine rNq 14 40 ?_
 refine rNq 15 41 ?_
 refine rNq 16 42 ?_
 refine rNq 17 43 ?_
 refine rNq 18 44 ?_
 refine rGq 19 45 ?_
 refine rGq 20 25 ?_
 refine wpAnyH_done (by kernel_rfl) ?_ _
 clear hHeld
 clear yx0a yx0b yi0 yi2 hS0
 have hg : W3.grownBy W3.drew none := gDr (gRf _ _)
 replace x0a := kNq hg x0a
 replace x0b := kNq hg x0b
 replace i0 := kNq hg i0
 replace i2 := kNq hg i2
 replace HI3 := bCq HI3 hg
 replace HR3 := bCq HR3 hg
 replace HS3 := rCq HS3 hg
 replace HG3 := gCq HG3 hg
 replace HA0 := tCq HA0 hg
 clear hg
 generalize W3.drew = wd0 at *
 go_wp2_with fail
 have hg := gBq (w := wd0) (.cells #[.int .i64 6] 3)
 have hK3 := heap_alloc_new wd0 (.cells #[.int .i64 6] 3)
 have HST := jh (sTq (ks := [6]) (kc := 1) (HS3.out.grow hg) (kinds1 hK3) (by decide))
 rw [hf0] at HST
 refine HST.out.mono ?_; rintro e w1 ⟨rfl, rfl⟩
 clear HST hK3
 replace x0a := kNq hg x0a
 replace x0b := kNq hg x0b
 replace i0 := kNq hg i0
 replace i2 := kNq hg i2
 replace HI3 := bCq HI3 hg
 replace HR3 := bCq HR3 hg
 replace HS3 := rCq HS3 hg
 replace HG3 := gCq HG3 hg
 replace HA0 := tCq HA0 hg
 clear hg
 generalize wd0.alloc _ = wa0 at *
 go_wp2_with fail
 have hg := gBq (w := wa0) (.cells #[.int .i64 10] 3)
 have hK3 := heap_alloc_new wa0 (.cells #[.int .i64 10] 3)
 have HST := jh (sTq (ks := [10]) (kc := 1) (HS3.out.grow hg) (kinds1 hK3) (by decide))
 rw [hf1] at HST
 refine HST.out.mono ?_; rintro e w1 ⟨rfl, rfl⟩
 clear HST hK3
 replace x0a := kNq hg x0a
 replace x0b := kNq hg x0b
 replace i0 := kNq hg i0
 replace i2 := kNq hg i2
 replace HI3 := bCq HI3 hg
 replace HR3 := bCq HR3 hg
 replace HS3 := rCq HS3 hg
 replace HG3 := gCq HG3 hg
 replace HA0 := tCq HA0 hg
 clear hg
 generalize wa0.alloc _ = wa1 at *
 go_wp2_with fail
 have hg := gBq (w := wa1) (.cells #[.int .i64 13] 3)
 have hK3 := heap_alloc_new wa1 (.cells #[.int .i64 13] 3)
 have HST := jh (sTq (ks := [13]) (kc := 1) (HS3.out.grow hg) (kinds1 hK3) (by decide))
 rw [hc] at HST
 refine HST.out.mono ?_; rintro e w2 ⟨rfl, rfl⟩
 clear HST hK3
 replace x0a := kNq hg x0a
 replace x0b := kNq hg x0b
 replace i0 := kNq hg i0
 replace i2 := kNq hg i2
 replace HI3 := bCq HI3 hg
 replace HR3 := bCq HR3 hg
 replace HS3 := rCq HS3 hg
 replace HG3 := gCq HG3 hg
 replace HA0 := tCq HA0 hg
 clear hg
 generalize wa1.alloc _ = wk at *
 have yx0a := fun (w' : World) (h : wk.grownBy w' (some (W.heap.size + 1))) => kDq HR3.out h x0a x0a
 have yx0b := fun (w' : World) (h : wk.grownBy w' (some (W.heap.size + 1))) => kDq HR3.out h x0a x0b
 have hS3 : wk.grownBy wk (some (W.heap.size + 1)) := gRf _ _
 rcases (show (sc = 1 /\ sl = 1) \/ (¬ sc = 1 /\ ¬ sc - 1 = 0) by omega) with ⟨rfl, rfl⟩ | ⟨hc2, hc3⟩
 have HD := jh (HS3.out.dropAll 1 (by have := HSL.out; omega) (some ⟨b, o, none⟩) 0)
 rotate_left
 have HD := jh (HS3.out.drop 1 (by have := HLEN.out; omega))
 all_goals
  go_wp2_with fail
  go_region_held3 (fun w' => wk.grownBy w' (some (W.heap.size + 1))) (first | with_reducible assumption | with_reducible exact gDr (gRf _ _) | with_reducible exact grow_setR (by assumption) | with_reducible exact gTr (by assumption) (gAq (gBq _)) | with_reducible exact gDr (gAq (gBq _))) (first
   | (go_at_call 54; refine (of_any 4 _ _ _ _).mono ?_; rintro e w10 ⟨rfl, hg⟩; have HU0 := jh (LiesT.oq (t := 4) ⟨by decide, by decide⟩ (RowC.grow (RowC.nil _ none 0) (undrew hg))); have HG10 : Hid (wk.grownBy w10 none) := gTq (gRf _ _) (undrew hg); have hS : wk.grownBy w10 (some (W.heap.size + 1)) := gAq HG10.out; clear hg)
   | (go_at_call 51; have hprev := HG10.out; clear hprev; refine (pAq (HD.out.grow (gTq HG10.out (gBq _))) (RowC.one (heap_alloc_new w10 _) (HU0.out.same (sAl (gBq _)))) (by simp; omega)).mono ?_; rintro e w5 hp; obtain ⟨a5, l5, c5, f5, er5, rfl, hS5, q0, q1, q2, HB5, HL5⟩ := lFq hp HG3.out (gTq HG10.out (gBq _)) HR3.out; clear hp))
  go_wp2_with fail
  exact eLq (fun w z0 z1 => by simp [results, Tryz.results32, go_sem, z0, z1]) rfl HB5.out HL5.out
theorem gathers_59n {W : World} {n : Int} {ta ra da : Option Addr} {tl tc rl rc dl dc : Nat} {dk dn dp : Int} {ds : ByteArray} {s types : List Ty} {sv : Value} (hs : RowC W s sv) (hT : RowC W types (.slice ta tl tc)) (hc : sFq s [13] = false) (hf0 : sFq s [6] = false) (hf1 : sFq s [10] = false) (hgd : s.all gYq = true) (hn : s.length <= 1000) :
 Calls Tryz.prog 32 #[insV 59 n ta tl tc ra rl rc dk dn dp ds da dl dc, sv] W (LPq (.no 5) W) := by
 obtain ⟨sa, sl, sc, e1⟩ := hs.form3
 subst e1
 unfold insV
 obtain ⟨hg3, hI3, hR3⟩ := start2 W (.cells #[.int .i64 59, .int .i64 n, .slice ta tl tc, .slice ra rl rc, .int .i64 dk, .int .i64 dn, .int .i64 dp, .string ds, .slice da dl dc] 56) (.cells #[.slice none 0 0, .bool false] 27)
 have hs3 := hs.grow hg3
 have hT3 := hT.grow hg3
 have hlen : 0 <= s.length := Nat.zero_le _
 obtain ⟨hsl, hsc, _⟩ := hs3.len
 have b1 : (sl : Int) <= (sc : Int) := by omega
 have HSL := jh hsl
 have HG3 := jh hg3
 have HI3 := jh hI3
 have HR3 := jh hR3
 have HS3 := jh hs3
 have HLEN := jh hlen
 obtain ⟨i0, i1, i2, i3, _⟩ := box9 hI3
 clear hg3 hI3 hR3 hs hs3 hT hT3 hsl hlen hgd
 go_enter Tryz.func32, Tryz.ntmps32
 go_wp2_with fail
 generalize (W.alloc _).alloc _ = W3 at *
 have yi0 := fun (w' : World) (h : W3.grownBy w' none) => kNq h i0
 have yi2 := fun (w' : World) (h : W3.grownBy w' none) => kNq h i2
 have hS0 : W3.grownBy W3 none := gRf _ _
 refine wp_region_held_drew (S := fun w' => W3.grownBy w' none) (by kernel_rfl) ?_ (fun hHeld => ?_)
 ·exact gDr (gRf _ _)
 refine rGq 0 26 ?_
 refine rGq 1 27 ?_
 refine rGq 2 28 ?_
 refine rGq 3 29 ?_
 refine rNq 4 30 ?_
 refine rNq 5 31 ?_
 refine rNq 6 32 ?_
 refine rGq 7 33 ?_
 refine rGq 8 34 ?_
 refine rNq 9 35 ?_
 refine rNq 10 36 ?_
 refine rNq 11 37 ?_
 refine rNq 12 38 ?_
 refine rNq 13 39 ?_
 refine rNq 14 40 ?_
 refine rNq 15 41 ?_
 refine rNq 16 42 ?_
 refine rNq 17 43 ?_
 refine rNq 18 44 ?_
 refine rGq 19 45 ?_
 refine rGq 20 25 ?_
 refine wpAnyH_done (by kernel_rfl) ?_ _
 clear hHeld
 clear yi0 yi2 hS0
 have hg : W3.grownBy W3.drew none := gDr (gRf _ _)
 replace i0 := kNq hg i0
 replace i2 := kNq hg i2
 replace HI3 := bCq HI3 hg
 replace HR3 := bCq HR3 hg
 replace HS3 := rCq HS3 hg
 replace HG3 := gCq HG3 hg
 clear hg
 generalize W3.drew = wd0 at *
 go_wp2_with fail
 have hg := gBq (w := wd0) (.cells #[.int .i64 6] 3)
 have hK3 := heap_alloc_new wd0 (.cells #[.int .i64 6] 3)
 have HST := jh (sTq (ks := [6]) (kc := 1) (HS3.out.grow hg) (kinds1 hK3) (by decide))
 rw [hf0] at HST
 refine HST.out.mono ?_; rintro e w1 ⟨rfl, rfl⟩
 clear HST hK3
 replace i0 := kNq hg i0
 replace i2 := kNq hg i2
 replace HI3 := bCq HI3 hg
 replace HR3 := bCq HR3 hg
 replace HS3 := rCq HS3 hg
 replace HG3 := gCq HG3 hg
 clear hg
 generalize wd0.alloc _ = wa0 at *
 go_wp2_with fail
 have hg := gBq (w := wa0) (.cells #[.int .i64 10] 3)
 have hK3 := heap_alloc_new wa0 (.cells #[.int .i64 10] 3)
 have HST := jh (sTq (ks := [10]) (kc := 1) (HS3.out.grow hg) (kinds1 hK3) (by decide))
 rw [hf1] at HST
 refine HST.out.mono ?_; rintro e w1 ⟨rfl, rfl⟩
 clear HST hK3
 replace i0 := kNq hg i0
 replace i2 := kNq hg i2
 replace HI3 := bCq HI3 hg
 replace HR3 := bCq HR3 hg
 replace HS3 := rCq HS3 hg
 replace HG3 := gCq HG3 hg
 clear hg
 generalize wa0.alloc _ = wa1 at *
 go_wp2_with fail
 have hg := gBq (w := wa1) (.cells #[.int .i64 13] 3)
 have hK3 := heap_alloc_new wa1 (.cells #[.int .i64 13] 3)
 have HST := jh (sTq (ks := [13]) (kc := 1) (HS3.out.grow hg) (kinds1 hK3) (by decide))
 rw [hc] at HST
 refine HST.out.mono ?_; rintro e w2 ⟨rfl, rfl⟩
 clear HST hK3
 replace i0 := kNq hg i0
 replace i2 := kNq hg i2
 replace HI3 := bCq HI3 hg
 replace HR3 := bCq HR3 hg
 replace HS3 := rCq HS3 hg
 replace HG3 := gCq HG3 hg
 clear hg
 generalize wa1.alloc _ = wk at *
 have hS3 : wk.grownBy wk (some (W.heap.size + 1)) := gRf _ _
 go_wp2_with fail
 refine (rLq 5 (by decide) _).mono ?_
 rintro e w5 hp
 obtain ⟨a5, l5, c5, f5, er5, rfl, hS5, q0, q1, q2, HB5, HL5⟩ := lFq hp HG3.out (gRf _ _) HR3.out
 clear hp
 go_wp2_with fail
 exact eLq (fun w z0 z1 => by simp [results, Tryz.results32, go_sem, z0, z1]) rfl HB5.out HL5.out
theorem gathers_62 {W : World} {n : Int} {ta ra da : Option Addr} {tl tc rl rc dl dc : Nat} {dk dn dp : Int} {ds : ByteArray} {s types : List Ty} {sv : Value} (hs : RowC W s sv) (hT : RowC W types (.slice ta tl tc)) (hc : sFq s [0, 13] = true) (ht0 : sameT (tAq s 0) (tAq (tAq s 1).args 0) = true) (hz0 : (tAq s 0).size <= 50000000) (ht1 : copyT (tAq (tAq s 1).args 1) = true) (hz1 : (tAq (tAq s 1).args 1).size <= 50000000) (hgd : s.all gYq = true) (hn : s.length <= 1000) :
 Calls Tryz.prog 32 #[insV 62 n ta tl tc ra rl rc dk dn dp ds da dl dc, sv] W (LPq (pFq (s.drop 2) [(.nd 9 [(tAq (tAq s 1).args 1)])]) W) := by
 obtain ⟨sa, sl, sc, e1⟩ := hs.form3
 subst e1
 unfold insV
 obtain ⟨hg3, hI3, hR3⟩ := start2 W (.cells #[.int .i64 62, .int .i64 n, .slice ta tl tc, .slice ra rl rc, .int .i64 dk, .int .i64 dn, .int .i64 dp, .string ds, .slice da dl dc] 56) (.cells #[.slice none 0 0, .bool false] 27)
 have hs3 := hs.grow hg3
 have hT3 := hT.grow hg3
 have hlen : 2 <= s.length := slq hc
 obtain ⟨hsl, hsc, _⟩ := hs3.len
 obtain ⟨b, o, t0, a0, l0, k0, rfl, x0a, x0b, hA0⟩ := hs3.at 0 (by omega)
 have HA0 := jh hA0
 obtain ⟨_, _, t1, a1, l1, k1, eb, x1a, x1b, hA1⟩ := hs3.at 1 (by omega)
 simp only [Option.some.injEq, Addr.mk.injEq, and_true] at eb
 obtain ⟨rfl, rfl⟩ := eb
 have HA1 := jh hA1
 have hq1 : (tAq s 1).args.length = 2 := cAq hc hgd 1 13 2 rfl (by decide) (by decide)
 obtain ⟨_, hr1⟩ := hA1.args
 obtain ⟨el1, ec1, _⟩ := hr1.len
 rw [hq1] at el1 ec1
 subst el1
 have HQ1 := jh hr1
 have HQL := jh hq1
 obtain ⟨nb1, no1, t10, a10, l10, k10, rfl, x10a, x10b, hA10⟩ := hr1.at 0 (by omega)
 have HA10 := jh hA10
 obtain ⟨_, _, t11, a11, l11, k11, eb, x11a, x11b, hA11⟩ := hr1.at 1 (by omega)
 simp only [Option.some.injEq, Addr.mk.injEq, and_true] at eb
 obtain ⟨rfl, rfl⟩ := eb
 have HA11 := jh hA11
 have bz1 : (1 : Int) <= (sl : Int) := by omega
 have by0 : 0 < sl := by omega
 have bz2 : (2 : Int) <= (sl : Int) := by omega
 have by1 : (1 : Int) < (sl : Int) := by omega
 have b1 : (sl : Int) <= (sc : Int) := by omega
 have HSL := jh hsl
 have HG3 := jh hg3
 have HI3 := jh hI3
 have HR3 := jh hR3
 have HS3 := jh hs3
 have HLEN := jh hlen
 simp only [Nat.reduceMul, Nat.reduceAdd, Nat.add_zero, Nat.mul_zero, Nat.zero_add] at x0a x0b x1a x1b x10a x10b x11a x11b
 obtain ⟨i0, i1, i2, i3, _⟩ := box9 hI3
 clear hg3 hI3 hR3 hs hs3 hT hT3 hsl hlen hgd hA0 hA1 hr1 hq1 hA10 hA11
 go_enter Tryz.func32, Tryz.ntmps32
 go_wp2_with fail
 generalize (W.alloc _).alloc _ = W3 at *
 have yx0a := fun (w' : World) (h : W3.grownBy w' none) => kNq h x0a
 have yx0b := fun (w' : World) (h : W3.grownBy w' none) => kNq h x0b
 have yx1a := fun (w' : World) (h : W3.grownBy w' none) => kNq h x1a
 have yx1b := fun (w' : World) (h : W3.grownBy w' none) => kNq h x1b
 have yx10a := fun (w' : World) (h : W3.grownBy w' none) => kNq h x10a
 have yx10b := fun (w' : World) (h : W3.grownBy w' none) => kNq h x10b
 have yx11a := fun (w' : World) (h : W3.grownBy w' none) => kNq h x11a
 have yx11b := fun (w' : World) (h : W3.grownBy w' none) => kNq h x11b
 have yi0 := fun (w' : World) (h : W3.grownBy w' none) => kNq h i0
 have yi2 := fun (w' : World) (h : W3.grownBy w' none) => kNq h i2
 have hS0 : W3.grownBy W3 none := gRf _ _
 refine wp_region_held_drew (S := fun w' => W3.grownBy w' none) (by kernel_rfl) ?_ (fun hHeld => ?_)
 ·exact gDr (gRf _ _)
 refine rGq 0 26 ?_
 refine rGq 1 27 ?_
 refine rGq 2 28 ?_
 refine rGq 3 29 ?_
 refine rNq 4 30 ?_
 refine rNq 5 31 ?_
 refine rNq 6 32 ?_
 refine rGq 7 33 ?_
 refine rGq 8 34 ?_
 refine rNq 9 35 ?_
 refine rNq 10 36 ?_
 refine rNq 11 37 ?_
 refine rNq 12 38 ?_
 refine rNq 13 39 ?_
 refine rNq 14 40 ?_
 refine rNq 15 41 ?_
 refine rNq 16 42 ?_
 refine rNq 17 43 ?_
 refine rNq 18 44 ?_
 refine rGq 19 45 ?_
 refine rGq 20 25 ?_
 refine wpAnyH_done (by kernel_rfl) ?_ _
 clear hHeld
 clear yx0a yx0b yx1a yx1b yx10a yx10b yx11a yx11b yi0 yi2 hS0
 have hg : W3.grownBy W3.drew none := gDr (gRf _ _)
 replace x0a := kNq hg x0a
 replace x0b := kNq hg x0b
 replace x1a := kNq hg x1a
 replace x1b := kNq hg x1b
 replace x10a := kNq hg x10a
 replace x10b := kNq hg x10b
 replace x11a := kNq hg x11a
 replace x11b := kNq hg x11b
 replace i0 := kNq hg i0
 replace i2 := kNq hg i2
 replace HI3 := bCq HI3 hg
 replace HR3 := bCq HR3 hg
 replace HS3 := rCq HS3 hg
 replace HG3 := gCq HG3 hg
 replace HA0 := tCq HA0 hg
 replace HA1 := tCq HA1 hg
 replace HA10 := tCq HA10 hg
 replace HA11 := tCq HA11 hg
 replace HQ1 := rCq HQ1 hg
 clear hg
 generalize W3.drew = wd0 at *
 go_wp2_with fail
 have hg := gBq (w := wd0) (.cells #[.int .i64 0, .int .i64 13] 3)
 have hK3 := heap_alloc_new wd0 (.cells #[.int .i64 0, .int .i64 13] 3)
 have HST := jh (sTq (ks := [0, 13]) (kc := 2) (HS3.out.grow hg) (kinds2 hK3) (by decide))
 rw [hc] at HST
 refine HST.out.mono ?_; rintro e w2 ⟨rfl, rfl⟩
 clear HST hK3
 replace x0a := kNq hg x0a
 replace x0b := kNq hg x0b
 replace x1a := kNq hg x1a
 replace x1b := kNq hg x1b
 replace x10a := kNq hg x10a
 replace x10b := kNq hg x10b
 replace x11a := kNq hg x11a
 replace x11b := kNq hg x11b
 replace i0 := kNq hg i0
 replace i2 := kNq hg i2
 replace HI3 := bCq HI3 hg
 replace HR3 := bCq HR3 hg
 replace HS3 := rCq HS3 hg
 replace HG3 := gCq HG3 hg
 replace HA0 := tCq HA0 hg
 replace HA1 := tCq HA1 hg
 replace HA10 := tCq HA10 hg
 replace HA11 := tCq HA11 hg
 replace HQ1 := rCq HQ1 hg
 clear hg
 generalize wd0.alloc _ = wk at *
 go_wp2_with fail
 have yx0a := fun (w' : World) (h : wk.grownBy w' none) => kNq h x0a
 have yx0b := fun (w' : World) (h : wk.grownBy w' none) => kNq h x0b
 have yx1a := fun (w' : World) (h : wk.grownBy w' none) => kNq h x1a
 have yx1b := fun (w' : World) (h : wk.grownBy w' none) => kNq h x1b
 have yx10a := fun (w' : World) (h : wk.grownBy w' none) => kNq h x10a
 have yx10b := fun (w' : World) (h : wk.grownBy w' none) => kNq h x10b
 have yx11a := fun (w' : World) (h : wk.grownBy w' none) => kNq h x11a
 have yx11b := fun (w' : World) (h : wk.grownBy w' none) => kNq h x11b
 have yi0 := fun (w' : World) (h : wk.grownBy w' none) => kNq h i0
 have yi2 := fun (w' : World) (h : wk.grownBy w' none) => kNq h i2
 have hS0 : wk.grownBy wk none := gRf _ _
 go_cut [6, 7] (fun pv qv wx => ∃ bp bq : Nat, pv = .pointer (some ⟨bp, 0, none⟩) /\ qv = .pointer (some ⟨bq, 0, none⟩) /\ wx.heap[bp]? = some (.cells #[.int .i64 t10, .slice a10 l10 k10] 42 (0, 0)) /\ wx.heap[bq]? = some (.cells #[.int .i64 t11, .slice a11 l11 k11] 42 (0, 0)) /\ wk.grownBy wx none)
 case first =>
  go_region_held3 (fun w' => wk.grownBy w' none) (first | assumption | exact gDr (gRf _ _) | exact gDr (gBq _) | exact gDr (gTq (gBq _) (gBq _)) | exact gBq _ | exact gTq (gBq _) (gBq _)) (fail)
  all_goals
   go_wp2_with fail
   go_meet
   first
   | exact ⟨_, _, rfl, rfl, rNw _ _ _, new_two2 _ _ _, gDr (gTq (gBq _) (gBq _))⟩
   | exact ⟨_, _, rfl, rfl, new_two2 _ _ _, rNw _ _ _, gDr (gTq (gBq _) (gBq _))⟩
 clear yx0a yx0b yx1a yx1b yx10a yx10b yx11a yx11b yi0 yi2 hS0
 obtain ⟨bp, bq, rfl, rfl, hXp, hYq, hg⟩ := hcut
 replace x0a := kNq hg x0a
 replace x0b := kNq hg x0b
 replace x1a := kNq hg x1a
 replace x1b := kNq hg x1b
 replace x10a := kNq hg x10a
 replace x10b := kNq hg x10b
 replace x11a := kNq hg x11a
 replace x11b := kNq hg x11b
 replace i0 := kNq hg i0
 replace i2 := kNq hg i2
 replace HI3 := bCq HI3 hg
 replace HR3 := bCq HR3 hg
 replace HS3 := rCq HS3 hg
 replace HG3 := gCq HG3 hg
 replace HA0 := tCq HA0 hg
 replace HA1 := tCq HA1 hg
 replace HA10 := tCq HA10 hg
 replace HA11 := tCq HA11 hg
 replace HQ1 := rCq HQ1 hg
 clear hg
 have xpa := c0q hXp
 have xpb := c1q hXp
 have xqa := c0q hYq
 have xqb := c1q hYq
 clear hXp hYq
 go_wp2_with fail
 have yx0a := fun (w' : World) (h : wc.grownBy w' none) => kNq h x0a
 have yx0b := fun (w' : World) (h : wc.grownBy w' none) => kNq h x0b
 have yx1a := fun (w' : World) (h : wc.grownBy w' none) => kNq h x1a
 have yx1b := fun (w' : World) (h : wc.grownBy w' none) => kNq h x1b
 have yx10a := fun (w' : World) (h : wc.grownBy w' none) => kNq h x10a
 have yx10b := fun (w' : World) (h : wc.grownBy w' none) => kNq h x10b
 have yx11a := fun (w' : World) (h : wc.grownBy w' none) => kNq h x11a
 have yx11b := fun (w' : World) (h : wc.grownBy w' none) => kNq h x11b
 have yxpa := fun (w' : World) (h : wc.grownBy w' none) => kNq h xpa
 have yxpb := fun (w' : World) (h : wc.grownBy w' none) => kNq h xpb
 have yxqa := fun (w' : World) (h : wc.grownBy w' none) => kNq h xqa
 have yxqb := fun (w' : World) (h : wc.grownBy w' none) => kNq h xqb
 have yi0 := fun (w' : World) (h : wc.grownBy w' none) => kNq h i0
 have yi2 := fun (w' : World) (h : wc.grownBy w' none) => kNq h i2
 have hS0 : wc.grownBy wc none := gRf _ _
 first
  | (go_region_held3 (fun w' => wc.grownBy w' none) (first | with_reducible assumption | with_reducible exact gDr (gRf _ _) | with_reducible exact gTq (by assumption) (gBq _) | with_reducible exact gDr (gBq _)) (first
   | (go_at_call 52; have hprev := HGT0.out; clear hprev; refine (copied_any (HA11.out.same (sAl HGT0.out)).low hz1).mono ?_; rintro e wt1 ⟨rfl, hg⟩; rw [ht1]; have HGT1 : Hid (wc.grownBy wt1 none) := gTq HGT0.out hg; have hST1 := HGT1.out; clear hg)
   | (go_at_call 16; refine (same_any (HA0.out.same (sAl (gDr (gRf _ _)))).low (HA10.out.same (sAl (gDr (gRf _ _)))).low hz0).mono ?_; rintro e wt0 ⟨rfl, hg⟩; rw [ht0]; have HGT0 : Hid (wc.grownBy wt0 none) := gTq (gDr (gRf _ _)) hg; have hST0 := HGT0.out; clear hg)))
  | fail
 clear yx0a yx0b yx1a yx1b yx10a yx10b yx11a yx11b yxpa yxpb yxqa yxqb yi0 yi2 hS0
 have hg := HGT1.out
 replace x0a := kNq hg x0a
 replace x0b := kNq hg x0b
 replace x1a := kNq hg x1a
 replace x1b := kNq hg x1b
 replace x10a := kNq hg x10a
 replace x10b := kNq hg x10b
 replace x11a := kNq hg x11a
 replace x11b := kNq hg x11b
 replace xpa := kNq hg xpa
 replace xpb := kNq hg xpb
 replace xqa := kNq hg xqa
 replace xqb := kNq hg xqb
 replace i0 := kNq hg i0
 replace i2 := kNq hg i2
 replace HI3 := bCq HI3 hg
 replace HR3 := bCq HR3 hg
 replace HS3 := rCq HS3 hg
 replace HG3 := gCq HG3 hg
 replace HA0 := tCq HA0 hg
 replace HA1 := tCq HA1 hg
 replace HA10 := tCq HA10 hg
 replace HA11 := tCq HA11 hg
 replace HQ1 := rCq HQ1 hg
 clear hg
 clear hST0 hST1
 have yx0a := fun (w' : World) (h : wt1.grownBy w' (some (W.heap.size + 1))) => kDq HR3.out h x0a x0a
 have yx0b := fun (w' : World) (h : wt1.grownBy w' (some (W.heap.size + 1))) => kDq HR3.out h x0a x0b
 have yx1a := fun (w' : World) (h : wt1.grownBy w' (some (W.heap.size + 1))) => kDq HR3.out h x1a x1a
 have yx1b := fun (w' : World) (h : wt1.grownBy w' (some (W.heap.size + 1))) => kDq HR3.out h x1a x1b
 have yx10a := fun (w' : World) (h : wt1.grownBy w' (some (W.heap.size + 1))) => kDq HR3.out h x10a x10a
 have yx10b := fun (w' : World) (h : wt1.grownBy w' (some (W.heap.size + 1))) => kDq HR3.out h x10a x10b
 have yx11a := fun (w' : World) (h : wt1.grownBy w' (some (W.heap.size + 1))) => kDq HR3.out h x11a x11a
 have yx11b := fun (w' : World) (h : wt1.grownBy w' (some (W.heap.size + 1))) => kDq HR3.out h x11a x11b
 have yxpa := fun (w' : World) (h : wt1.grownBy w' (some (W.heap.size + 1))) => kDq HR3.out h xpa xpa
 have yxpb := fun (w' : World) (h : wt1.grownBy w' (some (W.heap.size + 1))) => kDq HR3.out h xpa xpb
 have yxqa := fun (w' : World) (h : wt1.grownBy w' (some (W.heap.size + 1))) => kDq HR3.out h xqa xqa
 have yxqb := fun (w' : World) (h : wt1.grownBy w' (some (W.heap.size + 1))) => kDq HR3.out h xqa xqb
 have hS3 : wt1.grownBy wt1 (some (W.heap.size + 1)) := gRf _ _
 rcases (show (sc = 2 /\ sl = 2) \/ (¬ sc = 2 /\ ¬ sc - 2 = 0) by omega) with ⟨rfl, rfl⟩ | ⟨hc2, hc3⟩
 have HD := jh (HS3.out.dropAll 2 (by have := HSL.out; omega) (some ⟨b, o, none⟩) 0)
 rotate_left
 have HD := jh (HS3.out.drop 2 (by have := HLEN.out; omega))
 all_goals
  go_wp2_with fail
  go_region_held3 (fun w' => wt1.grownBy w' (some (W.heap.size + 1))) (first | with_reducible assumption | with_reducible exact gDr (gRf _ _) | with_reducible exact grow_setR (by assumption) | with_reducible exact gTr (by assumption) (gAq (gBq _)) | with_reducible exact gDr (gAq (gBq _))) (first
   | (go_at_call 54; refine (of_any 9 _ _ _ _).mono ?_; rintro e w10 ⟨rfl, hg⟩; have HU0 := jh (LiesT.oq (t := 9) ⟨by decide, by decide⟩ (RowC.grow (RowC.one (heap_alloc_new wt1 _) (HA11.out.same (sAl (gBq _)))) (undrew hg))); have HG10 : Hid (wt1.grownBy w10 none) := gTq (gBq _) (undrew hg); have hS : wt1.grownBy w10 (some (W.heap.size + 1)) := gAq HG10.out; clear hg)
   | (go_at_call 51; have hprev := HG10.out; clear hprev; refine (pAq (HD.out.grow (gTq HG10.out (gBq _))) (RowC.one (heap_alloc_new w10 _) (HU0.out.same (sAl (gBq _)))) (by simp; omega)).mono ?_; rintro e w5 hp; obtain ⟨a5, l5, c5, f5, er5, rfl, hS5, q0, q1, q2, HB5, HL5⟩ := lFq hp HG3.out (gTq HG10.out (gBq _)) HR3.out; clear hp))
  go_wp2_with fail
  exact eLq (fun w z0 z1 => by simp [results, Tryz.results32, go_sem, z0, z1]) rfl HB5.out HL5.out
theorem gathers_62n {W : World} {n : Int} {ta ra da : Option Addr} {tl tc rl rc dl dc : Nat} {dk dn dp : Int} {ds : ByteArray} {s types : List Ty} {sv : Value} (hs : RowC W s sv) (hT : RowC W types (.slice ta tl tc)) (hc : sFq s [0, 13] = false) (hgd : s.all gYq = true) (hn : s.length <= 1000) :
 Calls Tryz.prog 32 #[insV 62 n ta tl tc ra rl rc dk dn dp ds da dl dc, sv] W (LPq (.no 5) W) := by
 obtain ⟨sa, sl, sc, e1⟩ := hs.form3
 subst e1
 unfold insV
 obtain ⟨hg3, hI3, hR3⟩ := start2 W (.cells #[.int .i64 62, .int .i64 n, .slice ta tl tc, .slice ra rl rc, .int .i64 dk, .int .i64 dn, .int .i64 dp, .string ds, .slice da dl dc] 56) (.cells #[.slice none 0 0, .bool false] 27)
 have hs3 := hs.grow hg3
 have hT3 := hT.grow hg3
 have hlen : 0 <= s.length := Nat.zero_le _
 obtain ⟨hsl, hsc, _⟩ := hs3.len
 have b1 : (sl : Int) <= (sc : Int) := by omega
 have HSL := jh hsl
 have HG3 := jh hg3
 have HI3 := jh hI3
 have HR3 := jh hR3
 have HS3 := jh hs3
 have HLEN := jh hlen
 obtain ⟨i0, i1, i2, i3, _⟩ := box9 hI3
 clear hg3 hI3 hR3 hs hs3 hT hT3 hsl hlen hgd
 go_enter Tryz.func32, Tryz.ntmps32
 go_wp2_with fail
 generalize (W.alloc _).alloc _ = W3 at *
 have yi0 := fun (w' : World) (h : W3.grownBy w' none) => kNq h i0
 have yi2 := fun (w' : World) (h : W3.grownBy w' none) => kNq h i2
 have hS0 : W3.grownBy W3 none := gRf _ _
 refine wp_region_held_drew (S := fun w' => W3.grownBy w' none) (by kernel_rfl) ?_ (fun hHeld => ?_)
 ·exact gDr (gRf _ _)
 refine rGq 0 26 ?_
 refine rGq 1 27 ?_
 refine rGq 2 28 ?_
 refine rGq 3 29 ?_
 refine rNq 4 30 ?_
 refine rNq 5 31 ?_
 refine rNq 6 32 ?_
 refine rGq 7 33 ?_
 refine rGq 8 34 ?_
 refine rNq 9 35 ?_
 refine rNq 10 36 ?_
 refine rNq 11 37 ?_
 refine rNq 12 38 ?_
 refine rNq 13 39 ?_
 refine rNq 14 40 ?_
 refine rNq 15 41 ?_
 refine rNq 16 42 ?_
 refine rNq 17 43 ?_
 refine rNq 18 44 ?_
 refine rGq 19 45 ?_
 refine rGq 20 25 ?_
 refine wpAnyH_done (by kernel_rfl) ?_ _
 clear hHeld
 clear yi0 yi2 hS0
 have hg : W3.grownBy W3.drew none := gDr (gRf _ _)
 replace i0 := kNq hg i0
 replace i2 := kNq hg i2
 replace HI3 := bCq HI3 hg
 replace HR3 := bCq HR3 hg
 replace HS3 := rCq HS3 hg
 replace HG3 := gCq HG3 hg
 clear hg
 generalize W3.drew = wd0 at *
 go_wp2_with fail
 have hg := gBq (w := wd0) (.cells #[.int .i64 0, .int .i64 13] 3)
 have hK3 := heap_alloc_new wd0 (.cells #[.int .i64 0, .int .i64 13] 3)
 have HST := jh (sTq (ks := [0, 13]) (kc := 2) (HS3.out.grow hg) (kinds2 hK3) (by decide))
 rw [hc] at HST
 refine HST.out.mono ?_; rintro e w2 ⟨rfl, rfl⟩
 clear HST hK3
 replace i0 := kNq hg i0
 replace i2 := kNq hg i2
 replace HI3 := bCq HI3 hg
 replace HR3 := bCq HR3 hg
 replace HS3 := rCq HS3 hg
 replace HG3 := gCq HG3 hg
 clear hg
 generalize wd0.alloc _ = wk at *
 have hS3 : wk.grownBy wk (some (W.heap.size + 1)) := gRf _ _
 go_wp2_with fail
 refine (rLq 5 (by decide) _).mono ?_
 rintro e w5 hp
 obtain ⟨a5, l5, c5, f5, er5, rfl, hS5, q0, q1, q2, HB5, HL5⟩ := lFq hp HG3.out (gRf _ _) HR3.out
 clear hp
 go_wp2_with fail
 exact eLq (fun w z0 z1 => by simp [results, Tryz.results32, go_sem, z0, z1]) rfl HB5.out HL5.out
theorem gathers_62n1 {W : World} {n : Int} {ta ra da : Option Addr} {tl tc rl rc dl dc : Nat} {dk dn dp : Int} {ds : ByteArray} {s types : List Ty} {sv : Value} (hs : RowC W s sv) (hT : RowC W types (.slice ta tl tc)) (hc : sFq s [0, 13] = true) (ht0 : sameT (tAq s 0) (tAq (tAq s 1).args 0) = false) (hz0 : (tAq s 0).size <= 50000000) (hgd : s.all gYq = true) (hn : s.length <= 1000) :
 Calls Tryz.prog 32 #[insV 62 n ta tl tc ra rl rc dk dn dp ds da dl dc, sv] W (LPq (.no 5) W) := by
 obtain ⟨sa, sl, sc, e1⟩ := hs.form3
 subst e1
 unfold insV
 obtain ⟨hg3, hI3, hR3⟩ := start2 W (.cells #[.int .i64 62, .int .i64 n, .slice ta tl tc, .slice ra rl rc, .int .i64 dk, .int .i64 dn, .int .i64 dp, .string ds, .slice da dl dc] 56) (.cells #[.slice none 0 0, .bool false] 27)
 have hs3 := hs.grow hg3
 have hT3 := hT.grow hg3
 have hlen : 2 <= s.length := slq hc
 obtain ⟨hsl, hsc, _⟩ := hs3.len
 obtain ⟨b, o, t0, a0, l0, k0, rfl, x0a, x0b, hA0⟩ := hs3.at 0 (by omega)
 have HA0 := jh hA0
 obtain ⟨_, _, t1, a1, l1, k1, eb, x1a, x1b, hA1⟩ := hs3.at 1 (by omega)
 simp only [Option.some.injEq, Addr.mk.injEq, and_true] at eb
 obtain ⟨rfl, rfl⟩ := eb
 have HA1 := jh hA1
 have hq1 : (tAq s 1).args.length = 2 := cAq hc hgd 1 13 2 rfl (by decide) (by decide)
 obtain ⟨_, hr1⟩ := hA1.args
 obtain ⟨el1, ec1, _⟩ := hr1.len
 rw [hq1] at el1 ec1
 subst el1
 have HQ1 := jh hr1
 have HQL := jh hq1
 obtain ⟨nb1, no1, t10, a10, l10, k10, rfl, x10a, x10b, hA10⟩ := hr1.at 0 (by omega)
 have HA10 := jh hA10
 obtain ⟨_, _, t11, a11, l11, k11, eb, x11a, x11b, hA11⟩ := hr1.at 1 (by omega)
 simp only [Option.some.injEq, Addr.mk.injEq, and_true] at eb
 obtain ⟨rfl, rfl⟩ := eb
 have HA11 := jh hA11
 have bz1 : (1 : Int) <= (sl : Int) := by omega
 have by0 : 0 < sl := by omega
 have bz2 : (2 : Int) <= (sl : Int) := by omega
 have by1 : (1 : Int) < (sl : Int) := by omega
 have b1 : (sl : Int) <= (sc : Int) := by omega
 have HSL := jh hsl
 have HG3 := jh hg3
 have HI3 := jh hI3
 have HR3 := jh hR3
 have HS3 := jh hs3
 have HLEN := jh hlen
 simp only [Nat.reduceMul, Nat.reduceAdd, Nat.add_zero, Nat.mul_zero, Nat.zero_add] at x0a x0b x1a x1b x10a x10b x11a x11b
 obtain ⟨i0, i1, i2, i3, _⟩ := box9 hI3
 clear hg3 hI3 hR3 hs hs3 hT hT3 hsl hlen hgd hA0 hA1 hr1 hq1 hA10 hA11
 go_enter Tryz.func32, Tryz.ntmps32
 go_wp2_with fail
 generalize (W.alloc _).alloc _ = W3 at *
 have yx0a := fun (w' : World) (h : W3.grownBy w' none) => kNq h x0a
 have yx0b := fun (w' : World) (h : W3.grownBy w' none) => kNq h x0b
 have yx1a := fun (w' : World) (h : W3.grownBy w' none) => kNq h x1a
 have yx1b := fun (w' : World) (h : W3.grownBy w' none) => kNq h x1b
 have yx10a := fun (w' : World) (h : W3.grownBy w' none) => kNq h x10a
 have yx10b := fun (w' : World) (h : W3.grownBy w' none) => kNq h x10b
 have yx11a := fun (w' : World) (h : W3.grownBy w' none) => kNq h x11a
 have yx11b := fun (w' : World) (h : W3.grownBy w' none) => kNq h x11b
 have yi0 := fun (w' : World) (h : W3.grownBy w' none) => kNq h i0
 have yi2 := fun (w' : World) (h : W3.grownBy w' none) => kNq h i2
 have hS0 : W3.grownBy W3 none := gRf _ _
 refine wp_region_held_drew (S := fun w' => W3.grownBy w' none) (by kernel_rfl) ?_ (fun hHeld => ?_)
 ·exact gDr (gRf _ _)
 refine rGq 0 26 ?_
 refine rGq 1 27 ?_
 refine rGq 2 28 ?_
 refine rGq 3 29 ?_
 refine rNq 4 30 ?_
 refine rNq 5 31 ?_
 refine rNq 6 32 ?_
 refine rGq 7 33 ?_
 refine rGq 8 34 ?_
 refine rNq 9 35 ?_
 refine rNq 10 36 ?_
 refine rNq 11 37 ?_
 refine rNq 12 38 ?_
 refine rNq 13 39 ?_
 refine rNq 14 40 ?_
 refine rNq 15 41 ?_
 refine rNq 16 42 ?_
 refine rNq 17 43 ?_
 refine rNq 18 44 ?_
 refine rGq 19 45 ?_
 refine rGq 20 25 ?_
 refine wpAnyH_done (by kernel_rfl) ?_ _
 clear hHeld
 clear yx0a yx0b yx1a yx1b yx10a yx10b yx11a yx11b yi0 yi2 hS0
 have hg : W3.grownBy W3.drew none := gDr (gRf _ _)
 replace x0a := kNq hg x0a
 replace x0b := kNq hg x0b
 replace x1a := kNq hg x1a
 replace x1b := kNq hg x1b
 replace x10a := kNq hg x10a
 replace x10b := kNq hg x10b
 replace x11a := kNq hg x11a
 replace x11b := kNq hg x11b
 replace i0 := kNq hg i0
 replace i2 := kNq hg i2
 replace HI3 := bCq HI3 hg
 replace HR3 := bCq HR3 hg
 replace HS3 := rCq HS3 hg
 replace HG3 := gCq HG3 hg
 replace HA0 := tCq HA0 hg
 replace HA1 := tCq HA1 hg
 replace HA10 := tCq HA10 hg
 replace HA11 := tCq HA11 hg
 replace HQ1 := rCq HQ1 hg
 clear hg
 generalize W3.drew = wd0 at *
 go_wp2_with fail
 have hg := gBq (w := wd0) (.cells #[.int .i64 0, .int .i64 13] 3)
 have hK3 := heap_alloc_new wd0 (.cells #[.int .i64 0, .int .i64 13] 3)
 have HST := jh (sTq (ks := [0, 13]) (kc := 2) (HS3.out.grow hg) (kinds2 hK3) (by decide))
 rw [hc] at HST
 refine HST.out.mono ?_; rintro e w2 ⟨rfl, rfl⟩
 clear HST hK3
 replace x0a := kNq hg x0a
 replace x0b := kNq hg x0b
 replace x1a := kNq hg x1a
 replace x1b := kNq hg x1b
 replace x10a := kNq hg x10a
 replace x10b := kNq hg x10b
 replace x11a := kNq hg x11a
 replace x11b := kNq hg x11b
 replace i0 := kNq hg i0
 replace i2 := kNq hg i2
 replace HI3 := bCq HI3 hg
 replace HR3 := bCq HR3 hg
 replace HS3 := rCq HS3 hg
 replace HG3 := gCq HG3 hg
 replace HA0 := tCq HA0 hg
 replace HA1 := tCq HA1 hg
 replace HA10 := tCq HA10 hg
 replace HA11 := tCq HA11 hg
 replace HQ1 := rCq HQ1 hg
 clear hg
 generalize wd0.alloc _ = wk at *
 go_wp2_with fail
 have yx0a := fun (w' : World) (h : wk.grownBy w' none) => kNq h x0a
 have yx0b := fun (w' : World) (h : wk.grownBy w' none) => kNq h x0b
 have yx1a := fun (w' : World) (h : wk.grownBy w' none) => kNq h x1a
 have yx1b := fun (w' : World) (h : wk.grownBy w' none) => kNq h x1b
 have yx10a := fun (w' : World) (h : wk.grownBy w' none) => kNq h x10a
 have yx10b := fun (w' : World) (h : wk.grownBy w' none) => kNq h x10b
 have yx11a := fun (w' : World) (h : wk.grownBy w' none) => kNq h x11a
 have yx11b := fun (w' : World) (h : wk.grownBy w' none) => kNq h x11b
 have yi0 := fun (w' : World) (h : wk.grownBy w' none) => kNq h i0
 have yi2 := fun (w' : World) (h : wk.grownBy w' none) => kNq h i2
 have hS0 : wk.grownBy wk none := gRf _ _
 go_cut [6, 7] (fun pv qv wx => ∃ bp bq : Nat, pv = .pointer (some ⟨bp, 0, none⟩) /\ qv = .pointer (some ⟨bq, 0, none⟩) /\ wx.heap[bp]? = some (.cells #[.int .i64 t10, .slice a10 l10 k10] 42 (0, 0)) /\ wx.heap[bq]? = some (.cells #[.int .i64 t11, .slice a11 l11 k11] 42 (0, 0)) /\ wk.grownBy wx none)
 case first =>
  go_region_held3 (fun w' => wk.grownBy w' none) (first | assumption | exact gDr (gRf _ _) | exact gDr (gBq _) | exact gDr (gTq (gBq _) (gBq _)) | exact gBq _ | exact gTq (gBq _) (gBq _)) (fail)
  all_goals
   go_wp2_with fail
   go_meet
   first
   | exact ⟨_, _, rfl, rfl, rNw _ _ _, new_two2 _ _ _, gDr (gTq (gBq _) (gBq _))⟩
   | exact ⟨_, _, rfl, rfl, new_two2 _ _ _, rNw _ _ _, gDr (gTq (gBq _) (gBq _))⟩
 clear yx0a yx0b yx1a yx1b yx10a yx10b yx11a yx11b yi0 yi2 hS0
 obtain ⟨bp, bq, rfl, rfl, hXp, hYq, hg⟩ := hcut
 replace x0a := kNq hg x0a
 replace x0b := kNq hg x0b
 replace x1a := kNq hg x1a
 replace x1b := kNq hg x1b
 replace x10a := kNq hg x10a
 replace x10b := kNq hg x10b
 replace x11a := kNq hg x11a
 replace x11b := kNq hg x11b
 replace i0 := kNq hg i0
 replace i2 := kNq hg i2
 replace HI3 := bCq HI3 hg
 replace HR3 := bCq HR3 hg
 replace HS3 := rCq HS3 hg
 replace HG3 := gCq HG3 hg
 replace HA0 := tCq HA0 hg
 replace HA1 := tCq HA1 hg
 replace HA10 := tCq HA10 hg
 replace HA11 := tCq HA11 hg
 replace HQ1 := rCq HQ1 hg
 clear hg
 have xpa := c0q hXp
 have xpb := c1q hXp
 have xqa := c0q hYq
 have xqb := c1q hYq
 clear hXp hYq
 go_wp2_with fail
 have yx0a := fun (w' : World) (h : wc.grownBy w' none) => kNq h x0a
 have yx0b := fun (w' : World) (h : wc.grownBy w' none) => kNq h x0b
 have yx1a := fun (w' : World) (h : wc.grownBy w' none) => kNq h x1a
 have yx1b := fun (w' : World) (h : wc.grownBy w' none) => kNq h x1b
 have yx10a := fun (w' : World) (h : wc.grownBy w' none) => kNq h x10a
 have yx10b := fun (w' : World) (h : wc.grownBy w' none) => kNq h x10b
 have yx11a := fun (w' : World) (h : wc.grownBy w' none) => kNq h x11a
 have yx11b := fun (w' : World) (h : wc.grownBy w' none) => kNq h x11b
 have yxpa := fun (w' : World) (h : wc.grownBy w' none) => kNq h xpa
 have yxpb := fun (w' : World) (h : wc.grownBy w' none) => kNq h xpb
 have yxqa := fun (w' : World) (h : wc.grownBy w' none) => kNq h xqa
 have yxqb := fun (w' : World) (h : wc.grownBy w' none) => kNq h xqb
 have yi0 := fun (w' : World) (h : wc.grownBy w' none) => kNq h i0
 have yi2 := fun (w' : World) (h : wc.grownBy w' none) => kNq h i2
 have hS0 : wc.grownBy wc none := gRf _ _
 refine wp_region_held_drew (S := fun w' => wc.grownBy w' none) (by kernel_rfl) ?_ (fun hHeld => ?_)
 ·exact gDr (gRf _ _)
 refine rGq 0 117 ?_
 refine rGq 1 118 ?_
 refine rGq 2 119 ?_
 refine rGq 3 120 ?_
 refine wpAnyH_ready (rs := [4]) (by kernel_rfl) (by simp) ?_
 refine AllReadyH.cons rfl (fun K hK => ?_) AllReadyH.nil
 go_simp
 go_at_call 16
 refine (same_any (HA0.out.same (sAl hHeld)).low (HA10.out.same (sAl hHeld)).low hz0).mono ?_; rintro e wt0 ⟨rfl, hg⟩
 rw [ht0]
 have hH9 := gTq hHeld hg
 refine hK.out _ _ hH9 (fun _ => ?_)
 have HGT0 := jh hH9
 have hST0 := hH9
 clear hK K hHeld hg
 have hHeld := hH9
 clear hH9
 refine rGq 5 122 ?_
 refine rNq 6 123 ?_
 refine rNq 7 124 ?_
 refine rGq 8 125 ?_
 refine wpAnyH_done (by kernel_rfl) ?_ _
 clear hHeld
 clear yx0a yx0b yx1a yx1b yx10a yx10b yx11a yx11b yxpa yxpb yxqa yxqb yi0 yi2 hS0
 have hg := HGT0.out
 replace x0a := kNq hg x0a
 replace x0b := kNq hg x0b
 replace x1a := kNq hg x1a
 replace x1b := kNq hg x1b
 replace x10a := kNq hg x10a
 replace x10b := kNq hg x10b
 replace x11a := kNq hg x11a
 replace x11b := kNq hg x11b
 replace xpa := kNq hg xpa
 replace xpb := kNq hg xpb
 replace xqa := kNq hg xqa
 replace xqb := kNq hg xqb
 replace i0 := kNq hg i0
 replace i2 := kNq hg i2
 replace HI3 := bCq HI3 hg
 replace HR3 := bCq HR3 hg
 replace HS3 := rCq HS3 hg
 replace HG3 := gCq HG3 hg
 replace HA0 := tCq HA0 hg
 replace HA1 := tCq HA1 hg
 replace HA10 := tCq HA10 hg
 replace HA11 := tCq HA11 hg
 replace HQ1 := rCq HQ1 hg
 clear hg
 clear hST0
 have yx0a := fun (w' : World) (h : wt0.grownBy w' (some (W.heap.size + 1))) => kDq HR3.out h x0a x0a
 have yx0b := fun (w' : World) (h : wt0.grownBy w' (some (W.heap.size + 1))) => kDq HR3.out h x0a x0b
 have yx1a := fun (w' : World) (h : wt0.grownBy w' (some (W.heap.size + 1))) => kDq HR3.out h x1a x1a
 have yx1b := fun (w' : World) (h : wt0.grownBy w' (some (W.heap.size + 1))) => kDq HR3.out h x1a x1b
 have yx10a := fun (w' : World) (h : wt0.grownBy w' (some (W.heap.size + 1))) => kDq HR3.out h x10a x10a
 have yx10b := fun (w' : World) (h : wt0.grownBy w' (some (W.heap.size + 1))) => kDq HR3.out h x10a x10b
 have yx11a := fun (w' : World) (h : wt0.grownBy w' (some (W.heap.size + 1))) => kDq HR3.out h x11a x11a
 have yx11b := fun (w' : World) (h : wt0.grownBy w' (some (W.heap.size + 1))) => kDq HR3.out h x11a x11b
 have yxpa := fun (w' : World) (h : wt0.grownBy w' (some (W.heap.size + 1))) => kDq HR3.out h xpa xpa
 have yxpb := fun (w' : World) (h : wt0.grownBy w' (some (W.heap.size + 1))) => kDq HR3.out h xpa xpb
 have yxqa := fun (w' : World) (h : wt0.grownBy w' (some (W.heap.size + 1))) => kDq HR3.out h xqa xqa
 have yxqb := fun (w' : World) (h : wt0.grownBy w' (some (W.heap.size + 1))) => kDq HR3.out h xqa xqb
 have hS3 : wt0.grownBy wt0 (some (W.heap.size + 1)) := gRf _ _
 go_wp2_with fail
 refine (rLq 5 (by decide) _).mono ?_
 rintro e w5 hp
 obtain ⟨a5, l5, c5, f5, er5, rfl, hS5, q0, q1, q2, HB5, HL5⟩ := lFq hp HG3.out (gRf _ _) HR3.out
 clear hp
 go_wp2_with fail
 exact eLq (fun w z0 z1 => by simp [results, Tryz.results32, go_sem, z0, z1]) rfl HB5.out HL5.out
theorem gathers_62n2 {W : World} {n : Int} {ta ra da : Option Addr} {tl tc rl rc dl dc : Nat} {dk dn dp : Int} {ds : ByteArray} {s types : List Ty} {sv : Value} (hs : RowC W s sv) (hT : RowC W types (.slice ta tl tc)) (hc : sFq s [0, 13] = true) (ht0 : sameT (tAq s 0) (tAq (tAq s 1).args 0) = true) (hz0 : (tAq s 0).size <= 50000000) (ht1 : copyT (tAq (tAq s 1).args 1) = false) (hz1 : (tAq (tAq s 1).args 1).size <= 50000000) (hgd : s.all gYq = true) (hn : s.length <= 1000) :
 Calls Tryz.prog 32 #[insV 62 n ta tl tc ra rl rc dk dn dp ds da dl dc, sv] W (LPq (.no 5) W) := by
 obtain ⟨sa, sl, sc, e1⟩ := hs.form3
 subst e1
 unfold insV
 obtain ⟨hg3, hI3, hR3⟩ := start2 W (.cells #[.int .i64 62, .int .i64 n, .slice ta tl tc, .slice ra rl rc, .int .i64 dk, .int .i64 dn, .int .i64 dp, .string ds, .slice da dl dc] 56) (.cells #[.slice none 0 0, .bool false] 27)
 have hs3 := hs.grow hg3
 have hT3 := hT.grow hg3
 have hlen : 2 <= s.length := slq hc
 obtain ⟨hsl, hsc, _⟩ := hs3.len
 obtain ⟨b, o, t0, a0, l0, k0, rfl, x0a, x0b, hA0⟩ := hs3.at 0 (by omega)
 have HA0 := jh hA0
 obtain ⟨_, _, t1, a1, l1, k1, eb, x1a, x1b, hA1⟩ := hs3.at 1 (by omega)
 simp only [Option.some.injEq, Addr.mk.injEq, and_true] at eb
 obtain ⟨rfl, rfl⟩ := eb
 have HA1 := jh hA1
 have hq1 : (tAq s 1).args.length = 2 := cAq hc hgd 1 13 2 rfl (by decide) (by decide)
 obtain ⟨_, hr1⟩ := hA1.args
 obtain ⟨el1, ec1, _⟩ := hr1.len
 rw [hq1] at el1 ec1
 subst el1
 have HQ1 := jh hr1
 have HQL := jh hq1
 obtain ⟨nb1, no1, t10, a10, l10, k10, rfl, x10a, x10b, hA10⟩ := hr1.at 0 (by omega)
 have HA10 := jh hA10
 obtain ⟨_, _, t11, a11, l11, k11, eb, x11a, x11b, hA11⟩ := hr1.at 1 (by omega)
 simp only [Option.some.injEq, Addr.mk.injEq, and_true] at eb
 obtain ⟨rfl, rfl⟩ := eb
 have HA11 := jh hA11
 have bz1 : (1 : Int) <= (sl : Int) := by omega
 have by0 : 0 < sl := by omega
 have bz2 : (2 : Int) <= (sl : Int) := by omega
 have by1 : (1 : Int) < (sl : Int) := by omega
 have b1 : (sl : Int) <= (sc : Int) := by omega
 have HSL := jh hsl
 have HG3 := jh hg3
 have HI3 := jh hI3
 have HR3 := jh hR3
 have HS3 := jh hs3
 have HLEN := jh hlen
 simp only [Nat.reduceMul, Nat.reduceAdd, Nat.add_zero, Nat.mul_zero, Nat.zero_add] at x0a x0b x1a x1b x10a x10b x11a x11b
 obtain ⟨i0, i1, i2, i3, _⟩ := box9 hI3
 clear hg3 hI3 hR3 hs hs3 hT hT3 hsl hlen hgd hA0 hA1 hr1 hq1 hA10 hA11
 go_enter Tryz.func32, Tryz.ntmps32
 go_wp2_with fail
 generalize (W.alloc _).alloc _ = W3 at *
 have yx0a := fun (w' : World) (h : W3.grownBy w' none) => kNq h x0a
 have yx0b := fun (w' : World) (h : W3.grownBy w' none) => kNq h x0b
 have yx1a := fun (w' : World) (h : W3.grownBy w' none) => kNq h x1a
 have yx1b := fun (w' : World) (h : W3.grownBy w' none) => kNq h x1b
 have yx10a := fun (w' : World) (h : W3.grownBy w' none) => kNq h x10a
 have yx10b := fun (w' : World) (h : W3.grownBy w' none) => kNq h x10b
 have yx11a := fun (w' : World) (h : W3.grownBy w' none) => kNq h x11a
 have yx11b := fun (w' : World) (h : W3.grownBy w' none) => kNq h x11b
 have yi0 := fun (w' : World) (h : W3.grownBy w' none) => kNq h i0
 have yi2 := fun (w' : World) (h : W3.grownBy w' none) => kNq h i2
 have hS0 : W3.grownBy W3 none := gRf _ _
 refine wp_region_held_drew (S := fun w' => W3.grownBy w' none) (by kernel_rfl) ?_ (fun hHeld => ?_)
 ·exact gDr (gRf _ _)
 refine rGq 0 26 ?_
 refine rGq 1 27 ?_
 refine rGq 2 28 ?_
 refine rGq 3 29 ?_
 refine rNq 4 30 ?_
 refine rNq 5 31 ?_
 refine rNq 6 32 ?_
 refine rGq 7 33 ?_
 refine rGq 8 34 ?_
 refine rNq 9 35 ?_
 refine rNq 10 36 ?_
 refine rNq 11 37 ?_
 refine rNq 12 38 ?_
 refine rNq 13 39 ?_
 refine rNq 14 40 ?_
 refine rNq 15 41 ?_
 refine rNq 16 42 ?_
 refine rNq 17 43 ?_
 refine rNq 18 44 ?_
 refine rGq 19 45 ?_
 refine rGq 20 25 ?_
 refine wpAnyH_done (by kernel_rfl) ?_ _
 clear hHeld
 clear yx0a yx0b yx1a yx1b yx10a yx10b yx11a yx11b yi0 yi2 hS0
 have hg : W3.grownBy W3.drew none := gDr (gRf _ _)
 replace x0a := kNq hg x0a
 replace x0b := kNq hg x0b
 replace x1a := kNq hg x1a
 replace x1b := kNq hg x1b
 replace x10a := kNq hg x10a
 replace x10b := kNq hg x10b
 replace x11a := kNq hg x11a
 replace x11b := kNq hg x11b
 replace i0 := kNq hg i0
 replace i2 := kNq hg i2
 replace HI3 := bCq HI3 hg
 replace HR3 := bCq HR3 hg
 replace HS3 := rCq HS3 hg
 replace HG3 := gCq HG3 hg
 replace HA0 := tCq HA0 hg
 replace HA1 := tCq HA1 hg
 replace HA10 := tCq HA10 hg
 replace HA11 := tCq HA11 hg
 replace HQ1 := rCq HQ1 hg
 clear hg
 generalize W3.drew = wd0 at *
 go_wp2_with fail
 have hg := gBq (w := wd0) (.cells #[.int .i64 0, .int .i64 13] 3)
 have hK3 := heap_alloc_new wd0 (.cells #[.int .i64 0, .int .i64 13] 3)
 have HST := jh (sTq (ks := [0, 13]) (kc := 2) (HS3.out.grow hg) (kinds2 hK3) (by decide))
 rw [hc] at HST
 refine HST.out.mono ?_; rintro e w2 ⟨rfl, rfl⟩
 clear HST hK3
 replace x0a := kNq hg x0a
 replace x0b := kNq hg x0b
 replace x1a := kNq hg x1a
 replace x1b := kNq hg x1b
 replace x10a := kNq hg x10a
 replace x10b := kNq hg x10b
 replace x11a := kNq hg x11a
 replace x11b := kNq hg x11b
 replace i0 := kNq hg i0
 replace i2 := kNq hg i2
 replace HI3 := bCq HI3 hg
 replace HR3 := bCq HR3 hg
 replace HS3 := rCq HS3 hg
 replace HG3 := gCq HG3 hg
 replace HA0 := tCq HA0 hg
 replace HA1 := tCq HA1 hg
 replace HA10 := tCq HA10 hg
 replace HA11 := tCq HA11 hg
 replace HQ1 := rCq HQ1 hg
 clear hg
 generalize wd0.alloc _ = wk at *
 go_wp2_with fail
 have yx0a := fun (w' : World) (h : wk.grownBy w' none) => kNq h x0a
 have yx0b := fun (w' : World) (h : wk.grownBy w' none) => kNq h x0b
 have yx1a := fun (w' : World) (h : wk.grownBy w' none) => kNq h x1a
 have yx1b := fun (w' : World) (h : wk.grownBy w' none) => kNq h x1b
 have yx10a := fun (w' : World) (h : wk.grownBy w' none) => kNq h x10a
 have yx10b := fun (w' : World) (h : wk.grownBy w' none) => kNq h x10b
 have yx11a := fun (w' : World) (h : wk.grownBy w' none) => kNq h x11a
 have yx11b := fun (w' : World) (h : wk.grownBy w' none) => kNq h x11b
 have yi0 := fun (w' : World) (h : wk.grownBy w' none) => kNq h i0
 have yi2 := fun (w' : World) (h : wk.grownBy w' none) => kNq h i2
 have hS0 : wk.grownBy wk none := gRf _ _
 go_cut [6, 7] (fun pv qv wx => ∃ bp bq : Nat, pv = .pointer (some ⟨bp, 0, none⟩) /\ qv = .pointer (some ⟨bq, 0, none⟩) /\ wx.heap[bp]? = some (.cells #[.int .i64 t10, .slice a10 l10 k10] 42 (0, 0)) /\ wx.heap[bq]? = some (.cells #[.int .i64 t11, .slice a11 l11 k11] 42 (0, 0)) /\ wk.grownBy wx none)
 case first =>
  go_region_held3 (fun w' => wk.grownBy w' none) (first | assumption | exact gDr (gRf _ _) | exact gDr (gBq _) | exact gDr (gTq (gBq _) (gBq _)) | exact gBq _ | exact gTq (gBq _) (gBq _)) (fail)
  all_goals
   go_wp2_with fail
   go_meet
   first
   | exact ⟨_, _, rfl, rfl, rNw _ _ _, new_two2 _ _ _, gDr (gTq (gBq _) (gBq _))⟩
   | exact ⟨_, _, rfl, rfl, new_two2 _ _ _, rNw _ _ _, gDr (gTq (gBq _) (gBq _))⟩
 clear yx0a yx0b yx1a yx1b yx10a yx10b yx11a yx11b yi0 yi2 hS0
 obtain ⟨bp, bq, rfl, rfl, hXp, hYq, hg⟩ := hcut
 replace x0a := kNq hg x0a
 replace x0b := kNq hg x0b
 replace x1a := kNq hg x1a
 replace x1b := kNq hg x1b
 replace x10a := kNq hg x10a
 replace x10b := kNq hg x10b
 replace x11a := kNq hg x11a
 replace x11b := kNq hg x11b
 replace i0 := kNq hg i0
 replace i2 := kNq hg i2
 replace HI3 := bCq HI3 hg
 replace HR3 := bCq HR3 hg
 replace HS3 := rCq HS3 hg
 replace HG3 := gCq HG3 hg
 replace HA0 := tCq HA0 hg
 replace HA1 := tCq HA1 hg
 replace HA10 := tCq HA10 hg
 replace HA11 := tCq HA11 hg
 replace HQ1 := rCq HQ1 hg
 clear hg
 have xpa := c0q hXp
 have xpb := c1q hXp
 have xqa := c0q hYq
 have xqb := c1q hYq
 clear hXp hYq
 go_wp2_with fail
 have yx0a := fun (w' : World) (h : wc.grownBy w' none) => kNq h x0a
 have yx0b := fun (w' : World) (h : wc.grownBy w' none) => kNq h x0b
 have yx1a := fun (w' : World) (h : wc.grownBy w' none) => kNq h x1a
 have yx1b := fun (w' : World) (h : wc.grownBy w' none) => kNq h x1b
 have yx10a := fun (w' : World) (h : wc.grownBy w' none) => kNq h x10a
 have yx10b := fun (w' : World) (h : wc.grownBy w' none) => kNq h x10b
 have yx11a := fun (w' : World) (h : wc.grownBy w' none) => kNq h x11a
 have yx11b := fun (w' : World) (h : wc.grownBy w' none) => kNq h x11b
 have yxpa := fun (w' : World) (h : wc.grownBy w' none) => kNq h xpa
 have yxpb := fun (w' : World) (h : wc.grownBy w' none) => kNq h xpb
 have yxqa := fun (w' : World) (h : wc.grownBy w' none) => kNq h xqa
 have yxqb := fun (w' : World) (h : wc.grownBy w' none) => kNq h xqb
 have yi0 := fun (w' : World) (h : wc.grownBy w' none) => kNq h i0
 have yi2 := fun (w' : World) (h : wc.grownBy w' none) => kNq h i2
 have hS0 : wc.grownBy wc none := gRf _ _
 refine wp_region_held_drew (S := fun w' => wc.grownBy w' none) (by kernel_rfl) ?_ (fun hHeld => ?_)
 ·exact gDr (gRf _ _)
 refine rGq 0 117 ?_
 refine rGq 1 118 ?_
 refine rGq 2 119 ?_
 refine rGq 3 120 ?_
 refine wpAnyH_ready (rs := [4]) (by kernel_rfl) (by simp) ?_
 refine AllReadyH.cons rfl (fun K hK => ?_) AllReadyH.nil
 go_simp
 go_at_call 16
 refine (same_any (HA0.out.same (sAl hHeld)).low (HA10.out.same (sAl hHeld)).low hz0).mono ?_; rintro e wt0 ⟨rfl, hg⟩
 rw [ht0]
 have hH9 := gTq hHeld hg
 refine hK.out _ _ hH9 (fun _ => ?_)
 have HGT0 := jh hH9
 have hST0 := hH9
 clear hK K hHeld hg
 have hHeld := hH9
 clear hH9
 refine rGq 5 122 ?_
 refine rGq 6 123 ?_
 refine wpAnyH_ready (rs := [7]) (by kernel_rfl) (by simp) ?_
 refine AllReadyH.cons rfl (fun K hK => ?_) AllReadyH.nil
 go_simp
 go_at_call 52
 refine (copied_any (HA11.out.same (sAl hHeld)).low hz1).mono ?_; rintro e wt1 ⟨rfl, hg⟩
 rw [ht1]
 have hH9 := gTq hHeld hg
 refine hK.out _ _ hH9 (fun _ => ?_)
 have HGT1 := jh hH9
 have hST1 := hH9
 clear hK K hHeld hg
 have hHeld := hH9
 clear hH9
 refine rGq 8 125 ?_
 refine wpAnyH_done (by kernel_rfl) ?_ _
 clear hHeld
 clear yx0a yx0b yx1a yx1b yx10a yx10b yx11a yx11b yxpa yxpb yxqa yxqb yi0 yi2 hS0
 have hg := HGT1.out
 replace x0a := kNq hg x0a
 replace x0b := kNq hg x0b
 replace x1a := kNq hg x1a
 replace x1b := kNq hg x1b
 replace x10a := kNq hg x10a
 replace x10b := kNq hg x10b
 replace x11a := kNq hg x11a
 replace x11b := kNq hg x11b
 replace xpa := kNq hg xpa
 replace xpb := kNq hg xpb
 replace xqa := kNq hg xqa
 replace xqb := kNq hg xqb
 replace i0 := kNq hg i0
 replace i2 := kNq hg i2
 replace HI3 := bCq HI3 hg
 replace HR3 := bCq HR3 hg
 replace HS3 := rCq HS3 hg
 replace HG3 := gCq HG3 hg
 replace HA0 := tCq HA0 hg
 replace HA1 := tCq HA1 hg
 replace HA10 := tCq HA10 hg
 replace HA11 := tCq HA11 hg
 replace HQ1 := rCq HQ1 hg
 clear hg
 clear hST0 hST1
 have yx0a := fun (w' : World) (h : wt1.grownBy w' (some (W.heap.size + 1))) => kDq HR3.out h x0a x0a
 have yx0b := fun (w' : World) (h : wt1.grownBy w' (some (W.heap.size + 1))) => kDq HR3.out h x0a x0b
 have yx1a := fun (w' : World) (h : wt1.grownBy w' (some (W.heap.size + 1))) => kDq HR3.out h x1a x1a
 have yx1b := fun (w' : World) (h : wt1.grownBy w' (some (W.heap.size + 1))) => kDq HR3.out h x1a x1b
 have yx10a := fun (w' : World) (h : wt1.grownBy w' (some (W.heap.size + 1))) => kDq HR3.out h x10a x10a
 have yx10b := fun (w' : World) (h : wt1.grownBy w' (some (W.heap.size + 1))) => kDq HR3.out h x10a x10b
 have yx11a := fun (w' : World) (h : wt1.grownBy w' (some (W.heap.size + 1))) => kDq HR3.out h x11a x11a
 have yx11b := fun (w' : World) (h : wt1.grownBy w' (some (W.heap.size + 1))) => kDq HR3.out h x11a x11b
 have yxpa := fun (w' : World) (h : wt1.grownBy w' (some (W.heap.size + 1))) => kDq HR3.out h xpa xpa
 have yxpb := fun (w' : World) (h : wt1.grownBy w' (some (W.heap.size + 1))) => kDq HR3.out h xpa xpb
 have yxqa := fun (w' : World) (h : wt1.grownBy w' (some (W.heap.size + 1))) => kDq HR3.out h xqa xqa
 have yxqb := fun (w' : World) (h : wt1.grownBy w' (some (W.heap.size + 1))) => kDq HR3.out h xqa xqb
 have hS3 : wt1.grownBy wt1 (some (W.heap.size + 1)) := gRf _ _
 go_wp2_with fail
 refine (rLq 5 (by decide) _).mono ?_
 rintro e w5 hp
 obtain ⟨a5, l5, c5, f5, er5, rfl, hS5, q0, q1, q2, HB5, HL5⟩ := lFq hp HG3.out (gRf _ _) HR3.out
 clear hp
 go_wp2_with fail
 exact eLq (fun w z0 z1 => by simp [results, Tryz.results32, go_sem, z0, z1]) rfl HB5.out HL5.out
theorem gathers_63 {W : World} {n : Int} {ta ra da : Option Addr} {tl tc rl rc dl dc : Nat} {dk dn dp : Int} {ds : ByteArray} {s types : List Ty} {sv : Value} (hs : RowC W s sv) (hT : RowC W types (.slice ta tl tc)) (hc : sFq s [0, 9, 13] = true) (ht0 : sameT (tAq s 0) (tAq (tAq s 2).args 0) = true) (hz0 : (tAq s 0).size <= 50000000) (ht1 : sameT (tAq (tAq s 1).args 0) (tAq (tAq s 2).args 1) = true) (hz1 : (tAq (tAq s 1).args 0).size <= 50000000) (hgd : s.all gYq = true) (hn : s.length <= 1000) :
 Calls Tryz.prog 32 #[insV 63 n ta tl tc ra rl rc dk dn dp ds da dl dc, sv] W (LPq (pFq (s.drop 2) []) W) := by
 obtain ⟨sa, sl, sc, e1⟩ := hs.form3
 subst e1
 unfold insV
 obtain ⟨hg3, hI3, hR3⟩ := start2 W (.cells #[.int .i64 63, .int .i64 n, .slice ta tl tc, .slice ra rl rc, .int .i64 dk, .int .i64 dn, .int .i64 dp, .string ds, .slice da dl dc] 56) (.cells #[.slice none 0 0, .bool false] 27)
 have hs3 := hs.grow hg3
 have hT3 := hT.grow hg3
 have hlen : 3 <= s.length := slq hc
 obtain ⟨hsl, hsc, _⟩ := hs3.len
 obtain ⟨b, o, t0, a0, l0, k0, rfl, x0a, x0b, hA0⟩ := hs3.at 0 (by omega)
 have HA0 := jh hA0
 obtain ⟨_, _, t1, a1, l1, k1, eb, x1a, x1b, hA1⟩ := hs3.at 1 (by omega)
 simp only [Option.some.injEq, Addr.mk.injEq, and_true] at eb
 obtain ⟨rfl, rfl⟩ := eb
 have HA1 := jh hA1
 obtain ⟨_, _, t2, a2, l2, k2, eb, x2a, x2b, hA2⟩ := hs3.at 2 (by omega)
 simp only [Option.some.injEq, Addr.mk.injEq, and_true] at eb
 obtain ⟨rfl, rfl⟩ := eb
 have HA2 := jh hA2
 have hq1 : (tAq s 1).args.length = 1 := cAq hc hgd 1 9 1 rfl (by decide) (by decide)
 obtain ⟨_, hr1⟩ := hA1.args
 obtain ⟨el1, ec1, _⟩ := hr1.len
 rw [hq1] at el1 ec1
 subst el1
 have HQ1 := jh hr1
 have HQL := jh hq1
 obtain ⟨nb1, no1, t10, a10, l10, k10, rfl, x10a, x10b, hA10⟩ := hr1.at 0 (by omega)
 have HA10 := jh hA10
 have hq2 : (tAq s 2).args.length = 2 := cAq hc hgd 2 13 2 rfl (by decide) (by decide)
 obtain ⟨_, hr2⟩ := hA2.args
 obtain ⟨el2, ec2, _⟩ := hr2.len
 rw [hq2] at el2 ec2
 subst el2
 have HQ2 := jh hr2
 have HQL := jh hq2
 obtain ⟨nb2, no2, t20, a20, l20, k20, rfl, x20a, x20b, hA20⟩ := hr2.at 0 (by omega)
 have HA20 := jh hA20
 obtain ⟨_, _, t21, a21, l21, k21, eb, x21a, x21b, hA21⟩ := hr2.at 1 (by omega)
 simp only [Option.some.injEq, Addr.mk.injEq, and_true] at eb
 obtain ⟨rfl, rfl⟩ := eb
 have HA21 := jh hA21
 have bz1 : (1 : Int) <= (sl : Int) := by omega
 have by0 : 0 < sl := by omega
 have bz2 : (2 : Int) <= (sl : Int) := by omega
 have by1 : (1 : Int) < (sl : Int) := by omega
 have bz3 : (3 : Int) <= (sl : Int) := by omega
 have by2 : (2 : Int) < (sl : Int) := by omega
 have b1 : (sl : Int) <= (sc : Int) := by omega
 have HSL := jh hsl
 have HG3 := jh hg3
 have HI3 := jh hI3
 have HR3 := jh hR3
 have HS3 := jh hs3
 have HLEN := jh hlen
 simp only [Nat.reduceMul, Nat.reduceAdd, Nat.add_zero, Nat.mul_zero, Nat.zero_add] at x0a x0b x1a x1b x2a x2b x10a x10b x20a x20b x21a x21b
 obtain ⟨i0, i1, i2, i3, _⟩ := box9 hI3
 clear hg3 hI3 hR3 hs hs3 hT hT3 hsl hlen hgd hA0 hA1 hA2 hr1 hq1 hA10 hr2 hq2 hA20 hA21
 go_enter Tryz.func32, Tryz.ntmps32
 go_wp2_with fail
 generalize (W.alloc _).alloc _ = W3 at *
 have yx0a := fun (w' : World) (h : W3.grownBy w' none) => kNq h x0a
 have yx0b := fun (w' : World) (h : W3.grownBy w' none) => kNq h x0b
 have yx1a := fun (w' : World) (h : W3.grownBy w' none) => kNq h x1a
 have yx1b := fun (w' : World) (h : W3.grownBy w' none) => kNq h x1b
 have yx2a := fun (w' : World) (h : W3.grownBy w' none) => kNq h x2a
 have yx2b := fun (w' : World) (h : W3.grownBy w' none) => kNq h x2b
 have yx10a := fun (w' : World) (h : W3.grownBy w' none) => kNq h x10a
 have yx10b := fun (w' : World) (h : W3.grownBy w' none) => kNq h x10b
 have yx20a := fun (w' : World) (h : W3.grownBy w' none) => kNq h x20a
 have yx20b := fun (w' : World) (h : W3.grownBy w' none) => kNq h x20b
 have yx21a := fun (w' : World) (h : W3.grownBy w' none) => kNq h x21a
 have yx21b := fun (w' : World) (h : W3.grownBy w' none) => kNq h x21b
 have yi0 := fun (w' : World) (h : W3.grownBy w' none) => kNq h i0
 have yi2 := fun (w' : World) (h : W3.grownBy w' none) => kNq h i2
 have hS0 : W3.grownBy W3 none := gRf _ _
 refine wp_region_held_drew (S := fun w' => W3.grownBy w' none) (by kernel_rfl) ?_ (fun hHeld => ?_)
 ·exact gDr (gRf _ _)
 refine rGq 0 26 ?_
 refine rGq 1 27 ?_
 refine rGq 2 28 ?_
 refine rGq 3 29 ?_
 refine rNq 4 30 ?_
 refine rNq 5 31 ?_
 refine rNq 6 32 ?_
 refine rGq 7 33 ?_
 refine rGq 8 34 ?_
 refine rNq 9 35 ?_
 refine rNq 10 36 ?_
 refine rNq 11 37 ?_
 refine rNq 12 38 ?_
 refine rNq 13 39 ?_
 refine rNq 14 40 ?_
 refine rNq 15 41 ?_
 refine rNq 16 42 ?_
 refine rNq 17 43 ?_
 refine rNq 18 44 ?_
 refine rGq 19 45 ?_
 refine rGq 20 25 ?_
 refine wpAnyH_done (by kernel_rfl) ?_ _
 clear hHeld
 clear yx0a yx0b yx1a yx1b yx2a yx2b yx10a yx10b yx20a yx20b yx21a yx21b yi0 yi2 hS0
 have hg : W3.grownBy W3.drew none := gDr (gRf _ _)
 replace x0a := kNq hg x0a
 replace x0b := kNq hg x0b
 replace x1a := kNq hg x1a
 replace x1b := kNq hg x1b
 replace x2a := kNq hg x2a
 replace x2b := kNq hg x2b
 replace x10a := kNq hg x10a
 replace x10b := kNq hg x10b
 replace x20a := kNq hg x20a
 replace x20b := kNq hg x20b
 replace x21a := kNq hg x21a
 replace x21b := kNq hg x21b
 replace i0 := kNq hg i0
 replace i2 := kNq hg i2
 replace HI3 := bCq HI3 hg
 replace HR3 := bCq HR3 hg
 replace HS3 := rCq HS3 hg
 replace HG3 := gCq HG3 hg
 replace HA0 := tCq HA0 hg
 replace HA1 := tCq HA1 hg
 replace HA2 := tCq HA2 hg
 replace HA10 := tCq HA10 hg
 replace HA20 := tCq HA20 hg
 replace HA21 := tCq HA21 hg
 replace HQ1 := rCq HQ1 hg
 replace HQ2 := rCq HQ2 hg
 clear hg
 generalize W3.drew = wd0 at *
 go_wp2_with fail
 have hg := gBq (w := wd0) (.cells #[.int .i64 0, .int .i64 9, .int .i64 13] 3)
 have hK3 := heap_alloc_new wd0 (.cells #[.int .i64 0, .int .i64 9, .int .i64 13] 3)
 have HST := jh (sTq (ks := [0, 9, 13]) (kc := 3) (HS3.out.grow hg) (kinds3 hK3) (by decide))
 rw [hc] at HST
 refine HST.out.mono ?_; rintro e w2 ⟨rfl, rfl⟩
 clear HST hK3
 replace x0a := kNq hg x0a
 replace x0b := kNq hg x0b
 replace x1a := kNq hg x1a
 replace x1b := kNq hg x1b
 replace x2a := kNq hg x2a
 replace x2b := kNq hg x2b
 replace x10a := kNq hg x10a
 replace x10b := kNq hg x10b
 replace x20a := kNq hg x20a
 replace x20b := kNq hg x20b
 replace x21a := kNq hg x21a
 replace x21b := kNq hg x21b
 replace i0 := kNq hg i0
 replace i2 := kNq hg i2
 replace HI3 := bCq HI3 hg
 replace HR3 := bCq HR3 hg
 replace HS3 := rCq HS3 hg
 replace HG3 := gCq HG3 hg
 replace HA0 := tCq HA0 hg
 replace HA1 := tCq HA1 hg
 replace HA2 := tCq HA2 hg
 replace HA10 := tCq HA10 hg
 replace HA20 := tCq HA20 hg
 replace HA21 := tCq HA21 hg
 replace HQ1 := rCq HQ1 hg
 replace HQ2 := rCq HQ2 hg
 clear hg
 generalize wd0.alloc _ = wk at *
 go_wp2_with fail
 have yx0a := fun (w' : World) (h : wk.grownBy w' none) => kNq h x0a
 have yx0b := fun (w' : World) (h : wk.grownBy w' none) => kNq h x0b
 have yx1a := fun (w' : World) (h : wk.grownBy w' none) => kNq h x1a
 have yx1b := fun (w' : World) (h : wk.grownBy w' none) => kNq h x1b
 have yx2a := fun (w' : World) (h : wk.grownBy w' none) => kNq h x2a
 have yx2b := fun (w' : World) (h : wk.grownBy w' none) => kNq h x2b
 have yx10a := fun (w' : World) (h : wk.grownBy w' none) => kNq h x10a
 have yx10b := fun (w' : World) (h : wk.grownBy w' none) => kNq h x10b
 have yx20a := fun (w' : World) (h : wk.grownBy w' none) => kNq h x20a
 have yx20b := fun (w' : World) (h : wk.grownBy w' none) => kNq h x20b
 have yx21a := fun (w' : World) (h : wk.grownBy w' none) => kNq h x21a
 have yx21b := fun (w' : World) (h : wk.grownBy w' none) => kNq h x21b
 have yi0 := fun (w' : World) (h : wk.grownBy w' none) => kNq h i0
 have yi2 := fun (w' : World) (h : wk.grownBy w' none) => kNq h i2
 have hS0 : wk.grownBy wk none := gRf _ _
 go_cut [8, 9] (fun pv qv wx => ∃ bp bq : Nat, pv = .pointer (some ⟨bp, 0, none⟩) /\ qv = .pointer (some ⟨bq, 0, none⟩) /\ wx.heap[bp]? = some (.cells #[.int .i64 t20, .slice a20 l20 k20] 42 (0, 0)) /\ wx.heap[bq]? = some (.cells #[.int .i64 t21, .slice a21 l21 k21] 42 (0, 0)) /\ wk.grownBy wx none)
 case first =>
  go_region_held3 (fun w' => wk.grownBy w' none) (first | assumption | exact gDr (gRf _ _) | exact gDr (gBq _) | exact gDr (gTq (gBq _) (gBq _)) | exact gBq _ | exact gTq (gBq _) (gBq _)) (fail)
  all_goals
   go_wp2_with fail
   go_meet
   first
   | exact ⟨_, _, rfl, rfl, rNw _ _ _, new_two2 _ _ _, gDr (gTq (gBq _) (gBq _))⟩
   | exact ⟨_, _, rfl, rfl, new_two2 _ _ _, rNw _ _ _, gDr (gTq (gBq _) (gBq _))⟩
 clear yx0a yx0b yx1a yx1b yx2a yx2b yx10a yx10b yx20a yx20b yx21a yx21b yi0 yi2 hS0
 obtain ⟨bp, bq, rfl, rfl, hXp, hYq, hg⟩ := hcut
 replace x0a := kNq hg x0a
 replace x0b := kNq hg x0b
 replace x1a := kNq hg x1a
 replace x1b := kNq hg x1b
 replace x2a := kNq hg x2a
 replace x2b := kNq hg x2b
 replace x10a := kNq hg x10a
 replace x10b := kNq hg x10b
 replace x20a := kNq hg x20a
 replace x20b := kNq hg x20b
 replace x21a := kNq hg x21a
 replace x21b := kNq hg x21b
 replace i0 := kNq hg i0
 replace i2 := kNq hg i2
 replace HI3 := bCq HI3 hg
 replace HR3 := bCq HR3 hg
 replace HS3 := rCq HS3 hg
 replace HG3 := gCq HG3 hg
 replace HA0 := tCq HA0 hg
 replace HA1 := tCq HA1 hg
 replace HA2 := tCq HA2 hg
 replace HA10 := tCq HA10 hg
 replace HA20 := tCq HA20 hg
 replace HA21 := tCq HA21 hg
 replace HQ1 := rCq HQ1 hg
 replace HQ2 := rCq HQ2 hg
 clear hg
 have xpa := c0q hXp
 have xpb := c1q hXp
 have xqa := c0q hYq
 have xqb := c1q hYq
 clear hXp hYq
 go_wp2_with fail
 have yx0a := fun (w' : World) (h : wc.grownBy w' none) => kNq h x0a
 have yx0b := fun (w' : World) (h : wc.grownBy w' none) => kNq h x0b
 have yx1a := fun (w' : World) (h : wc.grownBy w' none) => kNq h x1a
 have yx1b := fun (w' : World) (h : wc.grownBy w' none) => kNq h x1b
 have yx2a := fun (w' : World) (h : wc.grownBy w' none) => kNq h x2a
 have yx2b := fun (w' : World) (h : wc.grownBy w' none) => kNq h x2b
 have yx10a := fun (w' : World) (h : wc.grownBy w' none) => kNq h x10a
 have yx10b := fun (w' : World) (h : wc.grownBy w' none) => kNq h x10b
 have yx20a := fun (w' : World) (h : wc.grownBy w' none) => kNq h x20a
 have yx20b := fun (w' : World) (h : wc.grownBy w' none) => kNq h x20b
 have yx21a := fun (w' : World) (h : wc.grownBy w' none) => kNq h x21a
 have yx21b := fun (w' : World) (h : wc.grownBy w' none) => kNq h x21b
 have yxpa := fun (w' : World) (h : wc.grownBy w' none) => kNq h xpa
 have yxpb := fun (w' : World) (h : wc.grownBy w' none) => kNq h xpb
 have yxqa := fun (w' : World) (h : wc.grownBy w' none) => kNq h xqa
 have yxqb := fun (w' : World) (h : wc.grownBy w' none) => kNq h xqb
 have yi0 := fun (w' : World) (h : wc.grownBy w' none) => kNq h i0
 have yi2 := fun (w' : World) (h : wc.grownBy w' none) => kNq h i2
 have hS0 : wc.grownBy wc none := gRf _ _
 first
  | (go_region_held3 (fun w' => wc.grownBy w' none) (first | with_reducible assumption | with_reducible exact gDr (gRf _ _) | with_reducible exact gTq (by assumption) (gBq _) | with_reducible exact gDr (gBq _)) (first
   | (go_at_call 16; have hprev := HGT0.out; clear hprev; refine (same_any (HA10.out.same (sAl HGT0.out)).low (HA21.out.same (sAl HGT0.out)).low hz1).mono ?_; rintro e wt1 ⟨rfl, hg⟩; rw [ht1]; have HGT1 : Hid (wc.grownBy wt1 none) := gTq HGT0.out hg; have hST1 := HGT1.out; clear hg)
   | (go_at_call 16; refine (same_any (HA0.out.same (sAl (gDr (gRf _ _)))).low (HA20.out.same (sAl (gDr (gRf _ _)))).low hz0).mono ?_; rintro e wt0 ⟨rfl, hg⟩; rw [ht0]; have HGT0 : Hid (wc.grownBy wt0 none) := gTq (gDr (gRf _ _)) hg; have hST0 := HGT0.out; clear hg)))
  | fail
 clear yx0a yx0b yx1a yx1b yx2a yx2b yx10a yx10b yx20a yx20b yx21a yx21b yxpa yxpb yxqa yxqb yi0 yi2 hS0
 have hg := HGT1.out
 replace x0a := kNq hg x0a
 replace x0b := kNq hg x0b
 replace x1a := kNq hg x1a
 replace x1b := kNq hg x1b
 replace x2a := kNq hg x2a
 replace x2b := kNq hg x2b
 replace x10a := kNq hg x10a
 replace x10b := kNq hg x10b
 replace x20a := kNq hg x20a
 replace x20b := kNq hg x20b
 replace x21a := kNq hg x21a
 replace x21b := kNq hg x21b
 replace xpa := kNq hg xpa
 replace xpb := kNq hg xpb
 replace xqa := kNq hg xqa
 replace xqb := kNq hg xqb
 replace i0 := kNq hg i0
 replace i2 := kNq hg i2
 replace HI3 := bCq HI3 hg
 replace HR3 := bCq HR3 hg
 replace HS3 := rCq HS3 hg
 replace HG3 := gCq HG3 hg
 replace HA0 := tCq HA0 hg
 replace HA1 := tCq HA1 hg
 replace HA2 := tCq HA2 hg
 replace HA10 := tCq HA10 hg
 replace HA20 := tCq HA20 hg
 replace HA21 := tCq HA21 hg
 replace HQ1 := rCq HQ1 hg
 replace HQ2 := rCq HQ2 hg
 clear hg
 clear hST0 hST1
 have yx0a := fun (w' : World) (h : wt1.grownBy w' (some (W.heap.size + 1))) => kDq HR3.out h x0a x0a
 have yx0b := fun (w' : World) (h : wt1.grownBy w' (some (W.heap.size + 1))) => kDq HR3.out h x0a x0b
 have yx1a := fun (w' : World) (h : wt1.grownBy w' (some (W.heap.size + 1))) => kDq HR3.out h x1a x1a
 have yx1b := fun (w' : World) (h : wt1.grownBy w' (some (W.heap.size + 1))) => kDq HR3.out h x1a x1b
 have yx2a := fun (w' : World) (h : wt1.grownBy w' (some (W.heap.size + 1))) => kDq HR3.out h x2a x2a
 have yx2b := fun (w' : World) (h : wt1.grownBy w' (some (W.heap.size + 1))) => kDq HR3.out h x2a x2b
 have yx10a := fun (w' : World) (h : wt1.grownBy w' (some (W.heap.size + 1))) => kDq HR3.out h x10a x10a
 have yx10b := fun (w' : World) (h : wt1.grownBy w' (some (W.heap.size + 1))) => kDq HR3.out h x10a x10b
 have yx20a := fun (w' : World) (h : wt1.grownBy w' (some (W.heap.size + 1))) => kDq HR3.out h x20a x20a
 have yx20b := fun (w' : World) (h : wt1.grownBy w' (some (W.heap.size + 1))) => kDq HR3.out h x20a x20b
 have yx21a := fun (w' : World) (h : wt1.grownBy w' (some (W.heap.size + 1))) => kDq HR3.out h x21a x21a
 have yx21b := fun (w' : World) (h : wt1.grownBy w' (some (W.heap.size + 1))) => kDq HR3.out h x21a x21b
 have yxpa := fun (w' : World) (h : wt1.grownBy w' (some (W.heap.size + 1))) => kDq HR3.out h xpa xpa
 have yxpb := fun (w' : World) (h : wt1.grownBy w' (some (W.heap.size + 1))) => kDq HR3.out h xpa xpb
 have yxqa := fun (w' : World) (h : wt1.grownBy w' (some (W.heap.size + 1))) => kDq HR3.out h xqa xqa
 have yxqb := fun (w' : World) (h : wt1.grownBy w' (some (W.heap.size + 1))) => kDq HR3.out h xqa xqb
 have hS3 : wt1.grownBy wt1 (some (W.heap.size + 1)) := gRf _ _
 have hc3 : ¬ sc - 2 = 0 := by omega
 have HD := jh (HS3.out.drop 2 (by have := HLEN.out; omega))
 go_wp2_with fail
 refine (pAq (HD.out.grow (gRf _ _)) (RowC.nil _ none 0) (by simp <;> omega)).mono ?_
 rintro e w5 hp
 obtain ⟨a5, l5, c5, f5, er5, rfl, hS5, q0, q1, q2, HB5, HL5⟩ := lFq hp HG3.out (gRf _ _) HR3.out
 clear hp
 go_wp2_with fail
 exact eLq (fun w z0 z1 => by simp [results, Tryz.results32, go_sem, z0, z1]) rfl HB5.out HL5.out
theorem gathers_63n {W : World} {n : Int} {ta ra da : Option Addr} {tl tc rl rc dl dc : Nat} {dk dn dp : Int} {ds : ByteArray} {s types : List Ty} {sv : Value} (hs : RowC W s sv) (hT : RowC W types (.slice ta tl tc)) (hc : sFq s [0, 9, 13] = false) (hgd : s.all gYq = true) (hn : s.length <= 1000) :
 Calls Tryz.prog 32 #[insV 63 n ta tl tc ra rl rc dk dn dp ds da dl dc, sv] W (LPq (.no 5) W) := by
 obtain ⟨sa, sl, sc, e1⟩ := hs.form3
 subst e1
 unfold insV
 obtain ⟨hg3, hI3, hR3⟩ := start2 W (.cells #[.int .i64 63, .int .i64 n, .slice ta tl tc, .slice ra rl rc, .int .i64 dk, .int .i64 dn, .int .i64 dp, .string ds, .slice da dl dc] 56) (.cells #[.slice none 0 0, .bool false] 27)
 have hs3 := hs.grow hg3
 have hT3 := hT.grow hg3
 have hlen : 0 <= s.length := Nat.zero_le _
 obtain ⟨hsl, hsc, _⟩ := hs3.len
 have b1 : (sl : Int) <= (sc : Int) := by omega
 have HSL := jh hsl
 have HG3 := jh hg3
 have HI3 := jh hI3
 have HR3 := jh hR3
 have HS3 := jh hs3
 have HLEN := jh hlen
 obtain ⟨i0, i1, i2, i3, _⟩ := box9 hI3
 clear hg3 hI3 hR3 hs hs3 hT hT3 hsl hlen hgd
 go_enter Tryz.func32, Tryz.ntmps32
 go_wp2_with fail
 generalize (W.alloc _).alloc _ = W3 at *
 have yi0 := fun (w' : World) (h : W3.grownBy w' none) => kNq h i0
 have yi2 := fun (w' : World) (h : W3.grownBy w' none) => kNq h i2
 have hS0 : W3.grownBy W3 none := gRf _ _
 refine wp_region_held_drew (S := fun w' => W3.grownBy w' none) (by kernel_rfl) ?_ (fun hHeld => ?_)
 ·exact gDr (gRf _ _)
 refine rGq 0 26 ?_
 refine rGq 1 27 ?_
 refine rGq 2 28 ?_
 refine rGq 3 29 ?_
 refine rNq 4 30 ?_
 refine rNq 5 31 ?_
 refine rNq 6 32 ?_
 refine rGq 7 33 ?_
 refine rGq 8 34 ?_
 refine rNq 9 35 ?_
 refine rNq 10 36 ?_
 refine rNq 11 37 ?_
 refine rNq 12 38 ?_
 refine rNq 13 39 ?_
 refine rNq 14 40 ?_
 refine rNq 15 41 ?_
 refine rNq 16 42 ?_
 refine rNq 17 43 ?_
 refine rNq 18 44 ?_
 refine rGq 19 45 ?_
 refine rGq 20 25 ?_
 refine wpAnyH_done (by kernel_rfl) ?_ _
 clear hHeld
 clear yi0 yi2 hS0
 have hg : W3.grownBy W3.drew none := gDr (gRf _ _)
 replace i0 := kNq hg i0
 replace i2 := kNq hg i2
 replace HI3 := bCq HI3 hg
 replace HR3 := bCq HR3 hg
 replace HS3 := rCq HS3 hg
 replace HG3 := gCq HG3 hg
 clear hg
 generalize W3.drew = wd0 at *
 go_wp2_with fail
 have hg := gBq (w := wd0) (.cells #[.int .i64 0, .int .i64 9, .int .i64 13] 3)
 have hK3 := heap_alloc_new wd0 (.cells #[.int .i64 0, .int .i64 9, .int .i64 13] 3)
 have HST := jh (sTq (ks := [0, 9, 13]) (kc := 3) (HS3.out.grow hg) (kinds3 hK3) (by decide))
 rw [hc] at HST
 refine HST.out.mono ?_; rintro e w2 ⟨rfl, rfl⟩
 clear HST hK3
 replace i0 := kNq hg i0
 replace i2 := kNq hg i2
 replace HI3 := bCq HI3 hg
 replace HR3 := bCq HR3 hg
 replace HS3 := rCq HS3 hg
 replace HG3 := gCq HG3 hg
 clear hg
 generalize wd0.alloc _ = wk at *
 have hS3 : wk.grownBy wk (some (W.heap.size + 1)) := gRf _ _
 go_wp2_with fail
 refine (rLq 5 (by decide) _).mono ?_
 rintro e w5 hp
 obtain ⟨a5, l5, c5, f5, er5, rfl, hS5, q0, q1, q2, HB5, HL5⟩ := lFq hp HG3.out (gRf _ _) HR3.out
 clear hp
 go_wp2_with fail
 exact eLq (fun w z0 z1 => by simp [results, Tryz.results32, go_sem, z0, z1]) rfl HB5.out HL5.out
theorem gathers_63n1 {W : World} {n : Int} {ta ra da : Option Addr} {tl tc rl rc dl dc : Nat} {dk dn dp : Int} {ds : ByteArray} {s types : List Ty} {sv : Value} (hs : RowC W s sv) (hT : RowC W types (.slice ta tl tc)) (hc : sFq s [0, 9, 13] = true) (ht0 : sameT (tAq s 0) (tAq (tAq s 2).args 0) = false) (hz0 : (tAq s 0).size <= 50000000) (hgd : s.all gYq = true) (hn : s.length <= 1000) :
 Calls Tryz.prog 32 #[insV 63 n ta tl tc ra rl rc dk dn dp ds da dl dc, sv] W (LPq (.no 5) W) := by
 obtain ⟨sa, sl, sc, e1⟩ := hs.form3
 subst e1
 unfold insV
 obtain ⟨hg3, hI3, hR3⟩ := start2 W (.cells #[.int .i64 63, .int .i64 n, .slice ta tl tc, .slice ra rl rc, .int .i64 dk, .int .i64 dn, .int .i64 dp, .string ds, .slice da dl dc] 56) (.cells #[.slice none 0 0, .bool false] 27)
 have hs3 := hs.grow hg3
 have hT3 := hT.grow hg3
 have hlen : 3 <= s.length := slq hc
 obtain ⟨hsl, hsc, _⟩ := hs3.len
 obtain ⟨b, o, t0, a0, l0, k0, rfl, x0a, x0b, hA0⟩ := hs3.at 0 (by omega)
 have HA0 := jh hA0
 obtain ⟨_, _, t2, a2, l2, k2, eb, x2a, x2b, hA2⟩ := hs3.at 2 (by omega)
 simp only [Option.some.injEq, Addr.mk.injEq, and_true] at eb
 obtain ⟨rfl, rfl⟩ := eb
 have HA2 := jh hA2
 have hq2 : (tAq s 2).args.length = 2 := cAq hc hgd 2 13 2 rfl (by decide) (by decide)
 obtain ⟨_, hr2⟩ := hA2.args
 obtain ⟨el2, ec2, _⟩ := hr2.len
 rw [hq2] at el2 ec2
 subst el2
 have HQ2 := jh hr2
 have HQL := jh hq2
 obtain ⟨nb2, no2, t20, a20, l20, k20, rfl, x20a, x20b, hA20⟩ := hr2.at 0 (by omega)
 have HA20 := jh hA20
 obtain ⟨_, _, t21, a21, l21, k21, eb, x21a, x21b, hA21⟩ := hr2.at 1 (by omega)
 simp only [Option.some.injEq, Addr.mk.injEq, and_true] at eb
 obtain ⟨rfl, rfl⟩ := eb
 have HA21 := jh hA21
 have bz1 : (1 : Int) <= (sl : Int) := by omega
 have by0 : 0 < sl := by omega
 have bz2 : (2 : Int) <= (sl : Int) := by omega
 have by1 : (1 : Int) < (sl : Int) := by omega
 have bz3 : (3 : Int) <= (sl : Int) := by omega
 have by2 : (2 : Int) < (sl : Int) := by omega
 have b1 : (sl : Int) <= (sc : Int) := by omega
 have HSL := jh hsl
 have HG3 := jh hg3
 have HI3 := jh hI3
 have HR3 := jh hR3
 have HS3 := jh hs3
 have HLEN := jh hlen
 simp only [Nat.reduceMul, Nat.reduceAdd, Nat.add_zero, Nat.mul_zero, Nat.zero_add] at x0a x0b x2a x2b x20a x20b x21a x21b
 obtain ⟨i0, i1, i2, i3, _⟩ := box9 hI3
 clear hg3 hI3 hR3 hs hs3 hT hT3 hsl hlen hgd hA0 hA2 hr2 hq2 hA20 hA21
 go_enter Tryz.func32, Tryz.ntmps32
 go_wp2_with fail
 generalize (W.alloc _).alloc _ = W3 at *
 have yx0a := fun (w' : World) (h : W3.grownBy w' none) => kNq h x0a
 have yx0b := fun (w' : World) (h : W3.grownBy w' none) => kNq h x0b
 have yx2a := fun (w' : World) (h : W3.grownBy w' none) => kNq h x2a
 have yx2b := fun (w' : World) (h : W3.grownBy w' none) => kNq h x2b
 have yx20a := fun (w' : World) (h : W3.grownBy w' none) => kNq h x20a
 have yx20b := fun (w' : World) (h : W3.grownBy w' none) => kNq h x20b
 have yx21a := fun (w' : World) (h : W3.grownBy w' none) => kNq h x21a
 have yx21b := fun (w' : World) (h : W3.grownBy w' none) => kNq h x21b
 have yi0 := fun (w' : World) (h : W3.grownBy w' none) => kNq h i0
 have yi2 := fun (w' : World) (h : W3.grownBy w' none) => kNq h i2
 have hS0 : W3.grownBy W3 none := gRf _ _
 refine wp_region_held_drew (S := fun w' => W3.grownBy w' none) (by kernel_rfl) ?_ (fun hHeld => ?_)
 ·exact gDr (gRf _ _)
 refine rGq 0 26 ?_
 refine rGq 1 27 ?_
 refine rGq 2 28 ?_
 refine rGq 3 29 ?_
 refine rNq 4 30 ?_
 refine rNq 5 31 ?_
 refine rNq 6 32 ?_
 refine rGq 7 33 ?_
 refine rGq 8 34 ?_
 refine rNq 9 35 ?_
 refine rNq 10 36 ?_
 refine rNq 11 37 ?_
 refine rNq 12 38 ?_
 refine rNq 13 39 ?_
 refine rNq 14 40 ?_
 refine rNq 15 41 ?_
 refine rNq 16 42 ?_
 refine rNq 17 43 ?_
 refine rNq 18 44 ?_
 refine rGq 19 45 ?_
 refine rGq 20 25 ?_
 refine wpAnyH_done (by kernel_rfl) ?_ _
 clear hHeld
 clear yx0a yx0b yx2a yx2b yx20a yx20b yx21a yx21b yi0 yi2 hS0
 have hg : W3.grownBy W3.drew none := gDr (gRf _ _)
 replace x0a := kNq hg x0a
 replace x0b := kNq hg x0b
 replace x2a := kNq hg x2a
 replace x2b := kNq hg x2b
 replace x20a := kNq hg x20a
 replace x20b := kNq hg x20b
 replace x21a := kNq hg x21a
 replace x21b := kNq hg x21b
 replace i0 := kNq hg i0
 replace i2 := kNq hg i2
 replace HI3 := bCq HI3 hg
 replace HR3 := bCq HR3 hg
 replace HS3 := rCq HS3 hg
 replace HG3 := gCq HG3 hg
 replace HA0 := tCq HA0 hg
 replace HA2 := tCq HA2 hg
 replace HA20 := tCq HA20 hg
 replace HA21 := tCq HA21 hg
 replace HQ2 := rCq HQ2 hg
 clear hg
 generalize W3.drew = wd0 at *
 go_wp2_with fail
 have hg := gBq (w := wd0) (.cells #[.int .i64 0, .int .i64 9, .int .i64 13] 3)
 have hK3 := heap_alloc_new wd0 (.cells #[.int .i64 0, .int .i64 9, .int .i64 13] 3)
 have HST := jh (sTq (ks := [0, 9, 13]) (kc := 3) (HS3.out.grow hg) (kinds3 hK3) (by decide))
 rw [hc] at HST
 refine HST.out.mono ?_; rintro e w2 ⟨rfl, rfl⟩
 clear HST hK3
 replace x0a := kNq hg x0a
 replace x0b := kNq hg x0b
 replace x2a := kNq hg x2a
 replace x2b := kNq hg x2b
 replace x20a := kNq hg x20a
 replace x20b := kNq hg x20b
 replace x21a := kNq hg x21a
 replace x21b := kNq hg x21b
 replace i0 := kNq hg i0
 replace i2 := kNq hg i2
 replace HI3 := bCq HI3 hg
 replace HR3 := bCq HR3 hg
 replace HS3 := rCq HS3 hg
 replace HG3 := gCq HG3 hg
 replace HA0 := tCq HA0 hg
 replace HA2 := tCq HA2 hg
 replace HA20 := tCq HA20 hg
 replace HA21 := tCq HA21 hg
 replace HQ2 := rCq HQ2 hg
 clear hg
 generalize wd0.alloc _ = wk at *
 go_wp2_with fail
 have yx0a := fun (w' : World) (h : wk.grownBy w' none) => kNq h x0a
 have yx0b := fun (w' : World) (h : wk.grownBy w' none) => kNq h x0b
 have yx2a := fun (w' : World) (h : wk.grownBy w' none) => kNq h x2a
 have yx2b := fun (w' : World) (h : wk.grownBy w' none) => kNq h x2b
 have yx20a := fun (w' : World) (h : wk.grownBy w' none) => kNq h x20a
 have yx20b := fun (w' : World) (h : wk.grownBy w' none) => kNq h x20b
 have yx21a := fun (w' : World) (h : wk.grownBy w' none) => kNq h x21a
 have yx21b := fun (w' : World) (h : wk.grownBy w' none) => kNq h x21b
 have yi0 := fun (w' : World) (h : wk.grownBy w' none) => kNq h i0
 have yi2 := fun (w' : World) (h : wk.grownBy w' none) => kNq h i2
 have hS0 : wk.grownBy wk none := gRf _ _
 go_cut [8, 9] (fun pv qv wx => ∃ bp bq : Nat, pv = .pointer (some ⟨bp, 0, none⟩) /\ qv = .pointer (some ⟨bq, 0, none⟩) /\ wx.heap[bp]? = some (.cells #[.int .i64 t20, .slice a20 l20 k20] 42 (0, 0)) /\ wx.heap[bq]? = some (.cells #[.int .i64 t21, .slice a21 l21 k21] 42 (0, 0)) /\ wk.grownBy wx none)
 case first =>
  go_region_held3 (fun w' => wk.grownBy w' none) (first | assumption | exact gDr (gRf _ _) | exact gDr (gBq _) | exact gDr (gTq (gBq _) (gBq _)) | exact gBq _ | exact gTq (gBq _) (gBq _)) (fail)
  all_goals
   go_wp2_with fail
   go_meet
   first
   | exact ⟨_, _, rfl, rfl, rNw _ _ _, new_two2 _ _ _, gDr (gTq (gBq _) (gBq _))⟩
   | exact ⟨_, _, rfl, rfl, new_two2 _ _ _, rNw _ _ _, gDr (gTq (gBq _) (gBq _))⟩
 clear yx0a yx0b yx2a yx2b yx20a yx20b yx21a yx21b yi0 yi2 hS0
 obtain ⟨bp, bq, rfl, rfl, hXp, hYq, hg⟩ := hcut
 replace x0a := kNq hg x0a
 replace x0b := kNq hg x0b
 replace x2a := kNq hg x2a
 replace x2b := kNq hg x2b
 replace x20a := kNq hg x20a
 replace x20b := kNq hg x20b
 replace x21a := kNq hg x21a
 replace x21b := kNq hg x21b
 replace i0 := kNq hg i0
 replace i2 := kNq hg i2
 replace HI3 := bCq HI3 hg
 replace HR3 := bCq HR3 hg
 replace HS3 := rCq HS3 hg
 replace HG3 := gCq HG3 hg
 replace HA0 := tCq HA0 hg
 replace HA2 := tCq HA2 hg
 replace HA20 := tCq HA20 hg
 replace HA21 := tCq HA21 hg
 replace HQ2 := rCq HQ2 hg
 clear hg
 have xpa := c0q hXp
 have xpb := c1q hXp
 have xqa := c0q hYq
 have xqb := c1q hYq
 clear hXp hYq
 go_wp2_with fail
 have yx0a := fun (w' : World) (h : wc.grownBy w' none) => kNq h x0a
 have yx0b := fun (w' : World) (h : wc.grownBy w' none) => kNq h x0b
 have yx2a := fun (w' : World) (h : wc.grownBy w' none) => kNq h x2a
 have yx2b := fun (w' : World) (h : wc.grownBy w' none) => kNq h x2b
 have yx20a := fun (w' : World) (h : wc.grownBy w' none) => kNq h x20a
 have yx20b := fun (w' : World) (h : wc.grownBy w' none) => kNq h x20b
 have yx21a := fun (w' : World) (h : wc.grownBy w' none) => kNq h x21a
 have yx21b := fun (w' : World) (h : wc.grownBy w' none) => kNq h x21b
 have yxpa := fun (w' : World) (h : wc.grownBy w' none) => kNq h xpa
 have yxpb := fun (w' : World) (h : wc.grownBy w' none) => kNq h xpb
 have yxqa := fun (w' : World) (h : wc.grownBy w' none) => kNq h xqa
 have yxqb := fun (w' : World) (h : wc.grownBy w' none) => kNq h xqb
 have yi0 := fun (w' : World) (h : wc.grownBy w' none) => kNq h i0
 have yi2 := fun (w' : World) (h : wc.grownBy w' none) => kNq h i2
 have hS0 : wc.grownBy wc none := gRf _ _
 refine wp_region_held_drew (S := fun w' => wc.grownBy w' none) (by kernel_rfl) ?_ (fun hHeld => ?_)
 ·exact gDr (gRf _ _)
 refine rGq 0 156 ?_
 refine rGq 1 157 ?_
 refine rGq 2 158 ?_
 refine rGq 3 159 ?_
 refine wpAnyH_ready (rs := [4]) (by kernel_rfl) (by simp) ?_
 refine AllReadyH.cons rfl (fun K hK => ?_) AllReadyH.nil
 go_simp
 go_at_call 16
 refine (same_any (HA0.out.same (sAl hHeld)).low (HA20.out.same (sAl hHeld)).low hz0).mono ?_; rintro e wt0 ⟨rfl, hg⟩
 rw [ht0]
 have hH9 := gTq hHeld hg
 refine hK.out _ _ hH9 (fun _ => ?_)
 have HGT0 := jh hH9
 have hST0 := hH9
 clear hK K hHeld hg
 have hHeld := hH9
 clear hH9
 refine rGq 5 161 ?_
 refine rNq 6 162 ?_
 refine rNq 7 163 ?_
 refine rNq 8 164 ?_
 refine rNq 9 165 ?_
 refine rNq 10 166 ?_
 refine rNq 11 167 ?_
 refine rNq 12 168 ?_
 refine rNq 13 169 ?_
 refine rGq 14 170 ?_
 refine wpAnyH_done (by kernel_rfl) ?_ _
 clear hHeld
 clear yx0a yx0b yx2a yx2b yx20a yx20b yx21a yx21b yxpa yxpb yxqa yxqb yi0 yi2 hS0
 have hg := HGT0.out
 replace x0a := kNq hg x0a
 replace x0b := kNq hg x0b
 replace x2a := kNq hg x2a
 replace x2b := kNq hg x2b
 replace x20a := kNq hg x20a
 replace x20b := kNq hg x20b
 replace x21a := kNq hg x21a
 replace x21b := kNq hg x21b
 replace xpa := kNq hg xpa
 replace xpb := kNq hg xpb
 replace xqa := kNq hg xqa
 replace xqb := kNq hg xqb
 replace i0 := kNq hg i0
 replace i2 := kNq hg i2
 replace HI3 := bCq HI3 hg
 replace HR3 := bCq HR3 hg
 replace HS3 := rCq HS3 hg
 replace HG3 := gCq HG3 hg
 replace HA0 := tCq HA0 hg
 replace HA2 := tCq HA2 hg
 replace HA20 := tCq HA20 hg
 replace HA21 := tCq HA21 hg
 replace HQ2 := rCq HQ2 hg
 clear hg
 clear hST0
 have yx0a := fun (w' : World) (h : wt0.grownBy w' (some (W.heap.size + 1))) => kDq HR3.out h x0a x0a
 have yx0b := fun (w' : World) (h : wt0.grownBy w' (some (W.heap.size + 1))) => kDq HR3.out h x0a x0b
 have yx2a := fun (w' : World) (h : wt0.grownBy w' (some (W.heap.size + 1))) => kDq HR3.out h x2a x2a
 have yx2b := fun (w' : World) (h : wt0.grownBy w' (some (W.heap.size + 1))) => kDq HR3.out h x2a x2b
 have yx20a := fun (w' : World) (h : wt0.grownBy w' (some (W.heap.size + 1))) => kDq HR3.out h x20a x20a
 have yx20b := fun (w' : World) (h : wt0.grownBy w' (some (W.heap.size + 1))) => kDq HR3.out h x20a x20b
 have yx21a := fun (w' : World) (h : wt0.grownBy w' (some (W.heap.size + 1))) => kDq HR3.out h x21a x21a
 have yx21b := fun (w' : World) (h : wt0.grownBy w' (some (W.heap.size + 1))) => kDq HR3.out h x21a x21b
 have yxpa := fun (w' : World) (h : wt0.grownBy w' (some (W.heap.size + 1))) => kDq HR3.out h xpa xpa
 have yxpb := fun (w' : World) (h : wt0.grownBy w' (some (W.heap.size + 1))) => kDq HR3.out h xpa xpb
 have yxqa := fun (w' : World) (h : wt0.grownBy w' (some (W.heap.size + 1))) => kDq HR3.out h xqa xqa
 have yxqb := fun (w' : World) (h : wt0.grownBy w' (some (W.heap.size + 1))) => kDq HR3.out h xqa xqb
 have hS3 : wt0.grownBy wt0 (some (W.heap.size + 1)) := gRf _ _
 go_wp2_with fail
 refine (rLq 5 (by decide) _).mono ?_
 rintro e w5 hp
 obtain ⟨a5, l5, c5, f5, er5, rfl, hS5, q0, q1, q2, HB5, HL5⟩ := lFq hp HG3.out (gRf _ _) HR3.out
 clear hp
 go_wp2_with fail
 exact eLq (fun w z0 z1 => by simp [results, Tryz.results32, go_sem, z0, z1]) rfl HB5.out HL5.out
theorem gathers_63n2 {W : World} {n : Int} {ta ra da : Option Addr} {tl tc rl rc dl dc : Nat} {dk dn dp : Int} {ds : ByteArray} {s types : List Ty} {sv : Value} (hs : RowC W s sv) (hT : RowC W types (.slice ta tl tc)) (hc : sFq s [0, 9, 13] = true) (ht0 : sameT (tAq s 0) (tAq (tAq s 2).args 0) = true) (hz0 : (tAq s 0).size <= 50000000) (ht1 : sameT (tAq (tAq s 1).args 0) (tAq (tAq s 2).args 1) = false) (hz1 : (tAq (tAq s 1).args 0).size <= 50000000) (hgd : s.all gYq = true) (hn : s.length <= 1000) :
 Calls Tryz.prog 32 #[insV 63 n ta tl tc ra rl rc dk dn dp ds da dl dc, sv] W (LPq (.no 5) W) := by
 obtain ⟨sa, sl, sc, e1⟩ := hs.form3
 subst e1
 unfold insV
 obtain ⟨hg3, hI3, hR3⟩ := start2 W (.cells #[.int .i64 63, .int .i64 n, .slice ta tl tc, .slice ra rl rc, .int .i64 dk, .int .i64 dn, .int .i64 dp, .string ds, .slice da dl dc] 56) (.cells #[.slice none 0 0, .bool false] 27)
 have hs3 := hs.grow hg3
 have hT3 := hT.grow hg3
 have hlen : 3 <= s.length := slq hc
 obtain ⟨hsl, hsc, _⟩ := hs3.len
 obtain ⟨b, o, t0, a0, l0, k0, rfl, x0a, x0b, hA0⟩ := hs3.at 0 (by omega)
 have HA0 := jh hA0
 obtain ⟨_, _, t1, a1, l1, k1, eb, x1a, x1b, hA1⟩ := hs3.at 1 (by omega)
 simp only [Option.some.injEq, Addr.mk.injEq, and_true] at eb
 obtain ⟨rfl, rfl⟩ := eb
 have HA1 := jh hA1
 obtain ⟨_, _, t2, a2, l2, k2, eb, x2a, x2b, hA2⟩ := hs3.at 2 (by omega)
 simp only [Option.some.injEq, Addr.mk.injEq, and_true] at eb
 obtain ⟨rfl, rfl⟩ := eb
 have HA2 := jh hA2
 have hq1 : (tAq s 1).args.length = 1 := cAq hc hgd 1 9 1 rfl (by decide) (by decide)
 obtain ⟨_, hr1⟩ := hA1.args
 obtain ⟨el1, ec1, _⟩ := hr1.len
 rw [hq1] at el1 ec1
 subst el1
 have HQ1 := jh hr1
 have HQL := jh hq1
 obtain ⟨nb1, no1, t10, a10, l10, k10, rfl, x10a, x10b, hA10⟩ := hr1.at 0 (by omega)
 have HA10 := jh hA10
 have hq2 : (tAq s 2).args.length = 2 := cAq hc hgd 2 13 2 rfl (by decide) (by decide)
 obtain ⟨_, hr2⟩ := hA2.args
 obtain ⟨el2, ec2, _⟩ := hr2.len
 rw [hq2] at el2 ec2
 subst el2
 have HQ2 := jh hr2
 have HQL := jh hq2
 obtain ⟨nb2, no2, t20, a20, l20, k20, rfl, x20a, x20b, hA20⟩ := hr2.at 0 (by omega)
 have HA20 := jh hA20
 obtain ⟨_, _, t21, a21, l21, k21, eb, x21a, x21b, hA21⟩ := hr2.at 1 (by omega)
 simp only [Option.some.injEq, Addr.mk.injEq, and_true] at eb
 obtain ⟨rfl, rfl⟩ := eb
 have HA21 := jh hA21
 have bz1 : (1 : Int) <= (sl : Int) := by omega
 have by0 : 0 < sl := by omega
 have bz2 : (2 : Int) <= (sl : Int) := by omega
 have by1 : (1 : Int) < (sl : Int) := by omega
 have bz3 : (3 : Int) <= (sl : Int) := by omega
 have by2 : (2 : Int) < (sl : Int) := by omega
 have b1 : (sl : Int) <= (sc : Int) := by omega
 have HSL := jh hsl
 have HG3 := jh hg3
 have HI3 := jh hI3
 have HR3 := jh hR3
 have HS3 := jh hs3
 have HLEN := jh hlen
 simp only [Nat.reduceMul, Nat.reduceAdd, Nat.add_zero, Nat.mul_zero, Nat.zero_add] at x0a x0b x1a x1b x2a x2b x10a x10b x20a x20b x21a x21b
 obtain ⟨i0, i1, i2, i3, _⟩ := box9 hI3
 clear hg3 hI3 hR3 hs hs3 hT hT3 hsl hlen hgd hA0 hA1 hA2 hr1 hq1 hA10 hr2 hq2 hA20 hA21
 go_enter Tryz.func32, Tryz.ntmps32
 go_wp2_with fail
 generalize (W.alloc _).alloc _ = W3 at *
 have yx0a := fun (w' : World) (h : W3.grownBy w' none) => kNq h x0a
 have yx0b := fun (w' : World) (h : W3.grownBy w' none) => kNq h x0b
 have yx1a := fun (w' : World) (h : W3.grownBy w' none) => kNq h x1a
 have yx1b := fun (w' : World) (h : W3.grownBy w' none) => kNq h x1b
 have yx2a := fun (w' : World) (h : W3.grownBy w' none) => kNq h x2a
 have yx2b := fun (w' : World) (h : W3.grownBy w' none) => kNq h x2b
 have yx10a := fun (w' : World) (h : W3.grownBy w' none) => kNq h x10a
 have yx10b := fun (w' : World) (h : W3.grownBy w' none) => kNq h x10b
 have yx20a := fun (w' : World) (h : W3.grownBy w' none) => kNq h x20a
 have yx20b := fun (w' : World) (h : W3.grownBy w' none) => kNq h x20b
 have yx21a := fun (w' : World) (h : W3.grownBy w' none) => kNq h x21a
 have yx21b := fun (w' : World) (h : W3.grownBy w' none) => kNq h x21b
 have yi0 := fun (w' : World) (h : W3.grownBy w' none) => kNq h i0
 have yi2 := fun (w' : World) (h : W3.grownBy w' none) => kNq h i2
 have hS0 : W3.grownBy W3 none := gRf _ _
 refine wp_region_held_drew (S := fun w' => W3.grownBy w' none) (by kernel_rfl) ?_ (fun hHeld => ?_)
 ·exact gDr (gRf _ _)
 refine rGq 0 26 ?_
 refine rGq 1 27 ?_
 refine rGq 2 28 ?_
 refine rGq 3 29 ?_
 refine rNq 4 30 ?_
 refine rNq 5 31 ?_
 refine rNq 6 32 ?_
 refine rGq 7 33 ?_
 refine rGq 8 34 ?_
 refine rNq 9 35 ?_
 refine rNq 10 36 ?_
 refine rNq 11 37 ?_
 refine rNq 12 38 ?_
 refine rNq 13 39 ?_
 refine rNq 14 40 ?_
 refine rNq 15 41 ?_
 refine rNq 16 42 ?_
 refine rNq 17 43 ?_
 refine rNq 18 44 ?_
 refine rGq 19 45 ?_
 refine rGq 20 25 ?_
 refine wpAnyH_done (by kernel_rfl) ?_ _
 clear hHeld
 clear yx0a yx0b yx1a yx1b yx2a yx2b yx10a yx10b yx20a yx20b yx21a yx21b yi0 yi2 hS0
 have hg : W3.grownBy W3.drew none := gDr (gRf _ _)
 replace x0a := kNq hg x0a
 replace x0b := kNq hg x0b
 replace x1a := kNq hg x1a
 replace x1b := kNq hg x1b
 replace x2a := kNq hg x2a
 replace x2b := kNq hg x2b
 replace x10a := kNq hg x10a
 replace x10b := kNq hg x10b
 replace x20a := kNq hg x20a
 replace x20b := kNq hg x20b
 replace x21a := kNq hg x21a
 replace x21b := kNq hg x21b
 replace i0 := kNq hg i0
 replace i2 := kNq hg i2
 replace HI3 := bCq HI3 hg
 replace HR3 := bCq HR3 hg
 replace HS3 := rCq HS3 hg
 replace HG3 := gCq HG3 hg
 replace HA0 := tCq HA0 hg
 replace HA1 := tCq HA1 hg
 replace HA2 := tCq HA2 hg
 replace HA10 := tCq HA10 hg
 replace HA20 := tCq HA20 hg
 replace HA21 := tCq HA21 hg
 replace HQ1 := rCq HQ1 hg
 replace HQ2 := rCq HQ2 hg
 clear hg
 generalize W3.drew = wd0 at *
 go_wp2_with fail
 have hg := gBq (w := wd0) (.cells #[.int .i64 0, .int .i64 9, .int .i64 13] 3)
 have hK3 := heap_alloc_new wd0 (.cells #[.int .i64 0, .int .i64 9, .int .i64 13] 3)
 have HST := jh (sTq (ks := [0, 9, 13]) (kc := 3) (HS3.out.grow hg) (kinds3 hK3) (by decide))
 rw [hc] at HST
 refine HST.out.mono ?_; rintro e w2 ⟨rfl, rfl⟩
 clear HST hK3
 replace x0a := kNq hg x0a
 replace x0b := kNq hg x0b
 replace x1a := kNq hg x1a
 replace x1b := kNq hg x1b
 replace x2a := kNq hg x2a
 replace x2b := kNq hg x2b
 replace x10a := kNq hg x10a
 replace x10b := kNq hg x10b
 replace x20a := kNq hg x20a
 replace x20b := kNq hg x20b
 replace x21a := kNq hg x21a
 replace x21b := kNq hg x21b
 replace i0 := kNq hg i0
 replace i2 := kNq hg i2
 replace HI3 := bCq HI3 hg
 replace HR3 := bCq HR3 hg
 replace HS3 := rCq HS3 hg
 replace HG3 := gCq HG3 hg
 replace HA0 := tCq HA0 hg
 replace HA1 := tCq HA1 hg
 replace HA2 := tCq HA2 hg
 replace HA10 := tCq HA10 hg
 replace HA20 := tCq HA20 hg
 replace HA21 := tCq HA21 hg
 replace HQ1 := rCq HQ1 hg
 replace HQ2 := rCq HQ2 hg
 clear hg
 generalize wd0.alloc _ = wk at *
 go_wp2_with fail
 have yx0a := fun (w' : World) (h : wk.grownBy w' none) => kNq h x0a
 have yx0b := fun (w' : World) (h : wk.grownBy w' none) => kNq h x0b
 have yx1a := fun (w' : World) (h : wk.grownBy w' none) => kNq h x1a
 have yx1b := fun (w' : World) (h : wk.grownBy w' none) => kNq h x1b
 have yx2a := fun (w' : World) (h : wk.grownBy w' none) => kNq h x2a
 have yx2b := fun (w' : World) (h : wk.grownBy w' none) => kNq h x2b
 have yx10a := fun (w' : World) (h : wk.grownBy w' none) => kNq h x10a
 have yx10b := fun (w' : World) (h : wk.grownBy w' none) => kNq h x10b
 have yx20a := fun (w' : World) (h : wk.grownBy w' none) => kNq h x20a
 have yx20b := fun (w' : World) (h : wk.grownBy w' none) => kNq h x20b
 have yx21a := fun (w' : World) (h : wk.grownBy w' none) => kNq h x21a
 have yx21b := fun (w' : World) (h : wk.grownBy w' none) => kNq h x21b
 have yi0 := fun (w' : World) (h : wk.grownBy w' none) => kNq h i0
 have yi2 := fun (w' : World) (h : wk.grownBy w' none) => kNq h i2
 have hS0 : wk.grownBy wk none := gRf _ _
 go_cut [8, 9] (fun pv qv wx => ∃ bp bq : Nat, pv = .pointer (some ⟨bp, 0, none⟩) /\ qv = .pointer (some ⟨bq, 0, none⟩) /\ wx.heap[bp]? = some (.cells #[.int .i64 t20, .slice a20 l20 k20] 42 (0, 0)) /\ wx.heap[bq]? = some (.cells #[.int .i64 t21, .slice a21 l21 k21] 42 (0, 0)) /\ wk.grownBy wx none)
 case first =>
  go_region_held3 (fun w' => wk.grownBy w' none) (first | assumption | exact gDr (gRf _ _) | exact gDr (gBq _) | exact gDr (gTq (gBq _) (gBq _)) | exact gBq _ | exact gTq (gBq _) (gBq _)) (fail)
  all_goals
   go_wp2_with fail
   go_meet
   first
   | exact ⟨_, _, rfl, rfl, rNw _ _ _, new_two2 _ _ _, gDr (gTq (gBq _) (gBq _))⟩
   | exact ⟨_, _, rfl, rfl, new_two2 _ _ _, rNw _ _ _, gDr (gTq (gBq _) (gBq _))⟩
 clear yx0a yx0b yx1a yx1b yx2a yx2b yx10a yx10b yx20a yx20b yx21a yx21b yi0 yi2 hS0
 obtain ⟨bp, bq, rfl, rfl, hXp, hYq, hg⟩ := hcut
 replace x0a := kNq hg x0a
 replace x0b := kNq hg x0b
 replace x1a := kNq hg x1a
 replace x1b := kNq hg x1b
 replace x2a := kNq hg x2a
 replace x2b := kNq hg x2b
 replace x10a := kNq hg x10a
 replace x10b := kNq hg x10b
 replace x20a := kNq hg x20a
 replace x20b := kNq hg x20b
 replace x21a := kNq hg x21a
 replace x21b := kNq hg x21b
 replace i0 := kNq hg i0
 replace i2 := kNq hg i2
 replace HI3 := bCq HI3 hg
 replace HR3 := bCq HR3 hg
 replace HS3 := rCq HS3 hg
 replace HG3 := gCq HG3 hg
 replace HA0 := tCq HA0 hg
 replace HA1 := tCq HA1 hg
 replace HA2 := tCq HA2 hg
 replace HA10 := tCq HA10 hg
 replace HA20 := tCq HA20 hg
 replace HA21 := tCq HA21 hg
 replace HQ1 := rCq HQ1 hg
 replace HQ2 := rCq HQ2 hg
 clear hg
 have xpa := c0q hXp
 have xpb := c1q hXp
 have xqa := c0q hYq
 have xqb := c1q hYq
 clear hXp hYq
 go_wp2_with fail
 have yx0a := fun (w' : World) (h : wc.grownBy w' none) => kNq h x0a
 have yx0b := fun (w' : World) (h : wc.grownBy w' none) => kNq h x0b
 have yx1a := fun (w' : World) (h : wc.grownBy w' none) => kNq h x1a
 have yx1b := fun (w' : World) (h : wc.grownBy w' none) => kNq h x1b
 have yx2a := fun (w' : World) (h : wc.grownBy w' none) => kNq h x2a
 have yx2b := fun (w' : World) (h : wc.grownBy w' none) => kNq h x2b
 have yx10a := fun (w' : World) (h : wc.grownBy w' none) => kNq h x10a
 have yx10b := fun (w' : World) (h : wc.grownBy w' none) => kNq h x10b
 have yx20a := fun (w' : World) (h : wc.grownBy w' none) => kNq h x20a
 have yx20b := fun (w' : World) (h : wc.grownBy w' none) => kNq h x20b
 have yx21a := fun (w' : World) (h : wc.grownBy w' none) => kNq h x21a
 have yx21b := fun (w' : World) (h : wc.grownBy w' none) => kNq h x21b
 have yxpa := fun (w' : World) (h : wc.grownBy w' none) => kNq h xpa
 have yxpb := fun (w' : World) (h : wc.grownBy w' none) => kNq h xpb
 have yxqa := fun (w' : World) (h : wc.grownBy w' none) => kNq h xqa
 have yxqb := fun (w' : World) (h : wc.grownBy w' none) => kNq h xqb
 have yi0 := fun (w' : World) (h : wc.grownBy w' none) => kNq h i0
 have yi2 := fun (w' : World) (h : wc.grownBy w' none) => kNq h i2
 have hS0 : wc.grownBy wc none := gRf _ _
 refine wp_region_held_drew (S := fun w' => wc.grownBy w' none) (by kernel_rfl) ?_ (fun hHeld => ?_)
 ·exact gDr (gRf _ _)
 refine rGq 0 156 ?_
 refine rGq 1 157 ?_
 refine rGq 2 158 ?_
 refine rGq 3 159 ?_
 refine wpAnyH_ready (rs := [4]) (by kernel_rfl) (by simp) ?_
 refine AllReadyH.cons rfl (fun K hK => ?_) AllReadyH.nil
 go_simp
 go_at_call 16
 refine (same_any (HA0.out.same (sAl hHeld)).low (HA20.out.same (sAl hHeld)).low hz0).mono ?_; rintro e wt0 ⟨rfl, hg⟩
 rw [ht0]
 have hH9 := gTq hHeld hg
 refine hK.out _ _ hH9 (fun _ => ?_)
 have HGT0 := jh hH9
 have hST0 := hH9
 clear hK K hHeld hg
 have hHeld := hH9
 clear hH9
 refine rGq 5 161 ?_
 refine rGq 6 162 ?_
 refine rGq 7 163 ?_
 refine rGq 8 164 ?_
 refine rGq 9 165 ?_
 refine rGq 10 166 ?_
 refine rGq 11 167 ?_
 refine rGq 12 168 ?_
 refine wpAnyH_ready (rs := [13]) (by kernel_rfl) (by simp) ?_
 refine AllReadyH.cons rfl (fun K hK => ?_) AllReadyH.nil
 go_simp
 go_at_call 16
 refine (same_any (HA10.out.same (sAl hHeld)).low (HA21.out.same (sAl hHeld)).low hz1).mono ?_; rintro e wt1 ⟨rfl, hg⟩
 rw [ht1]
 have hH9 := gTq hHeld hg
 refine hK.out _ _ hH9 (fun _ => ?_)
 have HGT1 := jh hH9
 have hST1 := hH9
 clear hK K hHeld hg
 have hHeld := hH9
 clear hH9
 refine rGq 14 170 ?_
 refine wpAnyH_done (by kernel_rfl) ?_ _
 clear hHeld
 clear yx0a yx0b yx1a yx1b yx2a yx2b yx10a yx10b yx20a yx20b yx21a yx21b yxpa yxpb yxqa yxqb yi0 yi2 hS0
 have hg := HGT1.out
 replace x0a := kNq hg x0a
 replace x0b := kNq hg x0b
 replace x1a := kNq hg x1a
 replace x1b := kNq hg x1b
 replace x2a := kNq hg x2a
 replace x2b := kNq hg x2b
 replace x10a := kNq hg x10a
 replace x10b := kNq hg x10b
 replace x20a := kNq hg x20a
 replace x20b := kNq hg x20b
 replace x21a := kNq hg x21a
 replace x21b := kNq hg x21b
 replace xpa := kNq hg xpa
 replace xpb := kNq hg xpb
 replace xqa := kNq hg xqa
 replace xqb := kNq hg xqb
 replace i0 := kNq hg i0
 replace i2 := kNq hg i2
 replace HI3 := bCq HI3 hg
 replace HR3 := bCq HR3 hg
 replace HS3 := rCq HS3 hg
 replace HG3 := gCq HG3 hg
 replace HA0 := tCq HA0 hg
 replace HA1 := tCq HA1 hg
 replace HA2 := tCq HA2 hg
 replace HA10 := tCq HA10 hg
 replace HA20 := tCq HA20 hg
 replace HA21 := tCq HA21 hg
 replace HQ1 := rCq HQ1 hg
 replace HQ2 := rCq HQ2 hg
 clear hg
 clear hST0 hST1
 have yx0a := fun (w' : World) (h : wt1.grownBy w' (some (W.heap.size + 1))) => kDq HR3.out h x0a x0a
 have yx0b := fun (w' : World) (h : wt1.grownBy w' (some (W.heap.size + 1))) => kDq HR3.out h x0a x0b
 have yx1a := fun (w' : World) (h : wt1.grownBy w' (some (W.heap.size + 1))) => kDq HR3.out h x1a x1a
 have yx1b := fun (w' : World) (h : wt1.grownBy w' (some (W.heap.size + 1))) => kDq HR3.out h x1a x1b
 have yx2a := fun (w' : World) (h : wt1.grownBy w' (some (W.heap.size + 1))) => kDq HR3.out h x2a x2a
 have yx2b := fun (w' : World) (h : wt1.grownBy w' (some (W.heap.size + 1))) => kDq HR3.out h x2a x2b
 have yx10a := fun (w' : World) (h : wt1.grownBy w' (some (W.heap.size + 1))) => kDq HR3.out h x10a x10a
 have yx10b := fun (w' : World) (h : wt1.grownBy w' (some (W.heap.size + 1))) => kDq HR3.out h x10a x10b
 have yx20a := fun (w' : World) (h : wt1.grownBy w' (some (W.heap.size + 1))) => kDq HR3.out h x20a x20a
 have yx20b := fun (w' : World) (h : wt1.grownBy w' (some (W.heap.size + 1))) => kDq HR3.out h x20a x20b
 have yx21a := fun (w' : World) (h : wt1.grownBy w' (some (W.heap.size + 1))) => kDq HR3.out h x21a x21a
 have yx21b := fun (w' : World) (h : wt1.grownBy w' (some (W.heap.size + 1))) => kDq HR3.out h x21a x21b
 have yxpa := fun (w' : World) (h : wt1.grownBy w' (some (W.heap.size + 1))) => kDq HR3.out h xpa xpa
 have yxpb := fun (w' : World) (h : wt1.grownBy w' (some (W.heap.size + 1))) => kDq HR3.out h xpa xpb
 have yxqa := fun (w' : World) (h : wt1.grownBy w' (some (W.heap.size + 1))) => kDq HR3.out h xqa xqa
 have yxqb := fun (w' : World) (h : wt1.grownBy w' (some (W.heap.size + 1))) => kDq HR3.out h xqa xqb
 have hS3 : wt1.grownBy wt1 (some (W.heap.size + 1)) := gRf _ _
 go_wp2_with fail
 refine (rLq 5 (by decide) _).mono ?_
 rintro e w5 hp
 obtain ⟨a5, l5, c5, f5, er5, rfl, hS5, q0, q1, q2, HB5, HL5⟩ := lFq hp HG3.out (gRf _ _) HR3.out
 clear hp
 go_wp2_with fail
 exact eLq (fun w z0 z1 => by simp [results, Tryz.results32, go_sem, z0, z1]) rfl HB5.out HL5.out
end Go.Proofs.YtfakmokbccnamaaGreat
