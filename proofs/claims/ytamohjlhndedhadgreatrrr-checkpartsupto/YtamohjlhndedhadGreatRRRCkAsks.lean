import Derived.Test.YtamohjlhndedhadGreatRRRZd
import Derived.Test.YtamohjlhndedhadGreatRRRZa
namespace Go.Proofs.YtamohjlhndedhadGreatRRR
set_option maxRecDepth 100000
set_option maxHeartbeats 4000000
open Go.ChangeShapes Go.WideShapes Go.ChangeAt Go.RowKit
set_option linter.unusedVariables false
set_option linter.unusedSimpArgs false
theorem asks_73 {W : World} {n : Int} {ta ra da : Option Addr} {tl tc rl rc dl dc : Nat} {dk dn dp : Int} {ds : ByteArray} {s types : List Ty} {sv : Value} (hs : RowC W s sv) (hT : RowC W types (.slice ta tl tc)) (hc : standF s [0, 0] = true) (ht0 : sameT (tyAt s 0) (tyAt s 1) = true) (hz0 : (tyAt s 0).size <= 50000000) (ht1 : compT (tyAt s 0) = true) (hz1 : (tyAt s 0).size <= 50000000) (hgd : s.all goodTy = true) (hn : s.length <= 1000) :
 Calls Tryz.prog 38 #[insV 73 n ta tl tc ra rl rc dk dn dp ds da dl dc, sv] W (LedPost (putF (s.drop 2) [(.nd 3 [])]) W) := by
 obtain ⟨sa, sl, sc, e1⟩ := hs.form3
 subst e1
 unfold insV
 obtain ⟨hg3, hI3, hR3⟩ := start2 W (.cells #[.int .i64 73, .int .i64 n, .slice ta tl tc, .slice ra rl rc, .int .i64 dk, .int .i64 dn, .int .i64 dp, .string ds, .slice da dl dc] 59) (.cells #[.slice none 0 0, .bool false] 27)
 have hs3 := hs.grow hg3
 have hT3 := hT.grow hg3
 have hlen : 2 <= s.length := stand_len hc
 obtain ⟨hsl, hsc, _⟩ := hs3.len
 obtain ⟨b, o, t0, a0, l0, k0, rfl, x0a, x0b, hA0⟩ := hs3.at 0 (by omega)
 have HA0 := jh hA0
 obtain ⟨_, _, t1, a1, l1, k1, eb, x1a, x1b, hA1⟩ := hs3.at 1 (by omega)
 simp only [Option.some.injEq, Addr.mk.injEq, and_true] at eb
 obtain ⟨rfl, rfl⟩ := eb
 have HA1 := jh hA1
 have bz1 : (1 : Int) <= (sl : Int) := by omega
 have by0 : 0 < sl := by omega
 have bz2 : (2 : Int) <= (sl : Int) := by omega
 have by1 : (1 : Int) < (sl : Int) := by omega
 have b1 : (sl : Int) <= (sc : Int) := by omega
 have HSL := jh hsl
 have HG3 := jh hg3
 have HI3 := jh hI3
 have HR3 := jh hR3
 have HS3 := jh hs3
 have HLEN := jh hlen
 simp only [Nat.reduceMul, Nat.reduceAdd, Nat.add_zero, Nat.mul_zero, Nat.zero_add] at x0a x0b x1a x1b
 obtain ⟨i0, i1, i2, i3, _⟩ := box9 hI3
 clear hg3 hI3 hR3 hs hs3 hT hT3 hsl hlen hgd hA0 hA1
 go_enter Tryz.func38, Tryz.ntmps38
 go_wp2_with fail
 generalize (W.alloc _).alloc _ = W3 at *
 have yx0a := fun (w' : World) (h : W3.grownBy w' none) => kNq h x0a
 have yx0b := fun (w' : World) (h : W3.grownBy w' none) => kNq h x0b
 have yx1a := fun (w' : World) (h : W3.grownBy w' none) => kNq h x1a
 have yx1b := fun (w' : World) (h : W3.grownBy w' none) => kNq h x1b
 have yi0 := fun (w' : World) (h : W3.grownBy w' none) => kNq h i0
 have yi2 := fun (w' : World) (h : W3.grownBy w' none) => kNq h i2
 have hS0 : W3.grownBy W3 none := gRf _ _
 have HST := jh (stand_any (W := (W3.alloc (.cells #[.int .i64 0, .int .i64 0] 3)).drew) (ks := [0, 0]) (kc := 2) (HS3.out.grow (gDr (Lf.gb _))) (kinds2 (heap_alloc_new W3 _)) (by decide))
 rw [hc] at HST
 first
  | (go_region_held3 (fun w' => W3.grownBy w' none) (first | with_reducible assumption | with_reducible exact gDr (gRf _ _) | with_reducible exact Lf.gbt (by assumption) (Lf.gb _) | with_reducible exact gDr (Lf.gb _)) (first
   | (go_at_call 52; refine HST.out.mono ?_; rintro e w1 ⟨rfl, rfl⟩)
   | (go_at_call 17; refine (same_any (HA0.out.same (sAl (gDr (Lf.gb _)))).low (HA1.out.same (sAl (gDr (Lf.gb _)))).low hz0).mono ?_; rintro e wt0 ⟨rfl, hg⟩; rw [ht0]; have HGT0 : Hid (W3.grownBy wt0 none) := Lf.gbt (gDr (Lf.gb _)) hg; have hST0 := HGT0.out; clear hg)
   | (go_at_call 49; have hprev := HGT0.out; clear hprev; refine (comparable_any (HA0.out.same (sAl HGT0.out)).low hz1).mono ?_; rintro e wt1 ⟨rfl, hg⟩; rw [ht1]; have HGT1 : Hid (W3.grownBy wt1 none) := Lf.gbt HGT0.out hg; have hST1 := HGT1.out; clear hg)))
  | fail
 clear yx0a yx0b yx1a yx1b yi0 yi2 hS0
 have hg := HGT1.out
 replace x0a := kNq hg x0a
 replace x0b := kNq hg x0b
 replace x1a := kNq hg x1a
 replace x1b := kNq hg x1b
 replace i0 := kNq hg i0
 replace i2 := kNq hg i2
 replace HI3 := jh (kBq HI3.out hg)
 replace HR3 := jh (kBq HR3.out hg)
 replace HS3 := jh (HS3.out.grow hg)
 replace HG3 := jh (Lf.gbt HG3.out hg)
 replace HA0 := jh (HA0.out.same (sAl hg))
 replace HA1 := jh (HA1.out.same (sAl hg))
 clear hg
 clear hST0 hST1 HST
 have yx0a := fun (w' : World) (h : wt1.grownBy w' (some (W.heap.size + 1))) => kDq HR3.out h x0a x0a
 have yx0b := fun (w' : World) (h : wt1.grownBy w' (some (W.heap.size + 1))) => kDq HR3.out h x0a x0b
 have yx1a := fun (w' : World) (h : wt1.grownBy w' (some (W.heap.size + 1))) => kDq HR3.out h x1a x1a
 have yx1b := fun (w' : World) (h : wt1.grownBy w' (some (W.heap.size + 1))) => kDq HR3.out h x1a x1b
 have hS3 : wt1.grownBy wt1 (some (W.heap.size + 1)) := gRf _ _
 rcases (show (sc = 2 /\ sl = 2) \/ (¬ sc = 2 /\ ¬ sc - 2 = 0) by omega) with ⟨rfl, rfl⟩ | ⟨hc2, hc3⟩
 have HD := jh (HS3.out.dropAll 2 (by have := HSL.out; omega) (some ⟨b, o, none⟩) 0)
 rotate_left
 have HD := jh (HS3.out.drop 2 (by have := HLEN.out; omega))
 all_goals
  go_wp2_with fail
  go_region_held3 (fun w' => wt1.grownBy w' (some (W.heap.size + 1))) (first | with_reducible assumption | with_reducible exact gDr (gRf _ _) | with_reducible exact grow_setR (by assumption) | with_reducible exact grow_trans (by assumption) (gAq (Lf.gb _)) | with_reducible exact gDr (gAq (Lf.gb _))) (first
   | (go_at_call 56; refine (of_any 3 _ _ _ _).mono ?_; rintro e w10 ⟨rfl, hg⟩; have HU0 := jh (LiesT.ofC (t := 3) ⟨by decide, by decide⟩ (RowC.grow (RowC.nil _ none 0) (undrew hg))); have HG10 : Hid (wt1.grownBy w10 none) := Lf.gbt (gRf _ _) (undrew hg); have hS : wt1.grownBy w10 (some (W.heap.size + 1)) := gAq HG10.out; clear hg)
   | (go_at_call 53; have hprev := HG10.out; clear hprev; refine (put_any (HD.out.grow (Lf.gbt HG10.out (Lf.gb _))) (RowC.one (heap_alloc_new w10 _) (HU0.out.same (sAl (Lf.gb _)))) (by simp; omega)).mono ?_; rintro e w5 hp; obtain ⟨a5, l5, c5, f5, er5, rfl, hS5, q0, q1, q2, HB5, HL5⟩ := led_fin hp HG3.out (Lf.gbt HG10.out (Lf.gb _)) HR3.out; clear hp))
  go_wp2_with fail
  exact end_led (fun w z0 z1 => by simp [results, Tryz.results38, go_sem, z0, z1]) rfl HB5.out HL5.out
theorem asks_73n {W : World} {n : Int} {ta ra da : Option Addr} {tl tc rl rc dl dc : Nat} {dk dn dp : Int} {ds : ByteArray} {s types : List Ty} {sv : Value} (hs : RowC W s sv) (hT : RowC W types (.slice ta tl tc)) (hc : standF s [0, 0] = false) (hgd : s.all goodTy = true) (hn : s.length <= 1000) :
 Calls Tryz.prog 38 #[insV 73 n ta tl tc ra rl rc dk dn dp ds da dl dc, sv] W (LedPost (.no 5) W) := by
 obtain ⟨sa, sl, sc, e1⟩ := hs.form3
 subst e1
 unfold insV
 obtain ⟨hg3, hI3, hR3⟩ := start2 W (.cells #[.int .i64 73, .int .i64 n, .slice ta tl tc, .slice ra rl rc, .int .i64 dk, .int .i64 dn, .int .i64 dp, .string ds, .slice da dl dc] 59) (.cells #[.slice none 0 0, .bool false] 27)
 have hs3 := hs.grow hg3
 have hT3 := hT.grow hg3
 have hlen : 0 <= s.length := Nat.zero_le _
 obtain ⟨hsl, hsc, _⟩ := hs3.len
 have b1 : (sl : Int) <= (sc : Int) := by omega
 have HSL := jh hsl
 have HG3 := jh hg3
 have HI3 := jh hI3
 have HR3 := jh hR3
 have HS3 := jh hs3
 have HLEN := jh hlen
 obtain ⟨i0, i1, i2, i3, _⟩ := box9 hI3
 clear hg3 hI3 hR3 hs hs3 hT hT3 hsl hlen hgd
 go_enter Tryz.func38, Tryz.ntmps38
 go_wp2_with fail
 generalize (W.alloc _).alloc _ = W3 at *
 have yi0 := fun (w' : World) (h : W3.grownBy w' none) => kNq h i0
 have yi2 := fun (w' : World) (h : W3.grownBy w' none) => kNq h i2
 have hS0 : W3.grownBy W3 none := gRf _ _
 have HST := jh (stand_any (W := W3.drew.alloc (.cells #[.int .i64 0, .int .i64 0] 3)) (ks := [0, 0]) (kc := 2) (HS3.out.grow (Lf.gbt (gDr (gRf _ _)) (Lf.gb _))) (kinds2 (heap_alloc_new W3.drew _)) (by decide))
 rw [hc] at HST
 refine wp_region_held_drew (S := fun w' => W3.grownBy w' none) (by kernel_rfl) ?_ (fun hHeld => ?_)
 ·exact gDr (gRf _ _)
 refine rGq 0 7 ?_
 simp only [Act.put, pS]
 refine rGq 1 8 ?_
 simp only [Act.put, pS]
 refine rGq 2 9 ?_
 simp only [Act.put, pS]
 refine rGq 3 10 ?_
 simp only [Act.put, pS]
 refine rGq 4 11 ?_
 simp only [Act.put, pS]
 refine wpAnyH_ready (rs := [5]) (by kernel_rfl) (by simp) ?_
 refine AllReadyH.cons rfl (fun K hK => ?_) AllReadyH.nil
 go_simp
 refine hK.out _ _ (Lf.gbt hHeld (Lf.gb _)) (fun _ => ?_)
 clear hK K
 replace hHeld := Lf.gbt hHeld (Lf.gb (w := W3.drew) (.cells #[.int .i64 0, .int .i64 0] 3))
 refine wpAnyH_ready (rs := [6]) (by kernel_rfl) (by simp) ?_
 refine AllReadyH.cons rfl (fun K hK => ?_) AllReadyH.nil
 go_simp
 go_at_call 52
 refine HST.out.mono ?_; rintro e w1 ⟨rfl, rfl⟩
 refine hK.out _ _ hHeld (fun _ => ?_)
 clear hK K
 refine rGq 7 14 ?_
 simp only [Act.put, pS]
 refine rGq 8 15 ?_
 simp only [Act.put, pS]
 refine rNq 9 16 (rNq 10 17 (rNq 11 18 ?_))
 simp only [Act.put, pS]
 refine rNq 12 19 (rNq 13 20 (rNq 14 21 ?_))
 simp only [Act.put, pS]
 refine rNq 15 22 ?_
 simp only [Act.put, pS]
 refine rGq 16 23 ?_
 simp only [Act.put, pS]
 refine rGq 17 24 ?_
 simp only [Act.put, pS]
 refine rNq 18 25 (rNq 19 26 (rNq 20 27 ?_))
 simp only [Act.put, pS]
 refine rNq 21 28 ?_
 simp only [Act.put, pS]
 refine rGq 22 29 ?_
 simp only [Act.put, pS]
 refine rGq 23 6 ?_
 simp only [Act.put, pS]
 refine wpAnyH_done (by kernel_rfl) ?_ _
 clear hHeld
 clear HST yi0 yi2 hS0
 have hg : W3.grownBy (W3.drew.alloc (.cells #[.int .i64 0, .int .i64 0] 3)) none := Lf.gbt (gDr (gRf _ _)) (Lf.gb _)
 replace i0 := kNq hg i0
 replace i2 := kNq hg i2
 replace HI3 := jh (kBq HI3.out hg)
 replace HR3 := jh (kBq HR3.out hg)
 replace HS3 := jh (HS3.out.grow hg)
 replace HG3 := jh (Lf.gbt HG3.out hg)
 clear hg
 generalize W3.drew.alloc _ = wk at *
 have hS3 : wk.grownBy wk (some (W.heap.size + 1)) := gRf _ _
 go_wp2_with fail
 refine (refused_led 5 (by decide) _).mono ?_
 rintro e w5 hp
 obtain ⟨a5, l5, c5, f5, er5, rfl, hS5, q0, q1, q2, HB5, HL5⟩ := led_fin hp HG3.out (gRf _ _) HR3.out
 clear hp
 go_wp2_with fail
 exact end_led (fun w z0 z1 => by simp [results, Tryz.results38, go_sem, z0, z1]) rfl HB5.out HL5.out
theorem asks_73n1 {W : World} {n : Int} {ta ra da : Option Addr} {tl tc rl rc dl dc : Nat} {dk dn dp : Int} {ds : ByteArray} {s types : List Ty} {sv : Value} (hs : RowC W s sv) (hT : RowC W types (.slice ta tl tc)) (hc : standF s [0, 0] = true) (ht0 : sameT (tyAt s 0) (tyAt s 1) = false) (hz0 : (tyAt s 0).size <= 50000000) (hgd : s.all goodTy = true) (hn : s.length <= 1000) :
 Calls Tryz.prog 38 #[insV 73 n ta tl tc ra rl rc dk dn dp ds da dl dc, sv] W (LedPost (.no 5) W) := by
 obtain ⟨sa, sl, sc, e1⟩ := hs.form3
 subst e1
 unfold insV
 obtain ⟨hg3, hI3, hR3⟩ := start2 W (.cells #[.int .i64 73, .int .i64 n, .slice ta tl tc, .slice ra rl rc, .int .i64 dk, .int .i64 dn, .int .i64 dp, .string ds, .slice da dl dc] 59) (.cells #[.slice none 0 0, .bool false] 27)
 have hs3 := hs.grow hg3
 have hT3 := hT.grow hg3
 have hlen : 2 <= s.length := stand_len hc
 obtain ⟨hsl, hsc, _⟩ := hs3.len
 obtain ⟨b, o, t0, a0, l0, k0, rfl, x0a, x0b, hA0⟩ := hs3.at 0 (by omega)
 have HA0 := jh hA0
 obtain ⟨_, _, t1, a1, l1, k1, eb, x1a, x1b, hA1⟩ := hs3.at 1 (by omega)
 simp only [Option.some.injEq, Addr.mk.injEq, and_true] at eb
 obtain ⟨rfl, rfl⟩ := eb
 have HA1 := jh hA1
 have bz1 : (1 : Int) <= (sl : Int) := by omega
 have by0 : 0 < sl := by omega
 have bz2 : (2 : Int) <= (sl : Int) := by omega
 have by1 : (1 : Int) < (sl : Int) := by omega
 have b1 : (sl : Int) <= (sc : Int) := by omega
 have HSL := jh hsl
 have HG3 := jh hg3
 have HI3 := jh hI3
 have HR3 := jh hR3
 have HS3 := jh hs3
 have HLEN := jh hlen
 simp only [Nat.reduceMul, Nat.reduceAdd, Nat.add_zero, Nat.mul_zero, Nat.zero_add] at x0a x0b x1a x1b
 obtain ⟨i0, i1, i2, i3, _⟩ := box9 hI3
 clear hg3 hI3 hR3 hs hs3 hT hT3 hsl hlen hgd hA0 hA1
 go_enter Tryz.func38, Tryz.ntmps38
 go_wp2_with fail
 generalize (W.alloc _).alloc _ = W3 at *
 have yx0a := fun (w' : World) (h : W3.grownBy w' none) => kNq h x0a
 have yx0b := fun (w' : World) (h : W3.grownBy w' none) => kNq h x0b
 have yx1a := fun (w' : World) (h : W3.grownBy w' none) => kNq h x1a
 have yx1b := fun (w' : World) (h : W3.grownBy w' none) => kNq h x1b
 have yi0 := fun (w' : World) (h : W3.grownBy w' none) => kNq h i0
 have yi2 := fun (w' : World) (h : W3.grownBy w' none) => kNq h i2
 have hS0 : W3.grownBy W3 none := gRf _ _
 have HST := jh (stand_any (W := W3.drew.alloc (.cells #[.int .i64 0, .int .i64 0] 3)) (ks := [0, 0]) (kc := 2) (HS3.out.grow (Lf.gbt (gDr (gRf _ _)) (Lf.gb _))) (kinds2 (heap_alloc_new W3.drew _)) (by decide))
 rw [hc] at HST
 refine wp_region_held_drew (S := fun w' => W3.grownBy w' none) (by kernel_rfl) ?_ (fun hHeld => ?_)
 ·exact gDr (gRf _ _)
 refine rGq 0 7 ?_
 simp only [Act.put, pS]
 refine rGq 1 8 ?_
 simp only [Act.put, pS]
 refine rGq 2 9 ?_
 simp only [Act.put, pS]
 refine rGq 3 10 ?_
 simp only [Act.put, pS]
 refine rGq 4 11 ?_
 simp only [Act.put, pS]
 refine wpAnyH_ready (rs := [5]) (by kernel_rfl) (by simp) ?_
 refine AllReadyH.cons rfl (fun K hK => ?_) AllReadyH.nil
 go_simp
 refine hK.out _ _ (Lf.gbt hHeld (Lf.gb _)) (fun _ => ?_)
 clear hK K
 replace hHeld := Lf.gbt hHeld (Lf.gb (w := W3.drew) (.cells #[.int .i64 0, .int .i64 0] 3))
 refine wpAnyH_ready (rs := [6]) (by kernel_rfl) (by simp) ?_
 refine AllReadyH.cons rfl (fun K hK => ?_) AllReadyH.nil
 go_simp
 go_at_call 52
 refine HST.out.mono ?_; rintro e w1 ⟨rfl, rfl⟩
 refine hK.out _ _ hHeld (fun _ => ?_)
 clear hK K
 refine rGq 7 14 ?_
 simp only [Act.put, pS]
 refine rGq 8 15 ?_
 simp only [Act.put, pS]
 refine rGq 9 16 ?_
 simp only [Act.put, pS]
 refine rGq 10 17 ?_
 simp only [Act.put, pS]
 refine rGq 11 18 ?_
 simp only [Act.put, pS]
 refine rGq 12 19 ?_
 simp only [Act.put, pS]
 refine rGq 13 20 ?_
 simp only [Act.put, pS]
 refine rGq 14 21 ?_
 simp only [Act.put, pS]
 refine wpAnyH_ready (rs := [15]) (by kernel_rfl) (by simp) ?_
 refine AllReadyH.cons rfl (fun K hK => ?_) AllReadyH.nil
 go_simp
 go_at_call 17
 refine (same_any (HA0.out.same (sAl hHeld)).low (HA1.out.same (sAl hHeld)).low hz0).mono ?_; rintro e wt0 ⟨rfl, hg⟩
 rw [ht0]
 have hH9 := Lf.gbt hHeld hg
 refine hK.out _ _ hH9 (fun _ => ?_)
 have HGT0 := jh hH9
 have hST0 := hH9
 clear hK K hHeld hg
 have hHeld := hH9
 clear hH9
 refine rGq 16 23 ?_
 simp only [Act.put, pS]
 refine rGq 17 24 ?_
 simp only [Act.put, pS]
 refine rNq 18 25 (rNq 19 26 (rNq 20 27 ?_))
 simp only [Act.put, pS]
 refine rNq 21 28 ?_
 simp only [Act.put, pS]
 refine rGq 22 29 ?_
 simp only [Act.put, pS]
 refine rGq 23 6 ?_
 simp only [Act.put, pS]
 refine wpAnyH_done (by kernel_rfl) ?_ _
 clear hHeld
 clear yx0a yx0b yx1a yx1b yi0 yi2 hS0
 have hg := HGT0.out
 replace x0a := kNq hg x0a
 replace x0b := kNq hg x0b
 replace x1a := kNq hg x1a
 replace x1b := kNq hg x1b
 replace i0 := kNq hg i0
 replace i2 := kNq hg i2
 replace HI3 := jh (kBq HI3.out hg)
 replace HR3 := jh (kBq HR3.out hg)
 replace HS3 := jh (HS3.out.grow hg)
 replace HG3 := jh (Lf.gbt HG3.out hg)
 replace HA0 := jh (HA0.out.same (sAl hg))
 replace HA1 := jh (HA1.out.same (sAl hg))
 clear hg
 clear hST0 HST
 have yx0a := fun (w' : World) (h : wt0.grownBy w' (some (W.heap.size + 1))) => kDq HR3.out h x0a x0a
 have yx0b := fun (w' : World) (h : wt0.grownBy w' (some (W.heap.size + 1))) => kDq HR3.out h x0a x0b
 have yx1a := fun (w' : World) (h : wt0.grownBy w' (some (W.heap.size + 1))) => kDq HR3.out h x1a x1a
 have yx1b := fun (w' : World) (h : wt0.grownBy w' (some (W.heap.size + 1))) => kDq HR3.out h x1a x1b
 have hS3 : wt0.grownBy wt0 (some (W.heap.size + 1)) := gRf _ _
 go_wp2_with fail
 refine (refused_led 5 (by decide) _).mono ?_
 rintro e w5 hp
 obtain ⟨a5, l5, c5, f5, er5, rfl, hS5, q0, q1, q2, HB5, HL5⟩ := led_fin hp HG3.out (gRf _ _) HR3.out
 clear hp
 go_wp2_with fail
 exact end_led (fun w z0 z1 => by simp [results, Tryz.results38, go_sem, z0, z1]) rfl HB5.out HL5.out
theorem asks_73n2 {W : World} {n : Int} {ta ra da : Option Addr} {tl tc rl rc dl dc : Nat} {dk dn dp : Int} {ds : ByteArray} {s types : List Ty} {sv : Value} (hs : RowC W s sv) (hT : RowC W types (.slice ta tl tc)) (hc : standF s [0, 0] = true) (ht0 : sameT (tyAt s 0) (tyAt s 1) = true) (hz0 : (tyAt s 0).size <= 50000000) (ht1 : compT (tyAt s 0) = false) (hz1 : (tyAt s 0).size <= 50000000) (hgd : s.all goodTy = true) (hn : s.length <= 1000) :
 Calls Tryz.prog 38 #[insV 73 n ta tl tc ra rl rc dk dn dp ds da dl dc, sv] W (LedPost (.no 5) W) := by
 obtain ⟨sa, sl, sc, e1⟩ := hs.form3
 subst e1
 unfold insV
 obtain ⟨hg3, hI3, hR3⟩ := start2 W (.cells #[.int .i64 73, .int .i64 n, .slice ta tl tc, .slice ra rl rc, .int .i64 dk, .int .i64 dn, .int .i64 dp, .string ds, .slice da dl dc] 59) (.cells #[.slice none 0 0, .bool false] 27)
 have hs3 := hs.grow hg3
 have hT3 := hT.grow hg3
 have hlen : 2 <= s.length := stand_len hc
 obtain ⟨hsl, hsc, _⟩ := hs3.len
 obtain ⟨b, o, t0, a0, l0, k0, rfl, x0a, x0b, hA0⟩ := hs3.at 0 (by omega)
 have HA0 := jh hA0
 obtain ⟨_, _, t1, a1, l1, k1, eb, x1a, x1b, hA1⟩ := hs3.at 1 (by omega)
 simp only [Option.some.injEq, Addr.mk.injEq, and_true] at eb
 obtain ⟨rfl, rfl⟩ := eb
 have HA1 := jh hA1
 have bz1 : (1 : Int) <= (sl : Int) := by omega
 have by0 : 0 < sl := by omega
 have bz2 : (2 : Int) <= (sl : Int) := by omega
 have by1 : (1 : Int) < (sl : Int) := by omega
 have b1 : (sl : Int) <= (sc : Int) := by omega
 have HSL := jh hsl
 have HG3 := jh hg3
 have HI3 := jh hI3
 have HR3 := jh hR3
 have HS3 := jh hs3
 have HLEN := jh hlen
 simp only [Nat.reduceMul, Nat.reduceAdd, Nat.add_zero, Nat.mul_zero, Nat.zero_add] at x0a x0b x1a x1b
 obtain ⟨i0, i1, i2, i3, _⟩ := box9 hI3
 clear hg3 hI3 hR3 hs hs3 hT hT3 hsl hlen hgd hA0 hA1
 go_enter Tryz.func38, Tryz.ntmps38
 go_wp2_with fail
 generalize (W.alloc _).alloc _ = W3 at *
 have yx0a := fun (w' : World) (h : W3.grownBy w' none) => kNq h x0a
 have yx0b := fun (w' : World) (h : W3.grownBy w' none) => kNq h x0b
 have yx1a := fun (w' : World) (h : W3.grownBy w' none) => kNq h x1a
 have yx1b := fun (w' : World) (h : W3.grownBy w' none) => kNq h x1b
 have yi0 := fun (w' : World) (h : W3.grownBy w' none) => kNq h i0
 have yi2 := fun (w' : World) (h : W3.grownBy w' none) => kNq h i2
 have hS0 : W3.grownBy W3 none := gRf _ _
 have HST := jh (stand_any (W := W3.drew.alloc (.cells #[.int .i64 0, .int .i64 0] 3)) (ks := [0, 0]) (kc := 2) (HS3.out.grow (Lf.gbt (gDr (gRf _ _)) (Lf.gb _))) (kinds2 (heap_alloc_new W3.drew _)) (by decide))
 rw [hc] at HST
 refine wp_region_held_drew (S := fun w' => W3.grownBy w' none) (by kernel_rfl) ?_ (fun hHeld => ?_)
 ·exact gDr (gRf _ _)
 refine rGq 0 7 ?_
 simp only [Act.put, pS]
 refine rGq 1 8 ?_
 simp only [Act.put, pS]
 refine rGq 2 9 ?_
 simp only [Act.put, pS]
 refine rGq 3 10 ?_
 simp only [Act.put, pS]
 refine rGq 4 11 ?_
 simp only [Act.put, pS]
 refine wpAnyH_ready (rs := [5]) (by kernel_rfl) (by simp) ?_
 refine AllReadyH.cons rfl (fun K hK => ?_) AllReadyH.nil
 go_simp
 refine hK.out _ _ (Lf.gbt hHeld (Lf.gb _)) (fun _ => ?_)
 clear hK K
 replace hHeld := Lf.gbt hHeld (Lf.gb (w := W3.drew) (.cells #[.int .i64 0, .int .i64 0] 3))
 refine wpAnyH_ready (rs := [6]) (by kernel_rfl) (by simp) ?_
 refine AllReadyH.cons rfl (fun K hK => ?_) AllReadyH.nil
 go_simp
 go_at_call 52
 refine HST.out.mono ?_; rintro e w1 ⟨rfl, rfl⟩
 refine hK.out _ _ hHeld (fun _ => ?_)
 clear hK K
 refine rGq 7 14 ?_
 simp only [Act.put, pS]
 refine rGq 8 15 ?_
 simp only [Act.put, pS]
 refine rGq 9 16 ?_
 simp only [Act.put, pS]
 refine rGq 10 17 ?_
 simp only [Act.put, pS]
 refine rGq 11 18 ?_
 simp only [Act.put, pS]
 refine rGq 12 19 ?_
 simp only [Act.put, pS]
 refine rGq 13 20 ?_
 simp only [Act.put, pS]
 refine rGq 14 21 ?_
 simp only [Act.put, pS]
 refine wpAnyH_ready (rs := [15]) (by kernel_rfl) (by simp) ?_
 refine AllReadyH.cons rfl (fun K hK => ?_) AllReadyH.nil
 go_simp
 go_at_call 17
 refine (same_any (HA0.out.same (sAl hHeld)).low (HA1.out.same (sAl hHeld)).low hz0).mono ?_; rintro e wt0 ⟨rfl, hg⟩
 rw [ht0]
 have hH9 := Lf.gbt hHeld hg
 refine hK.out _ _ hH9 (fun _ => ?_)
 have HGT0 := jh hH9
 have hST0 := hH9
 clear hK K hHeld hg
 have hHeld := hH9
 clear hH9
 refine rGq 16 23 ?_
 simp only [Act.put, pS]
 refine rGq 17 24 ?_
 simp only [Act.put, pS]
 refine rGq 18 25 ?_
 simp only [Act.put, pS]
 refine rGq 19 26 ?_
 simp only [Act.put, pS]
 refine rGq 20 27 ?_
 simp only [Act.put, pS]
 refine wpAnyH_ready (rs := [21]) (by kernel_rfl) (by simp) ?_
 refine AllReadyH.cons rfl (fun K hK => ?_) AllReadyH.nil
 go_simp
 go_at_call 49
 refine (comparable_any (HA0.out.same (sAl hHeld)).low hz1).mono ?_; rintro e wt1 ⟨rfl, hg⟩
 rw [ht1]
 have hH9 := Lf.gbt hHeld hg
 refine hK.out _ _ hH9 (fun _ => ?_)
 have HGT1 := jh hH9
 have hST1 := hH9
 clear hK K hHeld hg
 have hHeld := hH9
 clear hH9
 refine rGq 22 29 ?_
 simp only [Act.put, pS]
 refine rGq 23 6 ?_
 simp only [Act.put, pS]
 refine wpAnyH_done (by kernel_rfl) ?_ _
 clear hHeld
 clear yx0a yx0b yx1a yx1b yi0 yi2 hS0
 have hg := HGT1.out
 replace x0a := kNq hg x0a
 replace x0b := kNq hg x0b
 replace x1a := kNq hg x1a
 replace x1b := kNq hg x1b
 replace i0 := kNq hg i0
 replace i2 := kNq hg i2
 replace HI3 := jh (kBq HI3.out hg)
 replace HR3 := jh (kBq HR3.out hg)
 replace HS3 := jh (HS3.out.grow hg)
 replace HG3 := jh (Lf.gbt HG3.out hg)
 replace HA0 := jh (HA0.out.same (sAl hg))
 replace HA1 := jh (HA1.out.same (sAl hg))
 clear hg
 clear hST0 hST1 HST
 have yx0a := fun (w' : World) (h : wt1.grownBy w' (some (W.heap.size + 1))) => kDq HR3.out h x0a x0a
 have yx0b := fun (w' : World) (h : wt1.grownBy w' (some (W.heap.size + 1))) => kDq HR3.out h x0a x0b
 have yx1a := fun (w' : World) (h : wt1.grownBy w' (some (W.heap.size + 1))) => kDq HR3.out h x1a x1a
 have yx1b := fun (w' : World) (h : wt1.grownBy w' (some (W.heap.size + 1))) => kDq HR3.out h x1a x1b
 have hS3 : wt1.grownBy wt1 (some (W.heap.size + 1)) := gRf _ _
 go_wp2_with fail
 refine (refused_led 5 (by decide) _).mono ?_
 rintro e w5 hp
 obtain ⟨a5, l5, c5, f5, er5, rfl, hS5, q0, q1, q2, HB5, HL5⟩ := led_fin hp HG3.out (gRf _ _) HR3.out
 clear hp
 go_wp2_with fail
 exact end_led (fun w z0 z1 => by simp [results, Tryz.results38, go_sem, z0, z1]) rfl HB5.out HL5.out
theorem asks_74 {W : World} {p n : Int} {ta ra da : Option Addr} {tl tc rl rc dl dc : Nat} {dk dn dp : Int} {ds : ByteArray} {s types : List Ty} {sv : Value} (hp : p = 74 \/ p = 75 \/ p = 76) (hs : RowC W s sv) (hT : RowC W types (.slice ta tl tc)) (hc : standF s [3] = true) (hgd : s.all goodTy = true) (hn : s.length <= 1000) :
 Calls Tryz.prog 38 #[insV p n ta tl tc ra rl rc dk dn dp ds da dl dc, sv] W (LedPost (putF (s.drop 1) [(.nd 2 [])]) W) := by
 obtain ⟨sa, sl, sc, e1⟩ := hs.form3
 subst e1
 unfold insV
 obtain ⟨hg3, hI3, hR3⟩ := start2 W (.cells #[.int .i64 p, .int .i64 n, .slice ta tl tc, .slice ra rl rc, .int .i64 dk, .int .i64 dn, .int .i64 dp, .string ds, .slice da dl dc] 59) (.cells #[.slice none 0 0, .bool false] 27)
 have hs3 := hs.grow hg3
 have hT3 := hT.grow hg3
 have hlen : 1 <= s.length := stand_len hc
 obtain ⟨hsl, hsc, _⟩ := hs3.len
 obtain ⟨b, o, t0, a0, l0, k0, rfl, x0a, x0b, hA0⟩ := hs3.at 0 (by omega)
 have HA0 := jh hA0
 have bz1 : (1 : Int) <= (sl : Int) := by omega
 have by0 : 0 < sl := by omega
 have b1 : (sl : Int) <= (sc : Int) := by omega
 have HSL := jh hsl
 have HG3 := jh hg3
 have HI3 := jh hI3
 have HR3 := jh hR3
 have HS3 := jh hs3
 have HLEN := jh hlen
 simp only [Nat.reduceMul, Nat.reduceAdd, Nat.add_zero, Nat.mul_zero, Nat.zero_add] at x0a x0b
 obtain ⟨i0, i1, i2, i3, _⟩ := box9 hI3
 clear hg3 hI3 hR3 hs hs3 hT hT3 hsl hlen hgd hA0
 rcases hp with rfl | rfl | rfl
 all_goals
  go_enter Tryz.func38, Tryz.ntmps38
  go_wp2_with fail
  generalize (W.alloc _).alloc _ = W3 at *
  have yx0a := fun (w' : World) (h : W3.grownBy w' none) => kNq h x0a
  have yx0b := fun (w' : World) (h : W3.grownBy w' none) => kNq h x0b
  have yi0 := fun (w' : World) (h : W3.grownBy w' none) => kNq h i0
  have yi2 := fun (w' : World) (h : W3.grownBy w' none) => kNq h i2
  have hS0 : W3.grownBy W3 none := gRf _ _
  refine wp_region_held_drew (S := fun w' => W3.grownBy w' none) (by kernel_rfl) ?_ (fun hHeld => ?_)
  ·exact gDr (gRf _ _)
  refine rGq 0 7 ?_
  simp only [Act.put, pS]
  refine rGq 1 8 ?_
  simp only [Act.put, pS]
  refine rGq 2 9 ?_
  simp only [Act.put, pS]
  refine rGq 3 10 ?_
  simp only [Act.put, pS]
  refine rNq 4 11 (rNq 5 12 (rNq 6 13 ?_))
  simp only [Act.put, pS]
  refine rGq 7 14 ?_
  simp only [Act.put, pS]
  refine rGq 8 15 ?_
  simp only [Act.put, pS]
  refine rNq 9 16 (rNq 10 17 (rNq 11 18 ?_))
  simp only [Act.put, pS]
  refine rNq 12 19 (rNq 13 20 (rNq 14 21 ?_))
  simp only [Act.put, pS]
  refine rNq 15 22 ?_
  simp only [Act.put, pS]
  refine rGq 16 23 ?_
  simp only [Act.put, pS]
  refine rGq 17 24 ?_
  simp only [Act.put, pS]
  refine rNq 18 25 (rNq 19 26 (rNq 20 27 ?_))
  simp only [Act.put, pS]
  refine rNq 21 28 ?_
  simp only [Act.put, pS]
  refine rGq 22 29 ?_
  simp only [Act.put, pS]
  refine rGq 23 6 ?_
  simp only [Act.put, pS]
  refine wpAnyH_done (by kernel_rfl) ?_ _
  clear hHeld
  clear yx0a yx0b yi0 yi2 hS0
  have hg : W3.grownBy W3.drew none := gDr (gRf _ _)
  replace x0a := kNq hg x0a
  replace x0b := kNq hg x0b
  replace i0 := kNq hg i0
  replace i2 := kNq hg i2
  replace HI3 := jh (kBq HI3.out hg)
  replace HR3 := jh (kBq HR3.out hg)
  replace HS3 := jh (HS3.out.grow hg)
  replace HG3 := jh (Lf.gbt HG3.out hg)
  replace HA0 := jh (HA0.out.same (sAl hg))
  clear hg
  generalize W3.drew = wd0 at *
  go_wp2_with fail
  have hg := Lf.gb (w := wd0) (.cells #[.int .i64 3] 3)
  have hK3 := heap_alloc_new wd0 (.cells #[.int .i64 3] 3)
  have HST := jh (stand_any (ks := [3]) (kc := 1) (HS3.out.grow hg) (kinds1 hK3) (by decide))
  rw [hc] at HST
  refine HST.out.mono ?_; rintro e w2 ⟨rfl, rfl⟩
  clear HST hK3
  replace x0a := kNq hg x0a
  replace x0b := kNq hg x0b
  replace i0 := kNq hg i0
  replace i2 := kNq hg i2
  replace HI3 := jh (kBq HI3.out hg)
  replace HR3 := jh (kBq HR3.out hg)
  replace HS3 := jh (HS3.out.grow hg)
  replace HG3 := jh (Lf.gbt HG3.out hg)
  replace HA0 := jh (HA0.out.same (sAl hg))
  clear hg
  generalize wd0.alloc _ = wk at *
  have yx0a := fun (w' : World) (h : wk.grownBy w' (some (W.heap.size + 1))) => kDq HR3.out h x0a x0a
  have yx0b := fun (w' : World) (h : wk.grownBy w' (some (W.heap.size + 1))) => kDq HR3.out h x0a x0b
  have hS3 : wk.grownBy wk (some (W.heap.size + 1)) := gRf _ _
  rcases (show (sc = 1 /\ sl = 1) \/ (¬ sc = 1 /\ ¬ sc - 1 = 0) by omega) with ⟨rfl, rfl⟩ | ⟨hc2, hc3⟩
  have HD := jh (HS3.out.dropAll 1 (by have := HSL.out; omega) (some ⟨b, o, none⟩) 0)
  rotate_left
  have HD := jh (HS3.out.drop 1 (by have := HLEN.out; omega))
  all_goals
   go_wp2_with fail
   go_region_held3 (fun w' => wk.grownBy w' (some (W.heap.size + 1))) (first | with_reducible assumption | with_reducible exact gDr (gRf _ _) | with_reducible exact grow_setR (by assumption) | with_reducible exact grow_trans (by assumption) (gAq (Lf.gb _)) | with_reducible exact gDr (gAq (Lf.gb _))) (first
    | (go_at_call 56; refine (of_any 2 _ _ _ _).mono ?_; rintro e w10 ⟨rfl, hg⟩; have HU0 := jh (LiesT.ofC (t := 2) ⟨by decide, by decide⟩ (RowC.grow (RowC.nil _ none 0) (undrew hg))); have HG10 : Hid (wk.grownBy w10 none) := Lf.gbt (gRf _ _) (undrew hg); have hS : wk.grownBy w10 (some (W.heap.size + 1)) := gAq HG10.out; clear hg)
    | (go_at_call 53; have hprev := HG10.out; clear hprev; refine (put_any (HD.out.grow (Lf.gbt HG10.out (Lf.gb _))) (RowC.one (heap_alloc_new w10 _) (HU0.out.same (sAl (Lf.gb _)))) (by simp; omega)).mono ?_; rintro e w5 hp; obtain ⟨a5, l5, c5, f5, er5, rfl, hS5, q0, q1, q2, HB5, HL5⟩ := led_fin hp HG3.out (Lf.gbt HG10.out (Lf.gb _)) HR3.out; clear hp))
   go_wp2_with fail
   exact end_led (fun w z0 z1 => by simp [results, Tryz.results38, go_sem, z0, z1]) rfl HB5.out HL5.out
theorem asks_74n {W : World} {p n : Int} {ta ra da : Option Addr} {tl tc rl rc dl dc : Nat} {dk dn dp : Int} {ds : ByteArray} {s types : List Ty} {sv : Value} (hp : p = 74 \/ p = 75 \/ p = 76) (hs : RowC W s sv) (hT : RowC W types (.slice ta tl tc)) (hc : standF s [3] = false) (hgd : s.all goodTy = true) (hn : s.length <= 1000) :
 Calls Tryz.prog 38 #[insV p n ta tl tc ra rl rc dk dn dp ds da dl dc, sv] W (LedPost (.no 5) W) := by
 obtain ⟨sa, sl, sc, e1⟩ := hs.form3
 subst e1
 unfold insV
 obtain ⟨hg3, hI3, hR3⟩ := start2 W (.cells #[.int .i64 p, .int .i64 n, .slice ta tl tc, .slice ra rl rc, .int .i64 dk, .int .i64 dn, .int .i64 dp, .string ds, .slice da dl dc] 59) (.cells #[.slice none 0 0, .bool false] 27)
 have hs3 := hs.grow hg3
 have hT3 := hT.grow hg3
 have hlen : 0 <= s.length := Nat.zero_le _
 obtain ⟨hsl, hsc, _⟩ := hs3.len
 have b1 : (sl : Int) <= (sc : Int) := by omega
 have HSL := jh hsl
 have HG3 := jh hg3
 have HI3 := jh hI3
 have HR3 := jh hR3
 have HS3 := jh hs3
 have HLEN := jh hlen
 obtain ⟨i0, i1, i2, i3, _⟩ := box9 hI3
 clear hg3 hI3 hR3 hs hs3 hT hT3 hsl hlen hgd
 rcases hp with rfl | rfl | rfl
 all_goals
  go_enter Tryz.func38, Tryz.ntmps38
  go_wp2_with fail
  generalize (W.alloc _).alloc _ = W3 at *
  have yi0 := fun (w' : World) (h : W3.grownBy w' none) => kNq h i0
  have yi2 := fun (w' : World) (h : W3.grownBy w' none) => kNq h i2
  have hS0 : W3.grownBy W3 none := gRf _ _
  refine wp_region_held_drew (S := fun w' => W3.grownBy w' none) (by kernel_rfl) ?_ (fun hHeld => ?_)
  ·exact gDr (gRf _ _)
  refine rGq 0 7 ?_
  simp only [Act.put, pS]
  refine rGq 1 8 ?_
  simp only [Act.put, pS]
  refine rGq 2 9 ?_
  simp only [Act.put, pS]
  refine rGq 3 10 ?_
  simp only [Act.put, pS]
  refine rNq 4 11 (rNq 5 12 (rNq 6 13 ?_))
  simp only [Act.put, pS]
  refine rGq 7 14 ?_
  simp only [Act.put, pS]
  refine rGq 8 15 ?_
  simp only [Act.put, pS]
  refine rNq 9 16 (rNq 10 17 (rNq 11 18 ?_))
  simp only [Act.put, pS]
  refine rNq 12 19 (rNq 13 20 (rNq 14 21 ?_))
  simp only [Act.put, pS]
  refine rNq 15 22 ?_
  simp only [Act.put, pS]
  refine rGq 16 23 ?_
  simp only [Act.put, pS]
  refine rGq 17 24 ?_
  simp only [Act.put, pS]
  refine rNq 18 25 (rNq 19 26 (rNq 20 27 ?_))
  simp only [Act.put, pS]
  refine rNq 21 28 ?_
  simp only [Act.put, pS]
  refine rGq 22 29 ?_
  simp only [Act.put, pS]
  refine rGq 23 6 ?_
  simp only [Act.put, pS]
  refine wpAnyH_done (by kernel_rfl) ?_ _
  clear hHeld
  clear yi0 yi2 hS0
  have hg : W3.grownBy W3.drew none := gDr (gRf _ _)
  replace i0 := kNq hg i0
  replace i2 := kNq hg i2
  replace HI3 := jh (kBq HI3.out hg)
  replace HR3 := jh (kBq HR3.out hg)
  replace HS3 := jh (HS3.out.grow hg)
  replace HG3 := jh (Lf.gbt HG3.out hg)
  clear hg
  generalize W3.drew = wd0 at *
  go_wp2_with fail
  have hg := Lf.gb (w := wd0) (.cells #[.int .i64 3] 3)
  have hK3 := heap_alloc_new wd0 (.cells #[.int .i64 3] 3)
  have HST := jh (stand_any (ks := [3]) (kc := 1) (HS3.out.grow hg) (kinds1 hK3) (by decide))
  rw [hc] at HST
  refine HST.out.mono ?_; rintro e w2 ⟨rfl, rfl⟩
  clear HST hK3
  replace i0 := kNq hg i0
  replace i2 := kNq hg i2
  replace HI3 := jh (kBq HI3.out hg)
  replace HR3 := jh (kBq HR3.out hg)
  replace HS3 := jh (HS3.out.grow hg)
  replace HG3 := jh (Lf.gbt HG3.out hg)
  clear hg
  generalize wd0.alloc _ = wk at *
  have hS3 : wk.grownBy wk (some (W.heap.size + 1)) := gRf _ _
  go_wp2_with fail
  refine (refused_led 5 (by decide) _).mono ?_
  rintro e w5 hp
  obtain ⟨a5, l5, c5, f5, er5, rfl, hS5, q0, q1, q2, HB5, HL5⟩ := led_fin hp HG3.out (gRf _ _) HR3.out
  clear hp
  go_wp2_with fail
  exact end_led (fun w z0 z1 => by simp [results, Tryz.results38, go_sem, z0, z1]) rfl HB5.out HL5.out
theorem asks_77 {W : World} {n : Int} {ta ra da : Option Addr} {tl tc rl rc dl dc : Nat} {dk dn dp : Int} {ds : ByteArray} {s types : List Ty} {sv : Value} (hs : RowC W s sv) (hT : RowC W types (.slice ta tl tc)) (hc : standF s [2] = true) (hgd : s.all goodTy = true) (hn : s.length <= 1000) :
 Calls Tryz.prog 38 #[insV 77 n ta tl tc ra rl rc dk dn dp ds da dl dc, sv] W (LedPost (putF (s.drop 1) [(.nd 2 [])]) W) := by
 obtain ⟨sa, sl, sc, e1⟩ := hs.form3
 subst e1
 unfold insV
 obtain ⟨hg3, hI3, hR3⟩ := start2 W (.cells #[.int .i64 77, .int .i64 n, .slice ta tl tc, .slice ra rl rc, .int .i64 dk, .int .i64 dn, .int .i64 dp, .string ds, .slice da dl dc] 59) (.cells #[.slice none 0 0, .bool false] 27)
 have hs3 := hs.grow hg3
 have hT3 := hT.grow hg3
 have hlen : 1 <= s.length := stand_len hc
 obtain ⟨hsl, hsc, _⟩ := hs3.len
 obtain ⟨b, o, t0, a0, l0, k0, rfl, x0a, x0b, hA0⟩ := hs3.at 0 (by omega)
 have HA0 := jh hA0
 have bz1 : (1 : Int) <= (sl : Int) := by omega
 have by0 : 0 < sl := by omega
 have b1 : (sl : Int) <= (sc : Int) := by omega
 have HSL := jh hsl
 have HG3 := jh hg3
 have HI3 := jh hI3
 have HR3 := jh hR3
 have HS3 := jh hs3
 have HLEN := jh hlen
 simp only [Nat.reduceMul, Nat.reduceAdd, Nat.add_zero, Nat.mul_zero, Nat.zero_add] at x0a x0b
 obtain ⟨i0, i1, i2, i3, _⟩ := box9 hI3
 clear hg3 hI3 hR3 hs hs3 hT hT3 hsl hlen hgd hA0
 go_enter Tryz.func38, Tryz.ntmps38
 go_wp2_with fail
 generalize (W.alloc _).alloc _ = W3 at *
 have yx0a := fun (w' : World) (h : W3.grownBy w' none) => kNq h x0a
 have yx0b := fun (w' : World) (h : W3.grownBy w' none) => kNq h x0b
 have yi0 := fun (w' : World) (h : W3.grownBy w' none) => kNq h i0
 have yi2 := fun (w' : World) (h : W3.grownBy w' none) => kNq h i2
 have hS0 : W3.grownBy W3 none := gRf _ _
 refine wp_region_held_drew (S := fun w' => W3.grownBy w' none) (by kernel_rfl) ?_ (fun hHeld => ?_)
 ·exact gDr (gRf _ _)
 refine rGq 0 7 ?_
 simp only [Act.put, pS]
 refine rGq 1 8 ?_
 simp only [Act.put, pS]
 refine rGq 2 9 ?_
 simp only [Act.put, pS]
 refine rGq 3 10 ?_
 simp only [Act.put, pS]
 refine rNq 4 11 (rNq 5 12 (rNq 6 13 ?_))
 simp only [Act.put, pS]
 refine rGq 7 14 ?_
 simp only [Act.put, pS]
 refine rGq 8 15 ?_
 simp only [Act.put, pS]
 refine rNq 9 16 (rNq 10 17 (rNq 11 18 ?_))
 simp only [Act.put, pS]
 refine rNq 12 19 (rNq 13 20 (rNq 14 21 ?_))
 simp only [Act.put, pS]
 refine rNq 15 22 ?_
 simp only [Act.put, pS]
 refine rGq 16 23 ?_
 simp only [Act.put, pS]
 refine rGq 17 24 ?_
 simp only [Act.put, pS]
 refine rNq 18 25 (rNq 19 26 (rNq 20 27 ?_))
 simp only [Act.put, pS]
 refine rNq 21 28 ?_
 simp only [Act.put, pS]
 refine rGq 22 29 ?_
 simp only [Act.put, pS]
 refine rGq 23 6 ?_
 simp only [Act.put, pS]
 refine wpAnyH_done (by kernel_rfl) ?_ _
 clear hHeld
 clear yx0a yx0b yi0 yi2 hS0
 have hg : W3.grownBy W3.drew none := gDr (gRf _ _)
 replace x0a := kNq hg x0a
 replace x0b := kNq hg x0b
 replace i0 := kNq hg i0
 replace i2 := kNq hg i2
 replace HI3 := jh (kBq HI3.out hg)
 replace HR3 := jh (kBq HR3.out hg)
 replace HS3 := jh (HS3.out.grow hg)
 replace HG3 := jh (Lf.gbt HG3.out hg)
 replace HA0 := jh (HA0.out.same (sAl hg))
 clear hg
 generalize W3.drew = wd0 at *
 go_wp2_with fail
 have hg := Lf.gb (w := wd0) (.cells #[.int .i64 2] 3)
 have hK3 := heap_alloc_new wd0 (.cells #[.int .i64 2] 3)
 have HST := jh (stand_any (ks := [2]) (kc := 1) (HS3.out.grow hg) (kinds1 hK3) (by decide))
 rw [hc] at HST
 refine HST.out.mono ?_; rintro e w2 ⟨rfl, rfl⟩
 clear HST hK3
 replace x0a := kNq hg x0a
 replace x0b := kNq hg x0b
 replace i0 := kNq hg i0
 replace i2 := kNq hg i2
 replace HI3 := jh (kBq HI3.out hg)
 replace HR3 := jh (kBq HR3.out hg)
 replace HS3 := jh (HS3.out.grow hg)
 replace HG3 := jh (Lf.gbt HG3.out hg)
 replace HA0 := jh (HA0.out.same (sAl hg))
 clear hg
 generalize wd0.alloc _ = wk at *
 have yx0a := fun (w' : World) (h : wk.grownBy w' (some (W.heap.size + 1))) => kDq HR3.out h x0a x0a
 have yx0b := fun (w' : World) (h : wk.grownBy w' (some (W.heap.size + 1))) => kDq HR3.out h x0a x0b
 have hS3 : wk.grownBy wk (some (W.heap.size + 1)) := gRf _ _
 rcases (show (sc = 1 /\ sl = 1) \/ (¬ sc = 1 /\ ¬ sc - 1 = 0) by omega) with ⟨rfl, rfl⟩ | ⟨hc2, hc3⟩
 have HD := jh (HS3.out.dropAll 1 (by have := HSL.out; omega) (some ⟨b, o, none⟩) 0)
 rotate_left
 have HD := jh (HS3.out.drop 1 (by have := HLEN.out; omega))
 all_goals
  go_wp2_with fail
  go_region_held3 (fun w' => wk.grownBy w' (some (W.heap.size + 1))) (first | with_reducible assumption | with_reducible exact gDr (gRf _ _) | with_reducible exact grow_setR (by assumption) | with_reducible exact grow_trans (by assumption) (gAq (Lf.gb _)) | with_reducible exact gDr (gAq (Lf.gb _))) (first
   | (go_at_call 56; refine (of_any 2 _ _ _ _).mono ?_; rintro e w10 ⟨rfl, hg⟩; have HU0 := jh (LiesT.ofC (t := 2) ⟨by decide, by decide⟩ (RowC.grow (RowC.nil _ none 0) (undrew hg))); have HG10 : Hid (wk.grownBy w10 none) := Lf.gbt (gRf _ _) (undrew hg); have hS : wk.grownBy w10 (some (W.heap.size + 1)) := gAq HG10.out; clear hg)
   | (go_at_call 53; have hprev := HG10.out; clear hprev; refine (put_any (HD.out.grow (Lf.gbt HG10.out (Lf.gb _))) (RowC.one (heap_alloc_new w10 _) (HU0.out.same (sAl (Lf.gb _)))) (by simp; omega)).mono ?_; rintro e w5 hp; obtain ⟨a5, l5, c5, f5, er5, rfl, hS5, q0, q1, q2, HB5, HL5⟩ := led_fin hp HG3.out (Lf.gbt HG10.out (Lf.gb _)) HR3.out; clear hp))
  go_wp2_with fail
  exact end_led (fun w z0 z1 => by simp [results, Tryz.results38, go_sem, z0, z1]) rfl HB5.out HL5.out
theorem asks_77n {W : World} {n : Int} {ta ra da : Option Addr} {tl tc rl rc dl dc : Nat} {dk dn dp : Int} {ds : ByteArray} {s types : List Ty} {sv : Value} (hs : RowC W s sv) (hT : RowC W types (.slice ta tl tc)) (hc : standF s [2] = false) (hgd : s.all goodTy = true) (hn : s.length <= 1000) :
 Calls Tryz.prog 38 #[insV 77 n ta tl tc ra rl rc dk dn dp ds da dl dc, sv] W (LedPost (.no 5) W) := by
 obtain ⟨sa, sl, sc, e1⟩ := hs.form3
 subst e1
 unfold insV
 obtain ⟨hg3, hI3, hR3⟩ := start2 W (.cells #[.int .i64 77, .int .i64 n, .slice ta tl tc, .slice ra rl rc, .int .i64 dk, .int .i64 dn, .int .i64 dp, .string ds, .slice da dl dc] 59) (.cells #[.slice none 0 0, .bool false] 27)
 have hs3 := hs.grow hg3
 have hT3 := hT.grow hg3
 have hlen : 0 <= s.length := Nat.zero_le _
 obtain ⟨hsl, hsc, _⟩ := hs3.len
 have b1 : (sl : Int) <= (sc : Int) := by omega
 have HSL := jh hsl
 have HG3 := jh hg3
 have HI3 := jh hI3
 have HR3 := jh hR3
 have HS3 := jh hs3
 have HLEN := jh hlen
 obtain ⟨i0, i1, i2, i3, _⟩ := box9 hI3
 clear hg3 hI3 hR3 hs hs3 hT hT3 hsl hlen hgd
 go_enter Tryz.func38, Tryz.ntmps38
 go_wp2_with fail
 generalize (W.alloc _).alloc _ = W3 at *
 have yi0 := fun (w' : World) (h : W3.grownBy w' none) => kNq h i0
 have yi2 := fun (w' : World) (h : W3.grownBy w' none) => kNq h i2
 have hS0 : W3.grownBy W3 none := gRf _ _
 refine wp_region_held_drew (S := fun w' => W3.grownBy w' none) (by kernel_rfl) ?_ (fun hHeld => ?_)
 ·exact gDr (gRf _ _)
 refine rGq 0 7 ?_
 simp only [Act.put, pS]
 refine rGq 1 8 ?_
 simp only [Act.put, pS]
 refine rGq 2 9 ?_
 simp only [Act.put, pS]
 refine rGq 3 10 ?_
 simp only [Act.put, pS]
 refine rNq 4 11 (rNq 5 12 (rNq 6 13 ?_))
 simp only [Act.put, pS]
 refine rGq 7 14 ?_
 simp only [Act.put, pS]
 refine rGq 8 15 ?_
 simp only [Act.put, pS]
 refine rNq 9 16 (rNq 10 17 (rNq 11 18 ?_))
 simp only [Act.put, pS]
 refine rNq 12 19 (rNq 13 20 (rNq 14 21 ?_))
 simp only [Act.put, pS]
 refine rNq 15 22 ?_
 simp only [Act.put, pS]
 refine rGq 16 23 ?_
 simp only [Act.put, pS]
 refine rGq 17 24 ?_
 simp only [Act.put, pS]
 refine rNq 18 25 (rNq 19 26 (rNq 20 27 ?_))
 simp only [Act.put, pS]
 refine rNq 21 28 ?_
 simp only [Act.put, pS]
 refine rGq 22 29 ?_
 simp only [Act.put, pS]
 refine rGq 23 6 ?_
 simp only [Act.put, pS]
 refine wpAnyH_done (by kernel_rfl) ?_ _
 clear hHeld
 clear yi0 yi2 hS0
 have hg : W3.grownBy W3.drew none := gDr (gRf _ _)
 replace i0 := kNq hg i0
 replace i2 := kNq hg i2
 replace HI3 := jh (kBq HI3.out hg)
 replace HR3 := jh (kBq HR3.out hg)
 replace HS3 := jh (HS3.out.grow hg)
 replace HG3 := jh (Lf.gbt HG3.out hg)
 clear hg
 generalize W3.drew = wd0 at *
 go_wp2_with fail
 have hg := Lf.gb (w := wd0) (.cells #[.int .i64 2] 3)
 have hK3 := heap_alloc_new wd0 (.cells #[.int .i64 2] 3)
 have HST := jh (stand_any (ks := [2]) (kc := 1) (HS3.out.grow hg) (kinds1 hK3) (by decide))
 rw [hc] at HST
 refine HST.out.mono ?_; rintro e w2 ⟨rfl, rfl⟩
 clear HST hK3
 replace i0 := kNq hg i0
 replace i2 := kNq hg i2
 replace HI3 := jh (kBq HI3.out hg)
 replace HR3 := jh (kBq HR3.out hg)
 replace HS3 := jh (HS3.out.grow hg)
 replace HG3 := jh (Lf.gbt HG3.out hg)
 clear hg
 generalize wd0.alloc _ = wk at *
 have hS3 : wk.grownBy wk (some (W.heap.size + 1)) := gRf _ _
 go_wp2_with fail
 refine (refused_led 5 (by decide) _).mono ?_
 rintro e w5 hp
 obtain ⟨a5, l5, c5, f5, er5, rfl, hS5, q0, q1, q2, HB5, HL5⟩ := led_fin hp HG3.out (gRf _ _) HR3.out
 clear hp
 go_wp2_with fail
 exact end_led (fun w z0 z1 => by simp [results, Tryz.results38, go_sem, z0, z1]) rfl HB5.out HL5.out
theorem asks_78 {W : World} {p n : Int} {ta ra da : Option Addr} {tl tc rl rc dl dc : Nat} {dk dn dp : Int} {ds : ByteArray} {s types : List Ty} {sv : Value} (hp : p = 78 \/ p = 79) (hs : RowC W s sv) (hT : RowC W types (.slice ta tl tc)) (hc : standF s [2, 2] = true) (hgd : s.all goodTy = true) (hn : s.length <= 1000) :
 Calls Tryz.prog 38 #[insV p n ta tl tc ra rl rc dk dn dp ds da dl dc, sv] W (LedPost (putF (s.drop 2) [(.nd 2 [])]) W) := by
 obtain ⟨sa, sl, sc, e1⟩ := hs.form3
 subst e1
 unfold insV
 obtain ⟨hg3, hI3, hR3⟩ := start2 W (.cells #[.int .i64 p, .int .i64 n, .slice ta tl tc, .slice ra rl rc, .int .i64 dk, .int .i64 dn, .int .i64 dp, .string ds, .slice da dl dc] 59) (.cells #[.slice none 0 0, .bool false] 27)
 have hs3 := hs.grow hg3
 have hT3 := hT.grow hg3
 have hlen : 2 <= s.length := stand_len hc
 obtain ⟨hsl, hsc, _⟩ := hs3.len
 obtain ⟨b, o, t0, a0, l0, k0, rfl, x0a, x0b, hA0⟩ := hs3.at 0 (by omega)
 have HA0 := jh hA0
 have bz1 : (1 : Int) <= (sl : Int) := by omega
 have by0 : 0 < sl := by omega
 have bz2 : (2 : Int) <= (sl : Int) := by omega
 have by1 : (1 : Int) < (sl : Int) := by omega
 have b1 : (sl : Int) <= (sc : Int) := by omega
 have HSL := jh hsl
 have HG3 := jh hg3
 have HI3 := jh hI3
 have HR3 := jh hR3
 have HS3 := jh hs3
 have HLEN := jh hlen
 simp only [Nat.reduceMul, Nat.reduceAdd, Nat.add_zero, Nat.mul_zero, Nat.zero_add] at x0a x0b
 obtain ⟨i0, i1, i2, i3, _⟩ := box9 hI3
 clear hg3 hI3 hR3 hs hs3 hT hT3 hsl hlen hgd hA0
 rcases hp with rfl | rfl
 all_goals
  go_enter Tryz.func38, Tryz.ntmps38
  go_wp2_with fail
  generalize (W.alloc _).alloc _ = W3 at *
  have yx0a := fun (w' : World) (h : W3.grownBy w' none) => kNq h x0a
  have yx0b := fun (w' : World) (h : W3.grownBy w' none) => kNq h x0b
  have yi0 := fun (w' : World) (h : W3.grownBy w' none) => kNq h i0
  have yi2 := fun (w' : World) (h : W3.grownBy w' none) => kNq h i2
  have hS0 : W3.grownBy W3 none := gRf _ _
  refine wp_region_held_drew (S := fun w' => W3.grownBy w' none) (by kernel_rfl) ?_ (fun hHeld => ?_)
  ·exact gDr (gRf _ _)
  refine rGq 0 7 ?_
  simp only [Act.put, pS]
  refine rGq 1 8 ?_
  simp only [Act.put, pS]
  refine rGq 2 9 ?_
  simp only [Act.put, pS]
  refine rGq 3 10 ?_
  simp only [Act.put, pS]
  refine rNq 4 11 (rNq 5 12 (rNq 6 13 ?_))
  simp only [Act.put, pS]
  refine rGq 7 14 ?_
  simp only [Act.put, pS]
  refine rGq 8 15 ?_
  simp only [Act.put, pS]
  refine rNq 9 16 (rNq 10 17 (rNq 11 18 ?_))
  simp only [Act.put, pS]
  refine rNq 12 19 (rNq 13 20 (rNq 14 21 ?_))
  simp only [Act.put, pS]
  refine rNq 15 22 ?_
  simp only [Act.put, pS]
  refine rGq 16 23 ?_
  simp only [Act.put, pS]
  refine rGq 17 24 ?_
  simp only [Act.put, pS]
  refine rNq 18 25 (rNq 19 26 (rNq 20 27 ?_))
  simp only [Act.put, pS]
  refine rNq 21 28 ?_
  simp only [Act.put, pS]
  refine rGq 22 29 ?_
  simp only [Act.put, pS]
  refine rGq 23 6 ?_
  simp only [Act.put, pS]
  refine wpAnyH_done (by kernel_rfl) ?_ _
  clear hHeld
  clear yx0a yx0b yi0 yi2 hS0
  have hg : W3.grownBy W3.drew none := gDr (gRf _ _)
  replace x0a := kNq hg x0a
  replace x0b := kNq hg x0b
  replace i0 := kNq hg i0
  replace i2 := kNq hg i2
  replace HI3 := jh (kBq HI3.out hg)
  replace HR3 := jh (kBq HR3.out hg)
  replace HS3 := jh (HS3.out.grow hg)
  replace HG3 := jh (Lf.gbt HG3.out hg)
  replace HA0 := jh (HA0.out.same (sAl hg))
  clear hg
  generalize W3.drew = wd0 at *
  go_wp2_with fail
  have hg := Lf.gb (w := wd0) (.cells #[.int .i64 2, .int .i64 2] 3)
  have hK3 := heap_alloc_new wd0 (.cells #[.int .i64 2, .int .i64 2] 3)
  have HST := jh (stand_any (ks := [2, 2]) (kc := 2) (HS3.out.grow hg) (kinds2 hK3) (by decide))
  rw [hc] at HST
  refine HST.out.mono ?_; rintro e w2 ⟨rfl, rfl⟩
  clear HST hK3
  replace x0a := kNq hg x0a
  replace x0b := kNq hg x0b
  replace i0 := kNq hg i0
  replace i2 := kNq hg i2
  replace HI3 := jh (kBq HI3.out hg)
  replace HR3 := jh (kBq HR3.out hg)
  replace HS3 := jh (HS3.out.grow hg)
  replace HG3 := jh (Lf.gbt HG3.out hg)
  replace HA0 := jh (HA0.out.same (sAl hg))
  clear hg
  generalize wd0.alloc _ = wk at *
  have yx0a := fun (w' : World) (h : wk.grownBy w' (some (W.heap.size + 1))) => kDq HR3.out h x0a x0a
  have yx0b := fun (w' : World) (h : wk.grownBy w' (some (W.heap.size + 1))) => kDq HR3.out h x0a x0b
  have hS3 : wk.grownBy wk (some (W.heap.size + 1)) := gRf _ _
  rcases (show (sc = 2 /\ sl = 2) \/ (¬ sc = 2 /\ ¬ sc - 2 = 0) by omega) with ⟨rfl, rfl⟩ | ⟨hc2, hc3⟩
  have HD := jh (HS3.out.dropAll 2 (by have := HSL.out; omega) (some ⟨b, o, none⟩) 0)
  rotate_left
  have HD := jh (HS3.out.drop 2 (by have := HLEN.out; omega))
  all_goals
   go_wp2_with fail
   go_region_held3 (fun w' => wk.grownBy w' (some (W.heap.size + 1))) (first | with_reducible assumption | with_reducible exact gDr (gRf _ _) | with_reducible exact grow_setR (by assumption) | with_reducible exact grow_trans (by assumption) (gAq (Lf.gb _)) | with_reducible exact gDr (gAq (Lf.gb _))) (first
    | (go_at_call 56; refine (of_any 2 _ _ _ _).mono ?_; rintro e w10 ⟨rfl, hg⟩; have HU0 := jh (LiesT.ofC (t := 2) ⟨by decide, by decide⟩ (RowC.grow (RowC.nil _ none 0) (undrew hg))); have HG10 : Hid (wk.grownBy w10 none) := Lf.gbt (gRf _ _) (undrew hg); have hS : wk.grownBy w10 (some (W.heap.size + 1)) := gAq HG10.out; clear hg)
    | (go_at_call 53; have hprev := HG10.out; clear hprev; refine (put_any (HD.out.grow (Lf.gbt HG10.out (Lf.gb _))) (RowC.one (heap_alloc_new w10 _) (HU0.out.same (sAl (Lf.gb _)))) (by simp; omega)).mono ?_; rintro e w5 hp; obtain ⟨a5, l5, c5, f5, er5, rfl, hS5, q0, q1, q2, HB5, HL5⟩ := led_fin hp HG3.out (Lf.gbt HG10.out (Lf.gb _)) HR3.out; clear hp))
   go_wp2_with fail
   exact end_led (fun w z0 z1 => by simp [results, Tryz.results38, go_sem, z0, z1]) rfl HB5.out HL5.out
theorem asks_78n {W : World} {p n : Int} {ta ra da : Option Addr} {tl tc rl rc dl dc : Nat} {dk dn dp : Int} {ds : ByteArray} {s types : List Ty} {sv : Value} (hp : p = 78 \/ p = 79) (hs : RowC W s sv) (hT : RowC W types (.slice ta tl tc)) (hc : standF s [2, 2] = false) (hgd : s.all goodTy = true) (hn : s.length <= 1000) :
 Calls Tryz.prog 38 #[insV p n ta tl tc ra rl rc dk dn dp ds da dl dc, sv] W (LedPost (.no 5) W) := by
 obtain ⟨sa, sl, sc, e1⟩ := hs.form3
 subst e1
 unfold insV
 obtain ⟨hg3, hI3, hR3⟩ := start2 W (.cells #[.int .i64 p, .int .i64 n, .slice ta tl tc, .slice ra rl rc, .int .i64 dk, .int .i64 dn, .int .i64 dp, .string ds, .slice da dl dc] 59) (.cells #[.slice none 0 0, .bool false] 27)
 have hs3 := hs.grow hg3
 have hT3 := hT.grow hg3
 have hlen : 0 <= s.length := Nat.zero_le _
 obtain ⟨hsl, hsc, _⟩ := hs3.len
 have b1 : (sl : Int) <= (sc : Int) := by omega
 have HSL := jh hsl
 have HG3 := jh hg3
 have HI3 := jh hI3
 have HR3 := jh hR3
 have HS3 := jh hs3
 have HLEN := jh hlen
 obtain ⟨i0, i1, i2, i3, _⟩ := box9 hI3
 clear hg3 hI3 hR3 hs hs3 hT hT3 hsl hlen hgd
 rcases hp with rfl | rfl
 all_goals
  go_enter Tryz.func38, Tryz.ntmps38
  go_wp2_with fail
  generalize (W.alloc _).alloc _ = W3 at *
  have yi0 := fun (w' : World) (h : W3.grownBy w' none) => kNq h i0
  have yi2 := fun (w' : World) (h : W3.grownBy w' none) => kNq h i2
  have hS0 : W3.grownBy W3 none := gRf _ _
  refine wp_region_held_drew (S := fun w' => W3.grownBy w' none) (by kernel_rfl) ?_ (fun hHeld => ?_)
  ·exact gDr (gRf _ _)
  refine rGq 0 7 ?_
  simp only [Act.put, pS]
  refine rGq 1 8 ?_
  simp only [Act.put, pS]
  refine rGq 2 9 ?_
  simp only [Act.put, pS]
  refine rGq 3 10 ?_
  simp only [Act.put, pS]
  refine rNq 4 11 (rNq 5 12 (rNq 6 13 ?_))
  simp only [Act.put, pS]
  refine rGq 7 14 ?_
  simp only [Act.put, pS]
  refine rGq 8 15 ?_
  simp only [Act.put, pS]
  refine rNq 9 16 (rNq 10 17 (rNq 11 18 ?_))
  simp only [Act.put, pS]
  refine rNq 12 19 (rNq 13 20 (rNq 14 21 ?_))
  simp only [Act.put, pS]
  refine rNq 15 22 ?_
  simp only [Act.put, pS]
  refine rGq 16 23 ?_
  simp only [Act.put, pS]
  refine rGq 17 24 ?_
  simp only [Act.put, pS]
  refine rNq 18 25 (rNq 19 26 (rNq 20 27 ?_))
  simp only [Act.put, pS]
  refine rNq 21 28 ?_
  simp only [Act.put, pS]
  refine rGq 22 29 ?_
  simp only [Act.put, pS]
  refine rGq 23 6 ?_
  simp only [Act.put, pS]
  refine wpAnyH_done (by kernel_rfl) ?_ _
  clear hHeld
  clear yi0 yi2 hS0
  have hg : W3.grownBy W3.drew none := gDr (gRf _ _)
  replace i0 := kNq hg i0
  replace i2 := kNq hg i2
  replace HI3 := jh (kBq HI3.out hg)
  replace HR3 := jh (kBq HR3.out hg)
  replace HS3 := jh (HS3.out.grow hg)
  replace HG3 := jh (Lf.gbt HG3.out hg)
  clear hg
  generalize W3.drew = wd0 at *
  go_wp2_with fail
  have hg := Lf.gb (w := wd0) (.cells #[.int .i64 2, .int .i64 2] 3)
  have hK3 := heap_alloc_new wd0 (.cells #[.int .i64 2, .int .i64 2] 3)
  have HST := jh (stand_any (ks := [2, 2]) (kc := 2) (HS3.out.grow hg) (kinds2 hK3) (by decide))
  rw [hc] at HST
  refine HST.out.mono ?_; rintro e w2 ⟨rfl, rfl⟩
  clear HST hK3
  replace i0 := kNq hg i0
  replace i2 := kNq hg i2
  replace HI3 := jh (kBq HI3.out hg)
  replace HR3 := jh (kBq HR3.out hg)
  replace HS3 := jh (HS3.out.grow hg)
  replace HG3 := jh (Lf.gbt HG3.out hg)
  clear hg
  generalize wd0.alloc _ = wk at *
  have hS3 : wk.grownBy wk (some (W.heap.size + 1)) := gRf _ _
  go_wp2_with fail
  refine (refused_led 5 (by decide) _).mono ?_
  rintro e w5 hp
  obtain ⟨a5, l5, c5, f5, er5, rfl, hS5, q0, q1, q2, HB5, HL5⟩ := led_fin hp HG3.out (gRf _ _) HR3.out
  clear hp
  go_wp2_with fail
  exact end_led (fun w z0 z1 => by simp [results, Tryz.results38, go_sem, z0, z1]) rfl HB5.out HL5.out
end Go.Proofs.YtamohjlhndedhadGreatRRR
