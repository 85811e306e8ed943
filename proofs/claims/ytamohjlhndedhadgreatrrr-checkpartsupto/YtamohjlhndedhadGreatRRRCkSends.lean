import Derived.Test.YtamohjlhndedhadGreatRRRZd
import Derived.Test.YtamohjlhndedhadGreatRRRZa
namespace Go.Proofs.YtamohjlhndedhadGreatRRR
set_option maxRecDepth 100000
set_option maxHeartbeats 4000000
open Go.ChangeShapes Go.WideShapes Go.ChangeAt Go.RowKit
set_option linter.unusedVariables false
set_option linter.unusedSimpArgs false
theorem sends_89 {W : World} {p n : Int} {ta ra da : Option Addr} {tl tc rl rc dl dc : Nat} {dk dn dp : Int} {ds : ByteArray} {s types : List Ty} {sv : Value} (hp : p = 89 \/ p = 90) (hs : RowC W s sv) (hT : RowC W types (.slice ta tl tc)) (hgd : s.all goodTy = true) (hn : s.length <= 1000) :
 Calls Tryz.prog 41 #[insV p n ta tl tc ra rl rc dk dn dp ds da dl dc, sv] W (LedPost (putF s [(.nd 7 [])]) W) := by
 obtain ⟨sa, sl, sc, e1⟩ := hs.form3
 subst e1
 unfold insV
 obtain ⟨hg3, hI3, hR3⟩ := start2 W (.cells #[.int .i64 p, .int .i64 n, .slice ta tl tc, .slice ra rl rc, .int .i64 dk, .int .i64 dn, .int .i64 dp, .string ds, .slice da dl dc] 59) (.cells #[.slice none 0 0, .bool false] 27)
 have hsz : ((W.alloc (.cells #[.int .i64 p, .int .i64 n, .slice ta tl tc, .slice ra rl rc, .int .i64 dk, .int .i64 dn, .int .i64 dp, .string ds, .slice da dl dc] 59)).alloc (.cells #[.slice none 0 0, .bool false] 27)).heap.size = W.heap.size + 1 + 1 := by simp
 have hs3 := hs.grow hg3
 have hT3 := hT.grow hg3
 have hlen : 0 <= s.length := Nat.zero_le _
 obtain ⟨hsl, hsc, _⟩ := hs3.len
 have b1 : (sl : Int) <= (sc : Int) := by omega
 have HSL := jh hsl
 have HG3 := jh hg3
 have HI3 := jh hI3
 have HR3 := jh hR3
 have HS3 := jh hs3
 have HLEN := jh hlen
 obtain ⟨i0, i1, i2, i3, _⟩ := box9 hI3
 clear hg3 hI3 hR3 hs hs3 hT hT3 hsl hlen hgd
 rcases hp with rfl | rfl
 all_goals
  go_enter Tryz.func41, Tryz.ntmps41
  go_wp2_with fail
  generalize (W.alloc _).alloc _ = W3 at *
  have hS3 : W3.grownBy W3 (some (W.heap.size + 1)) := gRf _ _
  have HD := HS3
  refine (of_any 7 _ _ _ _).mono ?_
  rintro e w10 ⟨rfl, hg⟩
  have HU0 := jh (LiesT.ofC (t := 7) ⟨by decide, by decide⟩ (RowC.grow (RowC.nil _ none 0) hg))
  have HG10 : Hid (W3.grownBy w10 none) := Lf.gbt (gRf _ _) hg
  have hS : W3.grownBy w10 (some (W.heap.size + 1)) := gAq HG10.out
  clear hg
  go_wp2_with fail
  have hprev := HG10.out
  clear hprev
  refine (put_any (HD.out.grow (Lf.gbt HG10.out (Lf.gb _))) (RowC.one (heap_alloc_new w10 _) (HU0.out.same (sAl (Lf.gb _)))) (by simp <;> omega)).mono ?_
  rintro e w5 hp
  obtain ⟨a5, l5, c5, f5, er5, rfl, hS5, q0, q1, q2, HB5, HL5⟩ := led_fin hp HG3.out (Lf.gbt HG10.out (Lf.gb _)) HR3.out
  clear hp
  go_wp2_with fail
  exact end_led (fun w z0 z1 => by simp [results, Tryz.results41, go_sem, z0, z1]) rfl HB5.out HL5.out
theorem sends_91 {W : World} {p n : Int} {ta ra da : Option Addr} {tl tc rl rc dl dc : Nat} {dk dn dp : Int} {ds : ByteArray} {s types : List Ty} {sv : Value} (hp : p = 91 \/ p = 92) (hs : RowC W s sv) (hT : RowC W types (.slice ta tl tc)) (hgd : s.all goodTy = true) (hn : s.length <= 1000) :
 Calls Tryz.prog 41 #[insV p n ta tl tc ra rl rc dk dn dp ds da dl dc, sv] W (LedPost (putF s [(.nd 5 [])]) W) := by
 obtain ⟨sa, sl, sc, e1⟩ := hs.form3
 subst e1
 unfold insV
 obtain ⟨hg3, hI3, hR3⟩ := start2 W (.cells #[.int .i64 p, .int .i64 n, .slice ta tl tc, .slice ra rl rc, .int .i64 dk, .int .i64 dn, .int .i64 dp, .string ds, .slice da dl dc] 59) (.cells #[.slice none 0 0, .bool false] 27)
 have hsz : ((W.alloc (.cells #[.int .i64 p, .int .i64 n, .slice ta tl tc, .slice ra rl rc, .int .i64 dk, .int .i64 dn, .int .i64 dp, .string ds, .slice da dl dc] 59)).alloc (.cells #[.slice none 0 0, .bool false] 27)).heap.size = W.heap.size + 1 + 1 := by simp
 have hs3 := hs.grow hg3
 have hT3 := hT.grow hg3
 have hlen : 0 <= s.length := Nat.zero_le _
 obtain ⟨hsl, hsc, _⟩ := hs3.len
 have b1 : (sl : Int) <= (sc : Int) := by omega
 have HSL := jh hsl
 have HG3 := jh hg3
 have HI3 := jh hI3
 have HR3 := jh hR3
 have HS3 := jh hs3
 have HLEN := jh hlen
 obtain ⟨i0, i1, i2, i3, _⟩ := box9 hI3
 clear hg3 hI3 hR3 hs hs3 hT hT3 hsl hlen hgd
 rcases hp with rfl | rfl
 all_goals
  go_enter Tryz.func41, Tryz.ntmps41
  go_wp2_with fail
  generalize (W.alloc _).alloc _ = W3 at *
  have hS3 : W3.grownBy W3 (some (W.heap.size + 1)) := gRf _ _
  have HD := HS3
  refine (of_any 5 _ _ _ _).mono ?_
  rintro e w10 ⟨rfl, hg⟩
  have HU0 := jh (LiesT.ofC (t := 5) ⟨by decide, by decide⟩ (RowC.grow (RowC.nil _ none 0) hg))
  have HG10 : Hid (W3.grownBy w10 none) := Lf.gbt (gRf _ _) hg
  have hS : W3.grownBy w10 (some (W.heap.size + 1)) := gAq HG10.out
  clear hg
  go_wp2_with fail
  have hprev := HG10.out
  clear hprev
  refine (put_any (HD.out.grow (Lf.gbt HG10.out (Lf.gb _))) (RowC.one (heap_alloc_new w10 _) (HU0.out.same (sAl (Lf.gb _)))) (by simp <;> omega)).mono ?_
  rintro e w5 hp
  obtain ⟨a5, l5, c5, f5, er5, rfl, hS5, q0, q1, q2, HB5, HL5⟩ := led_fin hp HG3.out (Lf.gbt HG10.out (Lf.gb _)) HR3.out
  clear hp
  go_wp2_with fail
  exact end_led (fun w z0 z1 => by simp [results, Tryz.results41, go_sem, z0, z1]) rfl HB5.out HL5.out
theorem sends_88 {W : World} {n : Int} {ta ra da : Option Addr} {tl tc rl rc dl dc : Nat} {dk dn dp : Int} {ds : ByteArray} {s types : List Ty} {sv : Value} (hs : RowC W s sv) (hT : RowC W types (.slice ta tl tc)) (hc : standF s [0, 5, 7] = true) (ht0 : sameT (tyAt s 0) (tyAt types 0) = true) (hz0 : (tyAt s 0).size <= 50000000) (ht1 : storeT (tyAt s 0) = true) (hz1 : (tyAt s 0).size <= 50000000) (htl : types.length = 1) (hgd : s.all goodTy = true) (hn : s.length <= 1000) :
 Calls Tryz.prog 41 #[insV 88 n ta tl tc ra rl rc dk dn dp ds da dl dc, sv] W (LedPost (putF (s.drop 3) [(.nd 8 [])]) W) := by
 obtain ⟨sa, sl, sc, e1⟩ := hs.form3
 subst e1
 unfold insV
 obtain ⟨hg3, hI3, hR3, hK3⟩ := start3 W (.cells #[.int .i64 88, .int .i64 n, .slice ta tl tc, .slice ra rl rc, .int .i64 dk, .int .i64 dn, .int .i64 dp, .string ds, .slice da dl dc] 59) (.cells #[.slice none 0 0, .bool false] 27) (.cells #[.int .i64 0, .int .i64 5, .int .i64 7] 3)
 have hs3 := hs.grow hg3
 have HST := jh (stand_any (ks := [0, 5, 7]) (kc := 3) hs3 (kinds3 hK3) (by decide))
 rw [hc] at HST
 have hT3 := hT.grow hg3
 have hlen : 3 <= s.length := stand_len hc
 obtain ⟨hsl, hsc, _⟩ := hs3.len
 obtain ⟨b, o, t0, a0, l0, k0, rfl, x0a, x0b, hA0⟩ := hs3.at 0 (by omega)
 have HA0 := jh hA0
 obtain ⟨et, ect, _⟩ := hT3.len
 rw [htl] at et ect
 subst et
 have HTY := jh hT3
 obtain ⟨bt, ot, ty0, ay0, ly0, ky0, rfl, xy0a, xy0b, hAy0⟩ := hT3.at 0 (by omega)
 have HAy0 := jh hAy0
 have bz1 : (1 : Int) <= (sl : Int) := by omega
 have by0 : 0 < sl := by omega
 have bz2 : (2 : Int) <= (sl : Int) := by omega
 have by1 : (1 : Int) < (sl : Int) := by omega
 have bz3 : (3 : Int) <= (sl : Int) := by omega
 have by2 : (2 : Int) < (sl : Int) := by omega
 have b1 : (sl : Int) <= (sc : Int) := by omega
 have HSL := jh hsl
 have HG3 := jh hg3
 have HI3 := jh hI3
 have HR3 := jh hR3
 have HS3 := jh hs3
 have HLEN := jh hlen
 simp only [Nat.reduceMul, Nat.reduceAdd, Nat.add_zero, Nat.mul_zero, Nat.zero_add] at x0a x0b xy0a xy0b
 clear hg3 hI3 hR3 hs hs3 hT hT3 hsl hlen hgd hc hK3 htl hA0 hAy0
 go_enter Tryz.func41, Tryz.ntmps41
 go_wp2_with fail
 refine HST.out.mono ?_; rintro e w1 ⟨rfl, rfl⟩
 clear HST
 generalize ((W.alloc _).alloc _).alloc _ = W3 at *
 obtain ⟨i0, i1, i2, i3, _⟩ := box9 HI3.out
 go_wp2_with fail
 have yx0a := fun (w' : World) (h : W3.grownBy w' none) => kNq h x0a
 have yx0b := fun (w' : World) (h : W3.grownBy w' none) => kNq h x0b
 have yxy0a := fun (w' : World) (h : W3.grownBy w' none) => kNq h xy0a
 have yxy0b := fun (w' : World) (h : W3.grownBy w' none) => kNq h xy0b
 have yi0 := fun (w' : World) (h : W3.grownBy w' none) => kNq h i0
 have yi2 := fun (w' : World) (h : W3.grownBy w' none) => kNq h i2
 have hS0 : W3.grownBy W3 none := gRf _ _
 first
  | (go_region_held3 (fun w' => W3.grownBy w' none) (first | with_reducible assumption | with_reducible exact gDr (gRf _ _) | with_reducible exact Lf.gbt (by assumption) (Lf.gb _) | with_reducible exact gDr (Lf.gb _)) (first
   | (go_at_call 65; have hprev := HGT0.out; clear hprev; refine (stored_any (HA0.out.same (sAl HGT0.out)).low hz1).mono ?_; rintro e wt1 ⟨rfl, hg⟩; rw [ht1]; have HGT1 : Hid (W3.grownBy wt1 none) := Lf.gbt HGT0.out hg; have hST1 := HGT1.out; clear hg)
   | (go_at_call 17; refine (same_any (HA0.out.same (sAl (gDr (gRf _ _)))).low (HAy0.out.same (sAl (gDr (gRf _ _)))).low hz0).mono ?_; rintro e wt0 ⟨rfl, hg⟩; rw [ht0]; have HGT0 : Hid (W3.grownBy wt0 none) := Lf.gbt (gDr (gRf _ _)) hg; have hST0 := HGT0.out; clear hg)))
  | fail
 clear yx0a yx0b yxy0a yxy0b yi0 yi2 hS0
 have hg := HGT1.out
 replace x0a := kNq hg x0a
 replace x0b := kNq hg x0b
 replace xy0a := kNq hg xy0a
 replace xy0b := kNq hg xy0b
 replace i0 := kNq hg i0
 replace i2 := kNq hg i2
 replace HI3 := jh (kBq HI3.out hg)
 replace HR3 := jh (kBq HR3.out hg)
 replace HS3 := jh (HS3.out.grow hg)
 replace HG3 := jh (Lf.gbt HG3.out hg)
 replace HA0 := jh (HA0.out.same (sAl hg))
 replace HAy0 := jh (HAy0.out.same (sAl hg))
 replace HTY := jh (HTY.out.grow hg)
 clear hg
 clear hST0 hST1
 have yx0a := fun (w' : World) (h : wt1.grownBy w' (some (W.heap.size + 1))) => kDq HR3.out h x0a x0a
 have yx0b := fun (w' : World) (h : wt1.grownBy w' (some (W.heap.size + 1))) => kDq HR3.out h x0a x0b
 have yxy0a := fun (w' : World) (h : wt1.grownBy w' (some (W.heap.size + 1))) => kDq HR3.out h xy0a xy0a
 have yxy0b := fun (w' : World) (h : wt1.grownBy w' (some (W.heap.size + 1))) => kDq HR3.out h xy0a xy0b
 have yi2 := fun (w' : World) (h : wt1.grownBy w' (some (W.heap.size + 1))) => (box9 (keepI HI3.out h)).2.2.1
 have hS3 : wt1.grownBy wt1 (some (W.heap.size + 1)) := gRf _ _
 rcases (show (sc = 3 /\ sl = 3) \/ (¬ sc = 3 /\ ¬ sc - 3 = 0) by omega) with ⟨rfl, rfl⟩ | ⟨hc2, hc3⟩
 have HD := jh (HS3.out.dropAll 3 (by have := HSL.out; omega) (some ⟨b, o, none⟩) 0)
 rotate_left
 have HD := jh (HS3.out.drop 3 (by have := HLEN.out; omega))
 all_goals
  go_wp2_with fail
  go_region_held3 (fun w' => wt1.grownBy w' (some (W.heap.size + 1))) (first | with_reducible assumption | with_reducible exact gDr (gRf _ _) | with_reducible exact grow_setR (by assumption) | with_reducible exact grow_trans (by assumption) (gAq (Lf.gb _)) | with_reducible exact gDr (gAq (Lf.gb _))) (first
   | (go_at_call 56; refine (of_any 8 _ _ _ _).mono ?_; rintro e w10 ⟨rfl, hg⟩; have HU0 := jh (LiesT.ofC (t := 8) ⟨by decide, by decide⟩ (RowC.grow (RowC.nil _ none 0) (undrew hg))); have HG10 : Hid (wt1.grownBy w10 none) := Lf.gbt (gRf _ _) (undrew hg); have hS : wt1.grownBy w10 (some (W.heap.size + 1)) := gAq HG10.out; clear hg)
   | (go_at_call 53; have hprev := HG10.out; clear hprev; refine (put_any (HD.out.grow (Lf.gbt HG10.out (Lf.gb _))) (RowC.one (heap_alloc_new w10 _) (HU0.out.same (sAl (Lf.gb _)))) (by simp; omega)).mono ?_; rintro e w5 hp; obtain ⟨a5, l5, c5, f5, er5, rfl, hS5, q0, q1, q2, HB5, HL5⟩ := led_fin hp HG3.out (Lf.gbt HG10.out (Lf.gb _)) HR3.out; clear hp))
  go_wp2_with fail
  exact end_led (fun w z0 z1 => by simp [results, Tryz.results41, go_sem, z0, z1]) rfl HB5.out HL5.out
theorem sends_88n {W : World} {n : Int} {ta ra da : Option Addr} {tl tc rl rc dl dc : Nat} {dk dn dp : Int} {ds : ByteArray} {s types : List Ty} {sv : Value} (hs : RowC W s sv) (hT : RowC W types (.slice ta tl tc)) (hc : standF s [0, 5, 7] = false) (hgd : s.all goodTy = true) (hn : s.length <= 1000) :
 Calls Tryz.prog 41 #[insV 88 n ta tl tc ra rl rc dk dn dp ds da dl dc, sv] W (LedPost (.no 5) W) := by
 obtain ⟨sa, sl, sc, e1⟩ := hs.form3
 subst e1
 unfold insV
 obtain ⟨hg3, hI3, hR3, hK3⟩ := start3 W (.cells #[.int .i64 88, .int .i64 n, .slice ta tl tc, .slice ra rl rc, .int .i64 dk, .int .i64 dn, .int .i64 dp, .string ds, .slice da dl dc] 59) (.cells #[.slice none 0 0, .bool false] 27) (.cells #[.int .i64 0, .int .i64 5, .int .i64 7] 3)
 have hs3 := hs.grow hg3
 have HST := jh (stand_any (ks := [0, 5, 7]) (kc := 3) hs3 (kinds3 hK3) (by decide))
 rw [hc] at HST
 have hT3 := hT.grow hg3
 have hlen : 0 <= s.length := Nat.zero_le _
 obtain ⟨hsl, hsc, _⟩ := hs3.len
 have b1 : (sl : Int) <= (sc : Int) := by omega
 have HSL := jh hsl
 have HG3 := jh hg3
 have HI3 := jh hI3
 have HR3 := jh hR3
 have HS3 := jh hs3
 have HLEN := jh hlen
 clear hg3 hI3 hR3 hs hs3 hT hT3 hsl hlen hgd hc hK3
 go_enter Tryz.func41, Tryz.ntmps41
 go_wp2_with fail
 refine HST.out.mono ?_; rintro e w1 ⟨rfl, rfl⟩
 clear HST
 generalize ((W.alloc _).alloc _).alloc _ = W3 at *
 obtain ⟨i0, i1, i2, i3, _⟩ := box9 HI3.out
 have hS3 : W3.grownBy W3 (some (W.heap.size + 1)) := gRf _ _
 go_wp2_with fail
 refine (refused_led 5 (by decide) _).mono ?_
 rintro e w5 hp
 obtain ⟨a5, l5, c5, f5, er5, rfl, hS5, q0, q1, q2, HB5, HL5⟩ := led_fin hp HG3.out (gRf _ _) HR3.out
 clear hp
 go_wp2_with fail
 exact end_led (fun w z0 z1 => by simp [results, Tryz.results41, go_sem, z0, z1]) rfl HB5.out HL5.out
theorem sends_88n1 {W : World} {n : Int} {ta ra da : Option Addr} {tl tc rl rc dl dc : Nat} {dk dn dp : Int} {ds : ByteArray} {s types : List Ty} {sv : Value} (hs : RowC W s sv) (hT : RowC W types (.slice ta tl tc)) (hc : standF s [0, 5, 7] = true) (ht0 : sameT (tyAt s 0) (tyAt types 0) = false) (hz0 : (tyAt s 0).size <= 50000000) (htl : types.length = 1) (hgd : s.all goodTy = true) (hn : s.length <= 1000) :
 Calls Tryz.prog 41 #[insV 88 n ta tl tc ra rl rc dk dn dp ds da dl dc, sv] W (LedPost (.no 5) W) := by
 obtain ⟨sa, sl, sc, e1⟩ := hs.form3
 subst e1
 unfold insV
 obtain ⟨hg3, hI3, hR3, hK3⟩ := start3 W (.cells #[.int .i64 88, .int .i64 n, .slice ta tl tc, .slice ra rl rc, .int .i64 dk, .int .i64 dn, .int .i64 dp, .string ds, .slice da dl dc] 59) (.cells #[.slice none 0 0, .bool false] 27) (.cells #[.int .i64 0, .int .i64 5, .int .i64 7] 3)
 have hs3 := hs.grow hg3
 have HST := jh (stand_any (ks := [0, 5, 7]) (kc := 3) hs3 (kinds3 hK3) (by decide))
 rw [hc] at HST
 have hT3 := hT.grow hg3
 have hlen : 3 <= s.length := stand_len hc
 obtain ⟨hsl, hsc, _⟩ := hs3.len
 obtain ⟨b, o, t0, a0, l0, k0, rfl, x0a, x0b, hA0⟩ := hs3.at 0 (by omega)
 have HA0 := jh hA0
 obtain ⟨et, ect, _⟩ := hT3.len
 rw [htl] at et ect
 subst et
 have HTY := jh hT3
 obtain ⟨bt, ot, ty0, ay0, ly0, ky0, rfl, xy0a, xy0b, hAy0⟩ := hT3.at 0 (by omega)
 have HAy0 := jh hAy0
 have bz1 : (1 : Int) <= (sl : Int) := by omega
 have by0 : 0 < sl := by omega
 have bz2 : (2 : Int) <= (sl : Int) := by omega
 have by1 : (1 : Int) < (sl : Int) := by omega
 have bz3 : (3 : Int) <= (sl : Int) := by omega
 have by2 : (2 : Int) < (sl : Int) := by omega
 have b1 : (sl : Int) <= (sc : Int) := by omega
 have HSL := jh hsl
 have HG3 := jh hg3
 have HI3 := jh hI3
 have HR3 := jh hR3
 have HS3 := jh hs3
 have HLEN := jh hlen
 simp only [Nat.reduceMul, Nat.reduceAdd, Nat.add_zero, Nat.mul_zero, Nat.zero_add] at x0a x0b xy0a xy0b
 clear hg3 hI3 hR3 hs hs3 hT hT3 hsl hlen hgd hc hK3 htl hA0 hAy0
 go_enter Tryz.func41, Tryz.ntmps41
 go_wp2_with fail
 refine HST.out.mono ?_; rintro e w1 ⟨rfl, rfl⟩
 clear HST
 generalize ((W.alloc _).alloc _).alloc _ = W3 at *
 obtain ⟨i0, i1, i2, i3, _⟩ := box9 HI3.out
 go_wp2_with fail
 have yx0a := fun (w' : World) (h : W3.grownBy w' none) => kNq h x0a
 have yx0b := fun (w' : World) (h : W3.grownBy w' none) => kNq h x0b
 have yxy0a := fun (w' : World) (h : W3.grownBy w' none) => kNq h xy0a
 have yxy0b := fun (w' : World) (h : W3.grownBy w' none) => kNq h xy0b
 have yi0 := fun (w' : World) (h : W3.grownBy w' none) => kNq h i0
 have yi2 := fun (w' : World) (h : W3.grownBy w' none) => kNq h i2
 have hS0 : W3.grownBy W3 none := gRf _ _
 refine wp_region_held_drew (S := fun w' => W3.grownBy w' none) (by kernel_rfl) ?_ (fun hHeld => ?_)
 ·exact gDr (gRf _ _)
 refine rGq 0 15 ?_
 simp only [Act.put, pS]
 refine rGq 1 16 ?_
 simp only [Act.put, pS]
 refine rGq 2 17 ?_
 simp only [Act.put, pS]
 refine rGq 3 18 ?_
 simp only [Act.put, pS]
 refine rGq 4 19 ?_
 simp only [Act.put, pS]
 refine rGq 5 20 ?_
 simp only [Act.put, pS]
 refine rGq 6 21 ?_
 simp only [Act.put, pS]
 refine wpAnyH_ready (rs := [7]) (by kernel_rfl) (by simp) ?_
 refine AllReadyH.cons rfl (fun K hK => ?_) AllReadyH.nil
 go_simp
 go_at_call 17
 refine (same_any (HA0.out.same (sAl hHeld)).low (HAy0.out.same (sAl hHeld)).low hz0).mono ?_; rintro e wt0 ⟨rfl, hg⟩
 rw [ht0]
 have hH9 := Lf.gbt hHeld hg
 refine hK.out _ _ hH9 (fun _ => ?_)
 have HGT0 := jh hH9
 have hST0 := hH9
 clear hK K hHeld hg
 have hHeld := hH9
 clear hH9
 refine rGq 8 23 ?_
 simp only [Act.put, pS]
 refine rNq 9 24 (rNq 10 25 (rNq 11 26 ?_))
 simp only [Act.put, pS]
 refine rNq 12 27 ?_
 simp only [Act.put, pS]
 refine rGq 13 28 ?_
 simp only [Act.put, pS]
 refine wpAnyH_done (by kernel_rfl) ?_ _
 clear hHeld
 clear yx0a yx0b yxy0a yxy0b yi0 yi2 hS0
 have hg := HGT0.out
 replace x0a := kNq hg x0a
 replace x0b := kNq hg x0b
 replace xy0a := kNq hg xy0a
 replace xy0b := kNq hg xy0b
 replace i0 := kNq hg i0
 replace i2 := kNq hg i2
 replace HI3 := jh (kBq HI3.out hg)
 replace HR3 := jh (kBq HR3.out hg)
 replace HS3 := jh (HS3.out.grow hg)
 replace HG3 := jh (Lf.gbt HG3.out hg)
 replace HA0 := jh (HA0.out.same (sAl hg))
 replace HAy0 := jh (HAy0.out.same (sAl hg))
 replace HTY := jh (HTY.out.grow hg)
 clear hg
 clear hST0
 have yx0a := fun (w' : World) (h : wt0.grownBy w' (some (W.heap.size + 1))) => kDq HR3.out h x0a x0a
 have yx0b := fun (w' : World) (h : wt0.grownBy w' (some (W.heap.size + 1))) => kDq HR3.out h x0a x0b
 have yxy0a := fun (w' : World) (h : wt0.grownBy w' (some (W.heap.size + 1))) => kDq HR3.out h xy0a xy0a
 have yxy0b := fun (w' : World) (h : wt0.grownBy w' (some (W.heap.size + 1))) => kDq HR3.out h xy0a xy0b
 have yi2 := fun (w' : World) (h : wt0.grownBy w' (some (W.heap.size + 1))) => (box9 (keepI HI3.out h)).2.2.1
 have hS3 : wt0.grownBy wt0 (some (W.heap.size + 1)) := gRf _ _
 go_wp2_with fail
 refine (refused_led 5 (by decide) _).mono ?_
 rintro e w5 hp
 obtain ⟨a5, l5, c5, f5, er5, rfl, hS5, q0, q1, q2, HB5, HL5⟩ := led_fin hp HG3.out (gRf _ _) HR3.out
 clear hp
 go_wp2_with fail
 exact end_led (fun w z0 z1 => by simp [results, Tryz.results41, go_sem, z0, z1]) rfl HB5.out HL5.out
theorem sends_88n2 {W : World} {n : Int} {ta ra da : Option Addr} {tl tc rl rc dl dc : Nat} {dk dn dp : Int} {ds : ByteArray} {s types : List Ty} {sv : Value} (hs : RowC W s sv) (hT : RowC W types (.slice ta tl tc)) (hc : standF s [0, 5, 7] = true) (ht0 : sameT (tyAt s 0) (tyAt types 0) = true) (hz0 : (tyAt s 0).size <= 50000000) (ht1 : storeT (tyAt s 0) = false) (hz1 : (tyAt s 0).size <= 50000000) (htl : types.length = 1) (hgd : s.all goodTy = true) (hn : s.length <= 1000) :
 Calls Tryz.prog 41 #[insV 88 n ta tl tc ra rl rc dk dn dp ds da dl dc, sv] W (LedPost (.no 5) W) := by
 obtain ⟨sa, sl, sc, e1⟩ := hs.form3
 subst e1
 unfold insV
 obtain ⟨hg3, hI3, hR3, hK3⟩ := start3 W (.cells #[.int .i64 88, .int .i64 n, .slice ta tl tc, .slice ra rl rc, .int .i64 dk, .int .i64 dn, .int .i64 dp, .string ds, .slice da dl dc] 59) (.cells #[.slice none 0 0, .bool false] 27) (.cells #[.int .i64 0, .int .i64 5, .int .i64 7] 3)
 have hs3 := hs.grow hg3
 have HST := jh (stand_any (ks := [0, 5, 7]) (kc := 3) hs3 (kinds3 hK3) (by decide))
 rw [hc] at HST
 have hT3 := hT.grow hg3
 have hlen : 3 <= s.length := stand_len hc
 obtain ⟨hsl, hsc, _⟩ := hs3.len
 obtain ⟨b, o, t0, a0, l0, k0, rfl, x0a, x0b, hA0⟩ := hs3.at 0 (by omega)
 have HA0 := jh hA0
 obtain ⟨et, ect, _⟩ := hT3.len
 rw [htl] at et ect
 subst et
 have HTY := jh hT3
 obtain ⟨bt, ot, ty0, ay0, ly0, ky0, rfl, xy0a, xy0b, hAy0⟩ := hT3.at 0 (by omega)
 have HAy0 := jh hAy0
 have bz1 : (1 : Int) <= (sl : Int) := by omega
 have by0 : 0 < sl := by omega
 have bz2 : (2 : Int) <= (sl : Int) := by omega
 have by1 : (1 : Int) < (sl : Int) := by omega
 have bz3 : (3 : Int) <= (sl : Int) := by omega
 have by2 : (2 : Int) < (sl : Int) := by omega
 have b1 : (sl : Int) <= (sc : Int) := by omega
 have HSL := jh hsl
 have HG3 := jh hg3
 have HI3 := jh hI3
 have HR3 := jh hR3
 have HS3 := jh hs3
 have HLEN := jh hlen
 simp only [Nat.reduceMul, Nat.reduceAdd, Nat.add_zero, Nat.mul_zero, Nat.zero_add] at x0a x0b xy0a xy0b
 clear hg3 hI3 hR3 hs hs3 hT hT3 hsl hlen hgd hc hK3 htl hA0 hAy0
 go_enter Tryz.func41, Tryz.ntmps41
 go_wp2_with fail
 refine HST.out.mono ?_; rintro e w1 ⟨rfl, rfl⟩
 clear HST
 generalize ((W.alloc _).alloc _).alloc _ = W3 at *
 obtain ⟨i0, i1, i2, i3, _⟩ := box9 HI3.out
 go_wp2_with fail
 have yx0a := fun (w' : World) (h : W3.grownBy w' none) => kNq h x0a
 have yx0b := fun (w' : World) (h : W3.grownBy w' none) => kNq h x0b
 have yxy0a := fun (w' : World) (h : W3.grownBy w' none) => kNq h xy0a
 have yxy0b := fun (w' : World) (h : W3.grownBy w' none) => kNq h xy0b
 have yi0 := fun (w' : World) (h : W3.grownBy w' none) => kNq h i0
 have yi2 := fun (w' : World) (h : W3.grownBy w' none) => kNq h i2
 have hS0 : W3.grownBy W3 none := gRf _ _
 refine wp_region_held_drew (S := fun w' => W3.grownBy w' none) (by kernel_rfl) ?_ (fun hHeld => ?_)
 ·exact gDr (gRf _ _)
 refine rGq 0 15 ?_
 simp only [Act.put, pS]
 refine rGq 1 16 ?_
 simp only [Act.put, pS]
 refine rGq 2 17 ?_
 simp only [Act.put, pS]
 refine rGq 3 18 ?_
 simp only [Act.put, pS]
 refine rGq 4 19 ?_
 simp only [Act.put, pS]
 refine rGq 5 20 ?_
 simp only [Act.put, pS]
 refine rGq 6 21 ?_
 simp only [Act.put, pS]
 refine wpAnyH_ready (rs := [7]) (by kernel_rfl) (by simp) ?_
 refine AllReadyH.cons rfl (fun K hK => ?_) AllReadyH.nil
 go_simp
 go_at_call 17
 refine (same_any (HA0.out.same (sAl hHeld)).low (HAy0.out.same (sAl hHeld)).low hz0).mono ?_; rintro e wt0 ⟨rfl, hg⟩
 rw [ht0]
 have hH9 := Lf.gbt hHeld hg
 refine hK.out _ _ hH9 (fun _ => ?_)
 have HGT0 := jh hH9
 have hST0 := hH9
 clear hK K hHeld hg
 have hHeld := hH9
 clear hH9
 refine rGq 8 23 ?_
 simp only [Act.put, pS]
 refine rGq 9 24 ?_
 simp only [Act.put, pS]
 refine rGq 10 25 ?_
 simp only [Act.put, pS]
 refine rGq 11 26 ?_
 simp only [Act.put, pS]
 refine wpAnyH_ready (rs := [12]) (by kernel_rfl) (by simp) ?_
 refine AllReadyH.cons rfl (fun K hK => ?_) AllReadyH.nil
 go_simp
 go_at_call 65
 refine (stored_any (HA0.out.same (sAl hHeld)).low hz1).mono ?_; rintro e wt1 ⟨rfl, hg⟩
 rw [ht1]
 have hH9 := Lf.gbt hHeld hg
 refine hK.out _ _ hH9 (fun _ => ?_)
 have HGT1 := jh hH9
 have hST1 := hH9
 clear hK K hHeld hg
 have hHeld := hH9
 clear hH9
 refine rGq 13 28 ?_
 simp only [Act.put, pS]
 refine wpAnyH_done (by kernel_rfl) ?_ _
 clear hHeld
 clear yx0a yx0b yxy0a yxy0b yi0 yi2 hS0
 have hg := HGT1.out
 replace x0a := kNq hg x0a
 replace x0b := kNq hg x0b
 replace xy0a := kNq hg xy0a
 replace xy0b := kNq hg xy0b
 replace i0 := kNq hg i0
 replace i2 := kNq hg i2
 replace HI3 := jh (kBq HI3.out hg)
 replace HR3 := jh (kBq HR3.out hg)
 replace HS3 := jh (HS3.out.grow hg)
 replace HG3 := jh (Lf.gbt HG3.out hg)
 replace HA0 := jh (HA0.out.same (sAl hg))
 replace HAy0 := jh (HAy0.out.same (sAl hg))
 replace HTY := jh (HTY.out.grow hg)
 clear hg
 clear hST0 hST1
 have yx0a := fun (w' : World) (h : wt1.grownBy w' (some (W.heap.size + 1))) => kDq HR3.out h x0a x0a
 have yx0b := fun (w' : World) (h : wt1.grownBy w' (some (W.heap.size + 1))) => kDq HR3.out h x0a x0b
 have yxy0a := fun (w' : World) (h : wt1.grownBy w' (some (W.heap.size + 1))) => kDq HR3.out h xy0a xy0a
 have yxy0b := fun (w' : World) (h : wt1.grownBy w' (some (W.heap.size + 1))) => kDq HR3.out h xy0a xy0b
 have yi2 := fun (w' : World) (h : wt1.grownBy w' (some (W.heap.size + 1))) => (box9 (keepI HI3.out h)).2.2.1
 have hS3 : wt1.grownBy wt1 (some (W.heap.size + 1)) := gRf _ _
 go_wp2_with fail
 refine (refused_led 5 (by decide) _).mono ?_
 rintro e w5 hp
 obtain ⟨a5, l5, c5, f5, er5, rfl, hS5, q0, q1, q2, HB5, HL5⟩ := led_fin hp HG3.out (gRf _ _) HR3.out
 clear hp
 go_wp2_with fail
 exact end_led (fun w z0 z1 => by simp [results, Tryz.results41, go_sem, z0, z1]) rfl HB5.out HL5.out
end Go.Proofs.YtamohjlhndedhadGreatRRR
