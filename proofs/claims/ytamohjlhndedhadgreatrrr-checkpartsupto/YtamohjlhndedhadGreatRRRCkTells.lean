import Derived.Test.YtamohjlhndedhadGreatRRRZd
import Derived.Test.YtamohjlhndedhadGreatRRRZa
namespace Go.Proofs.YtamohjlhndedhadGreatRRR
set_option maxRecDepth 100000
set_option maxHeartbeats 4000000
open Go.ChangeShapes Go.WideShapes Go.ChangeAt Go.RowKit
set_option linter.unusedVariables false
set_option linter.unusedSimpArgs false
theorem tells_80 {W : World} {n : Int} {ta ra da : Option Addr} {tl tc rl rc dl dc : Nat} {dk dn dp : Int} {ds : ByteArray} {s types : List Ty} {sv : Value} (hs : RowC W s sv) (hT : RowC W types (.slice ta tl tc)) (hc : standF s [6, 6] = true) (hgd : s.all goodTy = true) (hn : s.length <= 1000) :
 Calls Tryz.prog 39 #[insV 80 n ta tl tc ra rl rc dk dn dp ds da dl dc, sv] W (LedPost (putF (s.drop 2) [(.nd 6 [])]) W) := by
 obtain ⟨sa, sl, sc, e1⟩ := hs.form3
 subst e1
 unfold insV
 obtain ⟨hg3, hI3, hR3, hK3⟩ := start3 W (.cells #[.int .i64 80, .int .i64 n, .slice ta tl tc, .slice ra rl rc, .int .i64 dk, .int .i64 dn, .int .i64 dp, .string ds, .slice da dl dc] 59) (.cells #[.slice none 0 0, .bool false] 27) (.cells #[.int .i64 6, .int .i64 6] 3)
 have hs3 := hs.grow hg3
 have HST := jh (stand_any (ks := [6, 6]) (kc := 2) hs3 (kinds2 hK3) (by decide))
 rw [hc] at HST
 have hT3 := hT.grow hg3
 have hlen : 2 <= s.length := stand_len hc
 obtain ⟨hsl, hsc, _⟩ := hs3.len
 obtain ⟨b, o, t0, a0, l0, k0, rfl, x0a, x0b, hA0⟩ := hs3.at 0 (by omega)
 have HA0 := jh hA0
 have bz1 : (1 : Int) <= (sl : Int) := by omega
 have by0 : 0 < sl := by omega
 have bz2 : (2 : Int) <= (sl : Int) := by omega
 have by1 : (1 : Int) < (sl : Int) := by omega
 have b1 : (sl : Int) <= (sc : Int) := by omega
 have HSL := jh hsl
 have HG3 := jh hg3
 have HI3 := jh hI3
 have HR3 := jh hR3
 have HS3 := jh hs3
 have HLEN := jh hlen
 simp only [Nat.reduceMul, Nat.reduceAdd, Nat.add_zero, Nat.mul_zero, Nat.zero_add] at x0a x0b
 clear hg3 hI3 hR3 hs hs3 hT hT3 hsl hlen hgd hc hK3 hA0
 go_enter Tryz.func39, Tryz.ntmps39
 go_wp2_with fail
 refine HST.out.mono ?_; rintro e w1 ⟨rfl, rfl⟩
 clear HST
 generalize ((W.alloc _).alloc _).alloc _ = W3 at *
 obtain ⟨i0, i1, i2, i3, _⟩ := box9 HI3.out
 have yx0a := fun (w' : World) (h : W3.grownBy w' (some (W.heap.size + 1))) => kDq HR3.out h x0a x0a
 have yx0b := fun (w' : World) (h : W3.grownBy w' (some (W.heap.size + 1))) => kDq HR3.out h x0a x0b
 have hS3 : W3.grownBy W3 (some (W.heap.size + 1)) := gRf _ _
 rcases (show (sc = 2 /\ sl = 2) \/ (¬ sc = 2 /\ ¬ sc - 2 = 0) by omega) with ⟨rfl, rfl⟩ | ⟨hc2, hc3⟩
 have HD := jh (HS3.out.dropAll 2 (by have := HSL.out; omega) (some ⟨b, o, none⟩) 0)
 rotate_left
 have HD := jh (HS3.out.drop 2 (by have := HLEN.out; omega))
 all_goals
  go_wp2_with fail
  go_region_held3 (fun w' => W3.grownBy w' (some (W.heap.size + 1))) (first | with_reducible assumption | with_reducible exact gDr (gRf _ _) | with_reducible exact grow_setR (by assumption) | with_reducible exact grow_trans (by assumption) (gAq (Lf.gb _)) | with_reducible exact gDr (gAq (Lf.gb _))) (first
   | (go_at_call 56; refine (of_any 6 _ _ _ _).mono ?_; rintro e w10 ⟨rfl, hg⟩; have HU0 := jh (LiesT.ofC (t := 6) ⟨by decide, by decide⟩ (RowC.grow (RowC.nil _ none 0) (undrew hg))); have HG10 : Hid (W3.grownBy w10 none) := Lf.gbt (gRf _ _) (undrew hg); have hS : W3.grownBy w10 (some (W.heap.size + 1)) := gAq HG10.out; clear hg)
   | (go_at_call 53; have hprev := HG10.out; clear hprev; refine (put_any (HD.out.grow (Lf.gbt HG10.out (Lf.gb _))) (RowC.one (heap_alloc_new w10 _) (HU0.out.same (sAl (Lf.gb _)))) (by simp; omega)).mono ?_; rintro e w5 hp; obtain ⟨a5, l5, c5, f5, er5, rfl, hS5, q0, q1, q2, HB5, HL5⟩ := led_fin hp HG3.out (Lf.gbt HG10.out (Lf.gb _)) HR3.out; clear hp))
  go_wp2_with fail
  exact end_led (fun w z0 z1 => by simp [results, Tryz.results39, go_sem, z0, z1]) rfl HB5.out HL5.out
theorem tells_80n {W : World} {n : Int} {ta ra da : Option Addr} {tl tc rl rc dl dc : Nat} {dk dn dp : Int} {ds : ByteArray} {s types : List Ty} {sv : Value} (hs : RowC W s sv) (hT : RowC W types (.slice ta tl tc)) (hc : standF s [6, 6] = false) (hgd : s.all goodTy = true) (hn : s.length <= 1000) :
 Calls Tryz.prog 39 #[insV 80 n ta tl tc ra rl rc dk dn dp ds da dl dc, sv] W (LedPost (.no 5) W) := by
 obtain ⟨sa, sl, sc, e1⟩ := hs.form3
 subst e1
 unfold insV
 obtain ⟨hg3, hI3, hR3, hK3⟩ := start3 W (.cells #[.int .i64 80, .int .i64 n, .slice ta tl tc, .slice ra rl rc, .int .i64 dk, .int .i64 dn, .int .i64 dp, .string ds, .slice da dl dc] 59) (.cells #[.slice none 0 0, .bool false] 27) (.cells #[.int .i64 6, .int .i64 6] 3)
 have hs3 := hs.grow hg3
 have HST := jh (stand_any (ks := [6, 6]) (kc := 2) hs3 (kinds2 hK3) (by decide))
 rw [hc] at HST
 have hT3 := hT.grow hg3
 have hlen : 0 <= s.length := Nat.zero_le _
 obtain ⟨hsl, hsc, _⟩ := hs3.len
 have b1 : (sl : Int) <= (sc : Int) := by omega
 have HSL := jh hsl
 have HG3 := jh hg3
 have HI3 := jh hI3
 have HR3 := jh hR3
 have HS3 := jh hs3
 have HLEN := jh hlen
 clear hg3 hI3 hR3 hs hs3 hT hT3 hsl hlen hgd hc hK3
 go_enter Tryz.func39, Tryz.ntmps39
 go_wp2_with fail
 refine HST.out.mono ?_; rintro e w1 ⟨rfl, rfl⟩
 clear HST
 generalize ((W.alloc _).alloc _).alloc _ = W3 at *
 obtain ⟨i0, i1, i2, i3, _⟩ := box9 HI3.out
 have hS3 : W3.grownBy W3 (some (W.heap.size + 1)) := gRf _ _
 go_wp2_with fail
 refine (refused_led 5 (by decide) _).mono ?_
 rintro e w5 hp
 obtain ⟨a5, l5, c5, f5, er5, rfl, hS5, q0, q1, q2, HB5, HL5⟩ := led_fin hp HG3.out (gRf _ _) HR3.out
 clear hp
 go_wp2_with fail
 exact end_led (fun w z0 z1 => by simp [results, Tryz.results39, go_sem, z0, z1]) rfl HB5.out HL5.out
theorem tells_81 {W : World} {n : Int} {ta ra da : Option Addr} {tl tc rl rc dl dc : Nat} {dk dn dp : Int} {ds : ByteArray} {s types : List Ty} {sv : Value} (hs : RowC W s sv) (hT : RowC W types (.slice ta tl tc)) (hc : standF s [0] = true) (ht0 : packT (tyAt s 0) = true) (hz0 : (tyAt s 0).size <= 50000000) (hgd : s.all goodTy = true) (hn : s.length <= 1000) :
 Calls Tryz.prog 39 #[insV 81 n ta tl tc ra rl rc dk dn dp ds da dl dc, sv] W (LedPost (putF (s.drop 1) [(.nd 6 [])]) W) := by
 obtain ⟨sa, sl, sc, e1⟩ := hs.form3
 subst e1
 unfold insV
 obtain ⟨hg3, hI3, hR3, hK3⟩ := start3 W (.cells #[.int .i64 81, .int .i64 n, .slice ta tl tc, .slice ra rl rc, .int .i64 dk, .int .i64 dn, .int .i64 dp, .string ds, .slice da dl dc] 59) (.cells #[.slice none 0 0, .bool false] 27) (.cells #[.int .i64 0] 3)
 have hs3 := hs.grow hg3
 have HST := jh (stand_any (ks := [0]) (kc := 1) hs3 (kinds1 hK3) (by decide))
 rw [hc] at HST
 have hT3 := hT.grow hg3
 have hlen : 1 <= s.length := stand_len hc
 obtain ⟨hsl, hsc, _⟩ := hs3.len
 obtain ⟨b, o, t0, a0, l0, k0, rfl, x0a, x0b, hA0⟩ := hs3.at 0 (by omega)
 have HA0 := jh hA0
 have bz1 : (1 : Int) <= (sl : Int) := by omega
 have by0 : 0 < sl := by omega
 have b1 : (sl : Int) <= (sc : Int) := by omega
 have HSL := jh hsl
 have HG3 := jh hg3
 have HI3 := jh hI3
 have HR3 := jh hR3
 have HS3 := jh hs3
 have HLEN := jh hlen
 simp only [Nat.reduceMul, Nat.reduceAdd, Nat.add_zero, Nat.mul_zero, Nat.zero_add] at x0a x0b
 clear hg3 hI3 hR3 hs hs3 hT hT3 hsl hlen hgd hc hK3 hA0
 go_enter Tryz.func39, Tryz.ntmps39
 go_wp2_with fail
 refine HST.out.mono ?_; rintro e w1 ⟨rfl, rfl⟩
 clear HST
 generalize ((W.alloc _).alloc _).alloc _ = W3 at *
 obtain ⟨i0, i1, i2, i3, _⟩ := box9 HI3.out
 go_wp2_with fail
 refine (packed_any HA0.out.low hz0).mono ?_; rintro e wt0 ⟨rfl, hg⟩
 rw [ht0]
 replace x0a := kNq hg x0a
 replace x0b := kNq hg x0b
 replace i0 := kNq hg i0
 replace i2 := kNq hg i2
 replace HI3 := jh (kBq HI3.out hg)
 replace HR3 := jh (kBq HR3.out hg)
 replace HS3 := jh (HS3.out.grow hg)
 replace HG3 := jh (Lf.gbt HG3.out hg)
 replace HA0 := jh (HA0.out.same (sAl hg))
 clear hg
 have yx0a := fun (w' : World) (h : wt0.grownBy w' (some (W.heap.size + 1))) => kDq HR3.out h x0a x0a
 have yx0b := fun (w' : World) (h : wt0.grownBy w' (some (W.heap.size + 1))) => kDq HR3.out h x0a x0b
 have hS3 : wt0.grownBy wt0 (some (W.heap.size + 1)) := gRf _ _
 rcases (show (sc = 1 /\ sl = 1) \/ (¬ sc = 1 /\ ¬ sc - 1 = 0) by omega) with ⟨rfl, rfl⟩ | ⟨hc2, hc3⟩
 have HD := jh (HS3.out.dropAll 1 (by have := HSL.out; omega) (some ⟨b, o, none⟩) 0)
 rotate_left
 have HD := jh (HS3.out.drop 1 (by have := HLEN.out; omega))
 all_goals
  go_wp2_with fail
  go_region_held3 (fun w' => wt0.grownBy w' (some (W.heap.size + 1))) (first | with_reducible assumption | with_reducible exact gDr (gRf _ _) | with_reducible exact grow_setR (by assumption) | with_reducible exact grow_trans (by assumption) (gAq (Lf.gb _)) | with_reducible exact gDr (gAq (Lf.gb _))) (first
   | (go_at_call 56; refine (of_any 6 _ _ _ _).mono ?_; rintro e w10 ⟨rfl, hg⟩; have HU0 := jh (LiesT.ofC (t := 6) ⟨by decide, by decide⟩ (RowC.grow (RowC.nil _ none 0) (undrew hg))); have HG10 : Hid (wt0.grownBy w10 none) := Lf.gbt (gRf _ _) (undrew hg); have hS : wt0.grownBy w10 (some (W.heap.size + 1)) := gAq HG10.out; clear hg)
   | (go_at_call 53; have hprev := HG10.out; clear hprev; refine (put_any (HD.out.grow (Lf.gbt HG10.out (Lf.gb _))) (RowC.one (heap_alloc_new w10 _) (HU0.out.same (sAl (Lf.gb _)))) (by simp; omega)).mono ?_; rintro e w5 hp; obtain ⟨a5, l5, c5, f5, er5, rfl, hS5, q0, q1, q2, HB5, HL5⟩ := led_fin hp HG3.out (Lf.gbt HG10.out (Lf.gb _)) HR3.out; clear hp))
  go_wp2_with fail
  exact end_led (fun w z0 z1 => by simp [results, Tryz.results39, go_sem, z0, z1]) rfl HB5.out HL5.out
theorem tells_81n {W : World} {n : Int} {ta ra da : Option Addr} {tl tc rl rc dl dc : Nat} {dk dn dp : Int} {ds : ByteArray} {s types : List Ty} {sv : Value} (hs : RowC W s sv) (hT : RowC W types (.slice ta tl tc)) (hc : standF s [0] = false) (hgd : s.all goodTy = true) (hn : s.length <= 1000) :
 Calls Tryz.prog 39 #[insV 81 n ta tl tc ra rl rc dk dn dp ds da dl dc, sv] W (LedPost (.no 5) W) := by
 obtain ⟨sa, sl, sc, e1⟩ := hs.form3
 subst e1
 unfold insV
 obtain ⟨hg3, hI3, hR3, hK3⟩ := start3 W (.cells #[.int .i64 81, .int .i64 n, .slice ta tl tc, .slice ra rl rc, .int .i64 dk, .int .i64 dn, .int .i64 dp, .string ds, .slice da dl dc] 59) (.cells #[.slice none 0 0, .bool false] 27) (.cells #[.int .i64 0] 3)
 have hs3 := hs.grow hg3
 have HST := jh (stand_any (ks := [0]) (kc := 1) hs3 (kinds1 hK3) (by decide))
 rw [hc] at HST
 have hT3 := hT.grow hg3
 have hlen : 0 <= s.length := Nat.zero_le _
 obtain ⟨hsl, hsc, _⟩ := hs3.len
 have b1 : (sl : Int) <= (sc : Int) := by omega
 have HSL := jh hsl
 have HG3 := jh hg3
 have HI3 := jh hI3
 have HR3 := jh hR3
 have HS3 := jh hs3
 have HLEN := jh hlen
 clear hg3 hI3 hR3 hs hs3 hT hT3 hsl hlen hgd hc hK3
 go_enter Tryz.func39, Tryz.ntmps39
 go_wp2_with fail
 refine HST.out.mono ?_; rintro e w1 ⟨rfl, rfl⟩
 clear HST
 generalize ((W.alloc _).alloc _).alloc _ = W3 at *
 obtain ⟨i0, i1, i2, i3, _⟩ := box9 HI3.out
 have hS3 : W3.grownBy W3 (some (W.heap.size + 1)) := gRf _ _
 go_wp2_with fail
 refine (refused_led 5 (by decide) _).mono ?_
 rintro e w5 hp
 obtain ⟨a5, l5, c5, f5, er5, rfl, hS5, q0, q1, q2, HB5, HL5⟩ := led_fin hp HG3.out (gRf _ _) HR3.out
 clear hp
 go_wp2_with fail
 exact end_led (fun w z0 z1 => by simp [results, Tryz.results39, go_sem, z0, z1]) rfl HB5.out HL5.out
theorem tells_81n1 {W : World} {n : Int} {ta ra da : Option Addr} {tl tc rl rc dl dc : Nat} {dk dn dp : Int} {ds : ByteArray} {s types : List Ty} {sv : Value} (hs : RowC W s sv) (hT : RowC W types (.slice ta tl tc)) (hc : standF s [0] = true) (ht0 : packT (tyAt s 0) = false) (hz0 : (tyAt s 0).size <= 50000000) (hgd : s.all goodTy = true) (hn : s.length <= 1000) :
 Calls Tryz.prog 39 #[insV 81 n ta tl tc ra rl rc dk dn dp ds da dl dc, sv] W (LedPost (.no 5) W) := by
 obtain ⟨sa, sl, sc, e1⟩ := hs.form3
 subst e1
 unfold insV
 obtain ⟨hg3, hI3, hR3, hK3⟩ := start3 W (.cells #[.int .i64 81, .int .i64 n, .slice ta tl tc, .slice ra rl rc, .int .i64 dk, .int .i64 dn, .int .i64 dp, .string ds, .slice da dl dc] 59) (.cells #[.slice none 0 0, .bool false] 27) (.cells #[.int .i64 0] 3)
 have hs3 := hs.grow hg3
 have HST := jh (stand_any (ks := [0]) (kc := 1) hs3 (kinds1 hK3) (by decide))
 rw [hc] at HST
 have hT3 := hT.grow hg3
 have hlen : 1 <= s.length := stand_len hc
 obtain ⟨hsl, hsc, _⟩ := hs3.len
 obtain ⟨b, o, t0, a0, l0, k0, rfl, x0a, x0b, hA0⟩ := hs3.at 0 (by omega)
 have HA0 := jh hA0
 have bz1 : (1 : Int) <= (sl : Int) := by omega
 have by0 : 0 < sl := by omega
 have b1 : (sl : Int) <= (sc : Int) := by omega
 have HSL := jh hsl
 have HG3 := jh hg3
 have HI3 := jh hI3
 have HR3 := jh hR3
 have HS3 := jh hs3
 have HLEN := jh hlen
 simp only [Nat.reduceMul, Nat.reduceAdd, Nat.add_zero, Nat.mul_zero, Nat.zero_add] at x0a x0b
 clear hg3 hI3 hR3 hs hs3 hT hT3 hsl hlen hgd hc hK3 hA0
 go_enter Tryz.func39, Tryz.ntmps39
 go_wp2_with fail
 refine HST.out.mono ?_; rintro e w1 ⟨rfl, rfl⟩
 clear HST
 generalize ((W.alloc _).alloc _).alloc _ = W3 at *
 obtain ⟨i0, i1, i2, i3, _⟩ := box9 HI3.out
 go_wp2_with fail
 refine (packed_any HA0.out.low hz0).mono ?_; rintro e wt0 ⟨rfl, hg⟩
 rw [ht0]
 replace x0a := kNq hg x0a
 replace x0b := kNq hg x0b
 replace i0 := kNq hg i0
 replace i2 := kNq hg i2
 replace HI3 := jh (kBq HI3.out hg)
 replace HR3 := jh (kBq HR3.out hg)
 replace HS3 := jh (HS3.out.grow hg)
 replace HG3 := jh (Lf.gbt HG3.out hg)
 replace HA0 := jh (HA0.out.same (sAl hg))
 clear hg
 have yx0a := fun (w' : World) (h : wt0.grownBy w' (some (W.heap.size + 1))) => kDq HR3.out h x0a x0a
 have yx0b := fun (w' : World) (h : wt0.grownBy w' (some (W.heap.size + 1))) => kDq HR3.out h x0a x0b
 have hS3 : wt0.grownBy wt0 (some (W.heap.size + 1)) := gRf _ _
 go_wp2_with fail
 refine (refused_led 5 (by decide) _).mono ?_
 rintro e w5 hp
 obtain ⟨a5, l5, c5, f5, er5, rfl, hS5, q0, q1, q2, HB5, HL5⟩ := led_fin hp HG3.out (gRf _ _) HR3.out
 clear hp
 go_wp2_with fail
 exact end_led (fun w z0 z1 => by simp [results, Tryz.results39, go_sem, z0, z1]) rfl HB5.out HL5.out
theorem tells_82 {W : World} {n : Int} {ta ra da : Option Addr} {tl tc rl rc dl dc : Nat} {dk dn dp : Int} {ds : ByteArray} {s types : List Ty} {sv : Value} (hs : RowC W s sv) (hT : RowC W types (.slice ta tl tc)) (hc : standF s [6] = true) (ht0 : packT (tyAt types 0) = true) (hz0 : (tyAt types 0).size <= 50000000) (htl : types.length = 1) (hgd : s.all goodTy = true) (hn : s.length <= 1000) :
 Calls Tryz.prog 39 #[insV 82 n ta tl tc ra rl rc dk dn dp ds da dl dc, sv] W (LedPost (putF (s.drop 1) [(.nd 9 [(tyAt types 0)])]) W) := by
 obtain ⟨sa, sl, sc, e1⟩ := hs.form3
 subst e1
 unfold insV
 obtain ⟨hg3, hI3, hR3, hK3⟩ := start3 W (.cells #[.int .i64 82, .int .i64 n, .slice ta tl tc, .slice ra rl rc, .int .i64 dk, .int .i64 dn, .int .i64 dp, .string ds, .slice da dl dc] 59) (.cells #[.slice none 0 0, .bool false] 27) (.cells #[.int .i64 6] 3)
 have hs3 := hs.grow hg3
 have HST := jh (stand_any (ks := [6]) (kc := 1) hs3 (kinds1 hK3) (by decide))
 rw [hc] at HST
 have hT3 := hT.grow hg3
 have hlen : 1 <= s.length := stand_len hc
 obtain ⟨hsl, hsc, _⟩ := hs3.len
 obtain ⟨b, o, t0, a0, l0, k0, rfl, x0a, x0b, hA0⟩ := hs3.at 0 (by omega)
 have HA0 := jh hA0
 obtain ⟨et, ect, _⟩ := hT3.len
 rw [htl] at et ect
 subst et
 have HTY := jh hT3
 obtain ⟨bt, ot, ty0, ay0, ly0, ky0, rfl, xy0a, xy0b, hAy0⟩ := hT3.at 0 (by omega)
 have HAy0 := jh hAy0
 have bz1 : (1 : Int) <= (sl : Int) := by omega
 have by0 : 0 < sl := by omega
 have b1 : (sl : Int) <= (sc : Int) := by omega
 have HSL := jh hsl
 have HG3 := jh hg3
 have HI3 := jh hI3
 have HR3 := jh hR3
 have HS3 := jh hs3
 have HLEN := jh hlen
 simp only [Nat.reduceMul, Nat.reduceAdd, Nat.add_zero, Nat.mul_zero, Nat.zero_add] at x0a x0b xy0a xy0b
 clear hg3 hI3 hR3 hs hs3 hT hT3 hsl hlen hgd hc hK3 htl hA0 hAy0
 go_enter Tryz.func39, Tryz.ntmps39
 go_wp2_with fail
 refine HST.out.mono ?_; rintro e w1 ⟨rfl, rfl⟩
 clear HST
 generalize ((W.alloc _).alloc _).alloc _ = W3 at *
 obtain ⟨i0, i1, i2, i3, _⟩ := box9 HI3.out
 go_wp2_with fail
 refine (packed_any HAy0.out.low hz0).mono ?_; rintro e wt0 ⟨rfl, hg⟩
 rw [ht0]
 replace x0a := kNq hg x0a
 replace x0b := kNq hg x0b
 replace xy0a := kNq hg xy0a
 replace xy0b := kNq hg xy0b
 replace i0 := kNq hg i0
 replace i2 := kNq hg i2
 replace HI3 := jh (kBq HI3.out hg)
 replace HR3 := jh (kBq HR3.out hg)
 replace HS3 := jh (HS3.out.grow hg)
 replace HG3 := jh (Lf.gbt HG3.out hg)
 replace HA0 := jh (HA0.out.same (sAl hg))
 replace HAy0 := jh (HAy0.out.same (sAl hg))
 replace HTY := jh (HTY.out.grow hg)
 clear hg
 have yx0a := fun (w' : World) (h : wt0.grownBy w' (some (W.heap.size + 1))) => kDq HR3.out h x0a x0a
 have yx0b := fun (w' : World) (h : wt0.grownBy w' (some (W.heap.size + 1))) => kDq HR3.out h x0a x0b
 have yxy0a := fun (w' : World) (h : wt0.grownBy w' (some (W.heap.size + 1))) => kDq HR3.out h xy0a xy0a
 have yxy0b := fun (w' : World) (h : wt0.grownBy w' (some (W.heap.size + 1))) => kDq HR3.out h xy0a xy0b
 have yi2 := fun (w' : World) (h : wt0.grownBy w' (some (W.heap.size + 1))) => (box9 (keepI HI3.out h)).2.2.1
 have hS3 : wt0.grownBy wt0 (some (W.heap.size + 1)) := gRf _ _
 rcases (show (sc = 1 /\ sl = 1) \/ (¬ sc = 1 /\ ¬ sc - 1 = 0) by omega) with ⟨rfl, rfl⟩ | ⟨hc2, hc3⟩
 have HD := jh (HS3.out.dropAll 1 (by have := HSL.out; omega) (some ⟨b, o, none⟩) 0)
 rotate_left
 have HD := jh (HS3.out.drop 1 (by have := HLEN.out; omega))
 all_goals
  go_wp2_with fail
  go_region_held3 (fun w' => wt0.grownBy w' (some (W.heap.size + 1))) (first | with_reducible assumption | with_reducible exact gDr (gRf _ _) | with_reducible exact grow_setR (by assumption) | with_reducible exact grow_trans (by assumption) (gAq (Lf.gb _)) | with_reducible exact gDr (gAq (Lf.gb _))) (first
   | (go_at_call 56; refine (of_any 9 _ _ _ _).mono ?_; rintro e w10 ⟨rfl, hg⟩; have HU0 := jh (LiesT.ofC (t := 9) ⟨by decide, by decide⟩ (RowC.grow (RowC.one (heap_alloc_new wt0 _) (HAy0.out.same (sAl (Lf.gb _)))) (undrew hg))); have HG10 : Hid (wt0.grownBy w10 none) := Lf.gbt (Lf.gb _) (undrew hg); have hS : wt0.grownBy w10 (some (W.heap.size + 1)) := gAq HG10.out; clear hg)
   | (go_at_call 53; have hprev := HG10.out; clear hprev; refine (put_any (HD.out.grow (Lf.gbt HG10.out (Lf.gb _))) (RowC.one (heap_alloc_new w10 _) (HU0.out.same (sAl (Lf.gb _)))) (by simp; omega)).mono ?_; rintro e w5 hp; obtain ⟨a5, l5, c5, f5, er5, rfl, hS5, q0, q1, q2, HB5, HL5⟩ := led_fin hp HG3.out (Lf.gbt HG10.out (Lf.gb _)) HR3.out; clear hp))
  go_wp2_with fail
  exact end_led (fun w z0 z1 => by simp [results, Tryz.results39, go_sem, z0, z1]) rfl HB5.out HL5.out
theorem tells_82n {W : World} {n : Int} {ta ra da : Option Addr} {tl tc rl rc dl dc : Nat} {dk dn dp : Int} {ds : ByteArray} {s types : List Ty} {sv : Value} (hs : RowC W s sv) (hT : RowC W types (.slice ta tl tc)) (hc : standF s [6] = false) (hgd : s.all goodTy = true) (hn : s.length <= 1000) :
 Calls Tryz.prog 39 #[insV 82 n ta tl tc ra rl rc dk dn dp ds da dl dc, sv] W (LedPost (.no 5) W) := by
 obtain ⟨sa, sl, sc, e1⟩ := hs.form3
 subst e1
 unfold insV
 obtain ⟨hg3, hI3, hR3, hK3⟩ := start3 W (.cells #[.int .i64 82, .int .i64 n, .slice ta tl tc, .slice ra rl rc, .int .i64 dk, .int .i64 dn, .int .i64 dp, .string ds, .slice da dl dc] 59) (.cells #[.slice none 0 0, .bool false] 27) (.cells #[.int .i64 6] 3)
 have hs3 := hs.grow hg3
 have HST := jh (stand_any (ks := [6]) (kc := 1) hs3 (kinds1 hK3) (by decide))
 rw [hc] at HST
 have hT3 := hT.grow hg3
 have hlen : 0 <= s.length := Nat.zero_le _
 obtain ⟨hsl, hsc, _⟩ := hs3.len
 have b1 : (sl : Int) <= (sc : Int) := by omega
 have HSL := jh hsl
 have HG3 := jh hg3
 have HI3 := jh hI3
 have HR3 := jh hR3
 have HS3 := jh hs3
 have HLEN := jh hlen
 clear hg3 hI3 hR3 hs hs3 hT hT3 hsl hlen hgd hc hK3
 go_enter Tryz.func39, Tryz.ntmps39
 go_wp2_with fail
 refine HST.out.mono ?_; rintro e w1 ⟨rfl, rfl⟩
 clear HST
 generalize ((W.alloc _).alloc _).alloc _ = W3 at *
 obtain ⟨i0, i1, i2, i3, _⟩ := box9 HI3.out
 have hS3 : W3.grownBy W3 (some (W.heap.size + 1)) := gRf _ _
 go_wp2_with fail
 refine (refused_led 5 (by decide) _).mono ?_
 rintro e w5 hp
 obtain ⟨a5, l5, c5, f5, er5, rfl, hS5, q0, q1, q2, HB5, HL5⟩ := led_fin hp HG3.out (gRf _ _) HR3.out
 clear hp
 go_wp2_with fail
 exact end_led (fun w z0 z1 => by simp [results, Tryz.results39, go_sem, z0, z1]) rfl HB5.out HL5.out
theorem tells_82n1 {W : World} {n : Int} {ta ra da : Option Addr} {tl tc rl rc dl dc : Nat} {dk dn dp : Int} {ds : ByteArray} {s types : List Ty} {sv : Value} (hs : RowC W s sv) (hT : RowC W types (.slice ta tl tc)) (hc : standF s [6] = true) (ht0 : packT (tyAt types 0) = false) (hz0 : (tyAt types 0).size <= 50000000) (htl : types.length = 1) (hgd : s.all goodTy = true) (hn : s.length <= 1000) :
 Calls Tryz.prog 39 #[insV 82 n ta tl tc ra rl rc dk dn dp ds da dl dc, sv] W (LedPost (.no 5) W) := by
 obtain ⟨sa, sl, sc, e1⟩ := hs.form3
 subst e1
 unfold insV
 obtain ⟨hg3, hI3, hR3, hK3⟩ := start3 W (.cells #[.int .i64 82, .int .i64 n, .slice ta tl tc, .slice ra rl rc, .int .i64 dk, .int .i64 dn, .int .i64 dp, .string ds, .slice da dl dc] 59) (.cells #[.slice none 0 0, .bool false] 27) (.cells #[.int .i64 6] 3)
 have hs3 := hs.grow hg3
 have HST := jh (stand_any (ks := [6]) (kc := 1) hs3 (kinds1 hK3) (by decide))
 rw [hc] at HST
 have hT3 := hT.grow hg3
 have hlen : 1 <= s.length := stand_len hc
 obtain ⟨hsl, hsc, _⟩ := hs3.len
 obtain ⟨et, ect, _⟩ := hT3.len
 rw [htl] at et ect
 subst et
 have HTY := jh hT3
 obtain ⟨bt, ot, ty0, ay0, ly0, ky0, rfl, xy0a, xy0b, hAy0⟩ := hT3.at 0 (by omega)
 have HAy0 := jh hAy0
 have bz1 : (1 : Int) <= (sl : Int) := by omega
 have by0 : 0 < sl := by omega
 have b1 : (sl : Int) <= (sc : Int) := by omega
 have HSL := jh hsl
 have HG3 := jh hg3
 have HI3 := jh hI3
 have HR3 := jh hR3
 have HS3 := jh hs3
 have HLEN := jh hlen
 simp only [Nat.reduceMul, Nat.reduceAdd, Nat.add_zero, Nat.mul_zero, Nat.zero_add] at xy0a xy0b
 clear hg3 hI3 hR3 hs hs3 hT hT3 hsl hlen hgd hc hK3 htl hAy0
 go_enter Tryz.func39, Tryz.ntmps39
 go_wp2_with fail
 refine HST.out.mono ?_; rintro e w1 ⟨rfl, rfl⟩
 clear HST
 generalize ((W.alloc _).alloc _).alloc _ = W3 at *
 obtain ⟨i0, i1, i2, i3, _⟩ := box9 HI3.out
 go_wp2_with fail
 refine (packed_any HAy0.out.low hz0).mono ?_; rintro e wt0 ⟨rfl, hg⟩
 rw [ht0]
 replace xy0a := kNq hg xy0a
 replace xy0b := kNq hg xy0b
 replace i0 := kNq hg i0
 replace i2 := kNq hg i2
 replace HI3 := jh (kBq HI3.out hg)
 replace HR3 := jh (kBq HR3.out hg)
 replace HS3 := jh (HS3.out.grow hg)
 replace HG3 := jh (Lf.gbt HG3.out hg)
 replace HAy0 := jh (HAy0.out.same (sAl hg))
 replace HTY := jh (HTY.out.grow hg)
 clear hg
 have yxy0a := fun (w' : World) (h : wt0.grownBy w' (some (W.heap.size + 1))) => kDq HR3.out h xy0a xy0a
 have yxy0b := fun (w' : World) (h : wt0.grownBy w' (some (W.heap.size + 1))) => kDq HR3.out h xy0a xy0b
 have yi2 := fun (w' : World) (h : wt0.grownBy w' (some (W.heap.size + 1))) => (box9 (keepI HI3.out h)).2.2.1
 have hS3 : wt0.grownBy wt0 (some (W.heap.size + 1)) := gRf _ _
 go_wp2_with fail
 refine (refused_led 5 (by decide) _).mono ?_
 rintro e w5 hp
 obtain ⟨a5, l5, c5, f5, er5, rfl, hS5, q0, q1, q2, HB5, HL5⟩ := led_fin hp HG3.out (gRf _ _) HR3.out
 clear hp
 go_wp2_with fail
 exact end_led (fun w z0 z1 => by simp [results, Tryz.results39, go_sem, z0, z1]) rfl HB5.out HL5.out
theorem tells_83 {W : World} {n : Int} {ta ra da : Option Addr} {tl tc rl rc dl dc : Nat} {dk dn dp : Int} {ds : ByteArray} {s types : List Ty} {sv : Value} (hs : RowC W s sv) (hT : RowC W types (.slice ta tl tc)) (hc : standF s [0] = true) (ht0 : packT (tyAt s 0) = true) (hz0 : (tyAt s 0).size <= 50000000) (hgd : s.all goodTy = true) (hn : s.length <= 1000) :
 Calls Tryz.prog 39 #[insV 83 n ta tl tc ra rl rc dk dn dp ds da dl dc, sv] W (LedPost (.ok true []) W) := by
 obtain ⟨sa, sl, sc, e1⟩ := hs.form3
 subst e1
 unfold insV
 obtain ⟨hg3, hI3, hR3, hK3⟩ := start3 W (.cells #[.int .i64 83, .int .i64 n, .slice ta tl tc, .slice ra rl rc, .int .i64 dk, .int .i64 dn, .int .i64 dp, .string ds, .slice da dl dc] 59) (.cells #[.slice none 0 0, .bool false] 27) (.cells #[.int .i64 0] 3)
 have hs3 := hs.grow hg3
 have HST := jh (stand_any (ks := [0]) (kc := 1) hs3 (kinds1 hK3) (by decide))
 rw [hc] at HST
 have hT3 := hT.grow hg3
 have hlen : 1 <= s.length := stand_len hc
 obtain ⟨hsl, hsc, _⟩ := hs3.len
 obtain ⟨b, o, t0, a0, l0, k0, rfl, x0a, x0b, hA0⟩ := hs3.at 0 (by omega)
 have HA0 := jh hA0
 have bz1 : (1 : Int) <= (sl : Int) := by omega
 have by0 : 0 < sl := by omega
 have b1 : (sl : Int) <= (sc : Int) := by omega
 have HSL := jh hsl
 have HG3 := jh hg3
 have HI3 := jh hI3
 have HR3 := jh hR3
 have HS3 := jh hs3
 have HLEN := jh hlen
 simp only [Nat.reduceMul, Nat.reduceAdd, Nat.add_zero, Nat.mul_zero, Nat.zero_add] at x0a x0b
 clear hg3 hI3 hR3 hs hs3 hT hT3 hsl hlen hgd hc hK3 hA0
 go_enter Tryz.func39, Tryz.ntmps39
 go_wp2_with fail
 refine HST.out.mono ?_; rintro e w1 ⟨rfl, rfl⟩
 clear HST
 generalize ((W.alloc _).alloc _).alloc _ = W3 at *
 obtain ⟨i0, i1, i2, i3, _⟩ := box9 HI3.out
 go_wp2_with fail
 refine (packed_any HA0.out.low hz0).mono ?_; rintro e wt0 ⟨rfl, hg⟩
 rw [ht0]
 replace x0a := kNq hg x0a
 replace x0b := kNq hg x0b
 replace i0 := kNq hg i0
 replace i2 := kNq hg i2
 replace HI3 := jh (kBq HI3.out hg)
 replace HR3 := jh (kBq HR3.out hg)
 replace HS3 := jh (HS3.out.grow hg)
 replace HG3 := jh (Lf.gbt HG3.out hg)
 replace HA0 := jh (HA0.out.same (sAl hg))
 clear hg
 have yx0a := fun (w' : World) (h : wt0.grownBy w' (some (W.heap.size + 1))) => kDq HR3.out h x0a x0a
 have yx0b := fun (w' : World) (h : wt0.grownBy w' (some (W.heap.size + 1))) => kDq HR3.out h x0a x0b
 have hS3 : wt0.grownBy wt0 (some (W.heap.size + 1)) := gRf _ _
 have q0 := cell0_of HR3.out
 have q1 := cell1_of HR3.out
 have q2 := free2_of HR3.out
 have HL5 := jh (fails_led HG3.out HR3.out)
 go_wp2_with fail
 change bodyPost _ _ _ _ _ (set2 wt0 (W.heap.size + 1) (.slice none 0 0) (.bool true))
 have hb' := set2_block HR3.out (.slice none 0 0) (.bool true)
 have hl' := HL5.out
 generalize set2 wt0 (W.heap.size + 1) (.slice none 0 0) (.bool true) = wf at *
 have z0 := cell0_of hb'
 have z1 := cell1_of hb'
 exact bodyPost_ret (v := .tuple #[.agg #[.slice none 0 0, .bool true], .int .i64 0]) (by simp [results, Tryz.results39, go_sem, z0, z1]) rfl hl'
theorem tells_83n {W : World} {n : Int} {ta ra da : Option Addr} {tl tc rl rc dl dc : Nat} {dk dn dp : Int} {ds : ByteArray} {s types : List Ty} {sv : Value} (hs : RowC W s sv) (hT : RowC W types (.slice ta tl tc)) (hc : standF s [0] = false) (hgd : s.all goodTy = true) (hn : s.length <= 1000) :
 Calls Tryz.prog 39 #[insV 83 n ta tl tc ra rl rc dk dn dp ds da dl dc, sv] W (LedPost (.no 5) W) := by
 obtain ⟨sa, sl, sc, e1⟩ := hs.form3
 subst e1
 unfold insV
 obtain ⟨hg3, hI3, hR3, hK3⟩ := start3 W (.cells #[.int .i64 83, .int .i64 n, .slice ta tl tc, .slice ra rl rc, .int .i64 dk, .int .i64 dn, .int .i64 dp, .string ds, .slice da dl dc] 59) (.cells #[.slice none 0 0, .bool false] 27) (.cells #[.int .i64 0] 3)
 have hs3 := hs.grow hg3
 have HST := jh (stand_any (ks := [0]) (kc := 1) hs3 (kinds1 hK3) (by decide))
 rw [hc] at HST
 have hT3 := hT.grow hg3
 have hlen : 0 <= s.length := Nat.zero_le _
 obtain ⟨hsl, hsc, _⟩ := hs3.len
 have b1 : (sl : Int) <= (sc : Int) := by omega
 have HSL := jh hsl
 have HG3 := jh hg3
 have HI3 := jh hI3
 have HR3 := jh hR3
 have HS3 := jh hs3
 have HLEN := jh hlen
 clear hg3 hI3 hR3 hs hs3 hT hT3 hsl hlen hgd hc hK3
 go_enter Tryz.func39, Tryz.ntmps39
 go_wp2_with fail
 refine HST.out.mono ?_; rintro e w1 ⟨rfl, rfl⟩
 clear HST
 generalize ((W.alloc _).alloc _).alloc _ = W3 at *
 obtain ⟨i0, i1, i2, i3, _⟩ := box9 HI3.out
 have hS3 : W3.grownBy W3 (some (W.heap.size + 1)) := gRf _ _
 go_wp2_with fail
 refine (refused_led 5 (by decide) _).mono ?_
 rintro e w5 hp
 obtain ⟨a5, l5, c5, f5, er5, rfl, hS5, q0, q1, q2, HB5, HL5⟩ := led_fin hp HG3.out (gRf _ _) HR3.out
 clear hp
 go_wp2_with fail
 exact end_led (fun w z0 z1 => by simp [results, Tryz.results39, go_sem, z0, z1]) rfl HB5.out HL5.out
theorem tells_83n1 {W : World} {n : Int} {ta ra da : Option Addr} {tl tc rl rc dl dc : Nat} {dk dn dp : Int} {ds : ByteArray} {s types : List Ty} {sv : Value} (hs : RowC W s sv) (hT : RowC W types (.slice ta tl tc)) (hc : standF s [0] = true) (ht0 : packT (tyAt s 0) = false) (hz0 : (tyAt s 0).size <= 50000000) (hgd : s.all goodTy = true) (hn : s.length <= 1000) :
 Calls Tryz.prog 39 #[insV 83 n ta tl tc ra rl rc dk dn dp ds da dl dc, sv] W (LedPost (.no 5) W) := by
 obtain ⟨sa, sl, sc, e1⟩ := hs.form3
 subst e1
 unfold insV
 obtain ⟨hg3, hI3, hR3, hK3⟩ := start3 W (.cells #[.int .i64 83, .int .i64 n, .slice ta tl tc, .slice ra rl rc, .int .i64 dk, .int .i64 dn, .int .i64 dp, .string ds, .slice da dl dc] 59) (.cells #[.slice none 0 0, .bool false] 27) (.cells #[.int .i64 0] 3)
 have hs3 := hs.grow hg3
 have HST := jh (stand_any (ks := [0]) (kc := 1) hs3 (kinds1 hK3) (by decide))
 rw [hc] at HST
 have hT3 := hT.grow hg3
 have hlen : 1 <= s.length := stand_len hc
 obtain ⟨hsl, hsc, _⟩ := hs3.len
 obtain ⟨b, o, t0, a0, l0, k0, rfl, x0a, x0b, hA0⟩ := hs3.at 0 (by omega)
 have HA0 := jh hA0
 have bz1 : (1 : Int) <= (sl : Int) := by omega
 have by0 : 0 < sl := by omega
 have b1 : (sl : Int) <= (sc : Int) := by omega
 have HSL := jh hsl
 have HG3 := jh hg3
 have HI3 := jh hI3
 have HR3 := jh hR3
 have HS3 := jh hs3
 have HLEN := jh hlen
 simp only [Nat.reduceMul, Nat.reduceAdd, Nat.add_zero, Nat.mul_zero, Nat.zero_add] at x0a x0b
 clear hg3 hI3 hR3 hs hs3 hT hT3 hsl hlen hgd hc hK3 hA0
 go_enter Tryz.func39, Tryz.ntmps39
 go_wp2_with fail
 refine HST.out.mono ?_; rintro e w1 ⟨rfl, rfl⟩
 clear HST
 generalize ((W.alloc _).alloc _).alloc _ = W3 at *
 obtain ⟨i0, i1, i2, i3, _⟩ := box9 HI3.out
 go_wp2_with fail
 refine (packed_any HA0.out.low hz0).mono ?_; rintro e wt0 ⟨rfl, hg⟩
 rw [ht0]
 replace x0a := kNq hg x0a
 replace x0b := kNq hg x0b
 replace i0 := kNq hg i0
 replace i2 := kNq hg i2
 replace HI3 := jh (kBq HI3.out hg)
 replace HR3 := jh (kBq HR3.out hg)
 replace HS3 := jh (HS3.out.grow hg)
 replace HG3 := jh (Lf.gbt HG3.out hg)
 replace HA0 := jh (HA0.out.same (sAl hg))
 clear hg
 have yx0a := fun (w' : World) (h : wt0.grownBy w' (some (W.heap.size + 1))) => kDq HR3.out h x0a x0a
 have yx0b := fun (w' : World) (h : wt0.grownBy w' (some (W.heap.size + 1))) => kDq HR3.out h x0a x0b
 have hS3 : wt0.grownBy wt0 (some (W.heap.size + 1)) := gRf _ _
 go_wp2_with fail
 refine (refused_led 5 (by decide) _).mono ?_
 rintro e w5 hp
 obtain ⟨a5, l5, c5, f5, er5, rfl, hS5, q0, q1, q2, HB5, HL5⟩ := led_fin hp HG3.out (gRf _ _) HR3.out
 clear hp
 go_wp2_with fail
 exact end_led (fun w z0 z1 => by simp [results, Tryz.results39, go_sem, z0, z1]) rfl HB5.out HL5.out
end Go.Proofs.YtamohjlhndedhadGreatRRR
