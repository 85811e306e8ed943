import Derived.Test.YtamohjlhndedhadGreatRRRZd
import Derived.Test.YtamohjlhndedhadGreatRRRZa
namespace Go.Proofs.YtamohjlhndedhadGreatRRR
set_option maxRecDepth 100000
set_option maxHeartbeats 4000000
open Go.ChangeShapes Go.WideShapes Go.ChangeAt Go.RowKit
set_option linter.unusedVariables false
set_option linter.unusedSimpArgs false
theorem binds_46 {W : World} {n : Int} {ta ra da : Option Addr} {tl tc rl rc dl dc : Nat} {dk dn dp : Int} {ds : ByteArray} {s types : List Ty} {sv : Value} (hs : RowC W s sv) (hT : RowC W types (.slice ta tl tc)) (hc : standF s [0, 0] = true) (hgd : s.all goodTy = true) (hn : s.length <= 1000) :
 Calls Tryz.prog 33 #[insV 46 n ta tl tc ra rl rc dk dn dp ds da dl dc, sv] W (LedPost (putF (s.drop 2) [(.nd 11 [(tyAt s 0), (tyAt s 1)])]) W) := by
 obtain ⟨sa, sl, sc, e1⟩ := hs.form3
 subst e1
 unfold insV
 obtain ⟨hg3, hI3, hR3, hK3⟩ := start3 W (.cells #[.int .i64 46, .int .i64 n, .slice ta tl tc, .slice ra rl rc, .int .i64 dk, .int .i64 dn, .int .i64 dp, .string ds, .slice da dl dc] 59) (.cells #[.slice none 0 0, .bool false] 27) (.cells #[.int .i64 0, .int .i64 0] 3)
 have hs3 := hs.grow hg3
 have HST := jh (stand_any (ks := [0, 0]) (kc := 2) hs3 (kinds2 hK3) (by decide))
 rw [hc] at HST
 have hT3 := hT.grow hg3
 have hlen : 2 <= s.length := stand_len hc
 obtain ⟨hsl, hsc, _⟩ := hs3.len
 obtain ⟨b, o, t0, a0, l0, k0, rfl, x0a, x0b, hA0⟩ := hs3.at 0 (by omega)
 have HA0 := jh hA0
 obtain ⟨_, _, t1, a1, l1, k1, eb, x1a, x1b, hA1⟩ := hs3.at 1 (by omega)
 simp only [Option.some.injEq, Addr.mk.injEq, and_true] at eb
 obtain ⟨rfl, rfl⟩ := eb
 have HA1 := jh hA1
 have bz1 : (1 : Int) <= (sl : Int) := by omega
 have by0 : 0 < sl := by omega
 have bz2 : (2 : Int) <= (sl : Int) := by omega
 have by1 : (1 : Int) < (sl : Int) := by omega
 have b1 : (sl : Int) <= (sc : Int) := by omega
 have HSL := jh hsl
 have HG3 := jh hg3
 have HI3 := jh hI3
 have HR3 := jh hR3
 have HS3 := jh hs3
 have HLEN := jh hlen
 simp only [Nat.reduceMul, Nat.reduceAdd, Nat.add_zero, Nat.mul_zero, Nat.zero_add] at x0a x0b x1a x1b
 clear hg3 hI3 hR3 hs hs3 hT hT3 hsl hlen hgd hc hK3 hA0 hA1
 go_enter Tryz.func33, Tryz.ntmps33
 go_wp2_with fail
 refine HST.out.mono ?_; rintro e w1 ⟨rfl, rfl⟩
 clear HST
 generalize ((W.alloc _).alloc _).alloc _ = W3 at *
 obtain ⟨i0, i1, i2, i3, _⟩ := box9 HI3.out
 have yx0a := fun (w' : World) (h : W3.grownBy w' (some (W.heap.size + 1))) => kDq HR3.out h x0a x0a
 have yx0b := fun (w' : World) (h : W3.grownBy w' (some (W.heap.size + 1))) => kDq HR3.out h x0a x0b
 have yx1a := fun (w' : World) (h : W3.grownBy w' (some (W.heap.size + 1))) => kDq HR3.out h x1a x1a
 have yx1b := fun (w' : World) (h : W3.grownBy w' (some (W.heap.size + 1))) => kDq HR3.out h x1a x1b
 have hS3 : W3.grownBy W3 (some (W.heap.size + 1)) := gRf _ _
 rcases (show (sc = 2 /\ sl = 2) \/ (¬ sc = 2 /\ ¬ sc - 2 = 0) by omega) with ⟨rfl, rfl⟩ | ⟨hc2, hc3⟩
 have HD := jh (HS3.out.dropAll 2 (by have := HSL.out; omega) (some ⟨b, o, none⟩) 0)
 rotate_left
 have HD := jh (HS3.out.drop 2 (by have := HLEN.out; omega))
 all_goals
  go_wp2_with fail
  go_region_held3 (fun w' => W3.grownBy w' (some (W.heap.size + 1))) (first | with_reducible assumption | with_reducible exact gDr (gRf _ _) | with_reducible exact grow_setR (by assumption) | with_reducible exact grow_trans (by assumption) (gAq (Lf.gb _)) | with_reducible exact gDr (gAq (Lf.gb _))) (first
   | (go_at_call 56; refine (of_any 11 _ _ _ _).mono ?_; rintro e w10 ⟨rfl, hg⟩; have HU0 := jh (LiesT.ofC (t := 11) ⟨by decide, by decide⟩ (RowC.grow (RowC.two (heap_alloc_new W3 _) (HA0.out.same (sAl (Lf.gb _))) (HA1.out.same (sAl (Lf.gb _)))) (undrew hg))); have HG10 : Hid (W3.grownBy w10 none) := Lf.gbt (Lf.gb _) (undrew hg); have hS : W3.grownBy w10 (some (W.heap.size + 1)) := gAq HG10.out; clear hg)
   | (go_at_call 53; have hprev := HG10.out; clear hprev; refine (put_any (HD.out.grow (Lf.gbt HG10.out (Lf.gb _))) (RowC.one (heap_alloc_new w10 _) (HU0.out.same (sAl (Lf.gb _)))) (by simp; omega)).mono ?_; rintro e w5 hp; obtain ⟨a5, l5, c5, f5, er5, rfl, hS5, q0, q1, q2, HB5, HL5⟩ := led_fin hp HG3.out (Lf.gbt HG10.out (Lf.gb _)) HR3.out; clear hp))
  go_wp2_with fail
  exact end_led (fun w z0 z1 => by simp [results, Tryz.results33, go_sem, z0, z1]) rfl HB5.out HL5.out
theorem binds_46n {W : World} {n : Int} {ta ra da : Option Addr} {tl tc rl rc dl dc : Nat} {dk dn dp : Int} {ds : ByteArray} {s types : List Ty} {sv : Value} (hs : RowC W s sv) (hT : RowC W types (.slice ta tl tc)) (hc : standF s [0, 0] = false) (hgd : s.all goodTy = true) (hn : s.length <= 1000) :
 Calls Tryz.prog 33 #[insV 46 n ta tl tc ra rl rc dk dn dp ds da dl dc, sv] W (LedPost (.no 5) W) := by
 obtain ⟨sa, sl, sc, e1⟩ := hs.form3
 subst e1
 unfold insV
 obtain ⟨hg3, hI3, hR3, hK3⟩ := start3 W (.cells #[.int .i64 46, .int .i64 n, .slice ta tl tc, .slice ra rl rc, .int .i64 dk, .int .i64 dn, .int .i64 dp, .string ds, .slice da dl dc] 59) (.cells #[.slice none 0 0, .bool false] 27) (.cells #[.int .i64 0, .int .i64 0] 3)
 have hs3 := hs.grow hg3
 have HST := jh (stand_any (ks := [0, 0]) (kc := 2) hs3 (kinds2 hK3) (by decide))
 rw [hc] at HST
 have hT3 := hT.grow hg3
 have hlen : 0 <= s.length := Nat.zero_le _
 obtain ⟨hsl, hsc, _⟩ := hs3.len
 have b1 : (sl : Int) <= (sc : Int) := by omega
 have HSL := jh hsl
 have HG3 := jh hg3
 have HI3 := jh hI3
 have HR3 := jh hR3
 have HS3 := jh hs3
 have HLEN := jh hlen
 clear hg3 hI3 hR3 hs hs3 hT hT3 hsl hlen hgd hc hK3
 go_enter Tryz.func33, Tryz.ntmps33
 go_wp2_with fail
 refine HST.out.mono ?_; rintro e w1 ⟨rfl, rfl⟩
 clear HST
 generalize ((W.alloc _).alloc _).alloc _ = W3 at *
 obtain ⟨i0, i1, i2, i3, _⟩ := box9 HI3.out
 have hS3 : W3.grownBy W3 (some (W.heap.size + 1)) := gRf _ _
 go_wp2_with fail
 refine (refused_led 5 (by decide) _).mono ?_
 rintro e w5 hp
 obtain ⟨a5, l5, c5, f5, er5, rfl, hS5, q0, q1, q2, HB5, HL5⟩ := led_fin hp HG3.out (gRf _ _) HR3.out
 clear hp
 go_wp2_with fail
 exact end_led (fun w z0 z1 => by simp [results, Tryz.results33, go_sem, z0, z1]) rfl HB5.out HL5.out
theorem binds_47 {W : World} {n : Int} {ta ra da : Option Addr} {tl tc rl rc dl dc : Nat} {dk dn dp : Int} {ds : ByteArray} {s types : List Ty} {sv : Value} (hs : RowC W s sv) (hT : RowC W types (.slice ta tl tc)) (hc : standF s [11] = true) (hgd : s.all goodTy = true) (hn : s.length <= 1000) :
 Calls Tryz.prog 33 #[insV 47 n ta tl tc ra rl rc dk dn dp ds da dl dc, sv] W (LedPost (putF (s.drop 1) (tyAt s 0).args) W) := by
 obtain ⟨sa, sl, sc, e1⟩ := hs.form3
 subst e1
 unfold insV
 obtain ⟨hg3, hI3, hR3, hK3⟩ := start3 W (.cells #[.int .i64 47, .int .i64 n, .slice ta tl tc, .slice ra rl rc, .int .i64 dk, .int .i64 dn, .int .i64 dp, .string ds, .slice da dl dc] 59) (.cells #[.slice none 0 0, .bool false] 27) (.cells #[.int .i64 11] 3)
 have hs3 := hs.grow hg3
 have HST := jh (stand_any (ks := [11]) (kc := 1) hs3 (kinds1 hK3) (by decide))
 rw [hc] at HST
 have hT3 := hT.grow hg3
 have hlen : 1 <= s.length := stand_len hc
 obtain ⟨hsl, hsc, _⟩ := hs3.len
 obtain ⟨b, o, t0, a0, l0, k0, rfl, x0a, x0b, hA0⟩ := hs3.at 0 (by omega)
 have HA0 := jh hA0
 have hq0 : (tyAt s 0).args.length = 2 := cnt_at hc hgd 0 11 2 rfl (by decide) (by decide)
 obtain ⟨_, hr0⟩ := hA0.args
 obtain ⟨el0, ec0, _⟩ := hr0.len
 rw [hq0] at el0 ec0
 subst el0
 have HQ0 := jh hr0
 have HQL := jh hq0
 have bz1 : (1 : Int) <= (sl : Int) := by omega
 have by0 : 0 < sl := by omega
 have b1 : (sl : Int) <= (sc : Int) := by omega
 have HSL := jh hsl
 have HG3 := jh hg3
 have HI3 := jh hI3
 have HR3 := jh hR3
 have HS3 := jh hs3
 have HLEN := jh hlen
 simp only [Nat.reduceMul, Nat.reduceAdd, Nat.add_zero, Nat.mul_zero, Nat.zero_add] at x0a x0b
 clear hg3 hI3 hR3 hs hs3 hT hT3 hsl hlen hgd hc hK3 hA0 hr0 hq0
 go_enter Tryz.func33, Tryz.ntmps33
 go_wp2_with fail
 refine HST.out.mono ?_; rintro e w1 ⟨rfl, rfl⟩
 clear HST
 generalize ((W.alloc _).alloc _).alloc _ = W3 at *
 obtain ⟨i0, i1, i2, i3, _⟩ := box9 HI3.out
 have yx0a := fun (w' : World) (h : W3.grownBy w' (some (W.heap.size + 1))) => kDq HR3.out h x0a x0a
 have yx0b := fun (w' : World) (h : W3.grownBy w' (some (W.heap.size + 1))) => kDq HR3.out h x0a x0b
 have hS3 : W3.grownBy W3 (some (W.heap.size + 1)) := gRf _ _
 rcases (show (sc = 1 /\ sl = 1) \/ (¬ sc = 1 /\ ¬ sc - 1 = 0) by omega) with ⟨rfl, rfl⟩ | ⟨hc2, hc3⟩
 have HD := jh (HS3.out.dropAll 1 (by have := HSL.out; omega) (some ⟨b, o, none⟩) 0)
 rotate_left
 have HD := jh (HS3.out.drop 1 (by have := HLEN.out; omega))
 all_goals
  go_wp2_with fail
  go_region_held3 (fun w' => W3.grownBy w' (some (W.heap.size + 1))) (first | with_reducible assumption | with_reducible exact gDr (gRf _ _) | with_reducible exact grow_setR (by assumption) | with_reducible exact grow_trans (by assumption) (gAq (Lf.gb _)) | with_reducible exact gDr (gAq (Lf.gb _))) (first
   | (go_at_call 53; refine (put_any (HD.out.grow (gDr (gRf _ _))) (HQ0.out.grow (gDr (gRf _ _))) (by rw [List.length_drop]; have := HQL.out; omega)).mono ?_; rintro e w5 hp; obtain ⟨a5, l5, c5, f5, er5, rfl, hS5, q0, q1, q2, HB5, HL5⟩ := led_fin hp HG3.out (gDr (gRf _ _)) HR3.out; clear hp))
  go_wp2_with fail
  exact end_led (fun w z0 z1 => by simp [results, Tryz.results33, go_sem, z0, z1]) rfl HB5.out HL5.out
theorem binds_47n {W : World} {n : Int} {ta ra da : Option Addr} {tl tc rl rc dl dc : Nat} {dk dn dp : Int} {ds : ByteArray} {s types : List Ty} {sv : Value} (hs : RowC W s sv) (hT : RowC W types (.slice ta tl tc)) (hc : standF s [11] = false) (hgd : s.all goodTy = true) (hn : s.length <= 1000) :
 Calls Tryz.prog 33 #[insV 47 n ta tl tc ra rl rc dk dn dp ds da dl dc, sv] W (LedPost (.no 5) W) := by
 obtain ⟨sa, sl, sc, e1⟩ := hs.form3
 subst e1
 unfold insV
 obtain ⟨hg3, hI3, hR3, hK3⟩ := start3 W (.cells #[.int .i64 47, .int .i64 n, .slice ta tl tc, .slice ra rl rc, .int .i64 dk, .int .i64 dn, .int .i64 dp, .string ds, .slice da dl dc] 59) (.cells #[.slice none 0 0, .bool false] 27) (.cells #[.int .i64 11] 3)
 have hs3 := hs.grow hg3
 have HST := jh (stand_any (ks := [11]) (kc := 1) hs3 (kinds1 hK3) (by decide))
 rw [hc] at HST
 have hT3 := hT.grow hg3
 have hlen : 0 <= s.length := Nat.zero_le _
 obtain ⟨hsl, hsc, _⟩ := hs3.len
 have b1 : (sl : Int) <= (sc : Int) := by omega
 have HSL := jh hsl
 have HG3 := jh hg3
 have HI3 := jh hI3
 have HR3 := jh hR3
 have HS3 := jh hs3
 have HLEN := jh hlen
 clear hg3 hI3 hR3 hs hs3 hT hT3 hsl hlen hgd hc hK3
 go_enter Tryz.func33, Tryz.ntmps33
 go_wp2_with fail
 refine HST.out.mono ?_; rintro e w1 ⟨rfl, rfl⟩
 clear HST
 generalize ((W.alloc _).alloc _).alloc _ = W3 at *
 obtain ⟨i0, i1, i2, i3, _⟩ := box9 HI3.out
 have hS3 : W3.grownBy W3 (some (W.heap.size + 1)) := gRf _ _
 go_wp2_with fail
 refine (refused_led 5 (by decide) _).mono ?_
 rintro e w5 hp
 obtain ⟨a5, l5, c5, f5, er5, rfl, hS5, q0, q1, q2, HB5, HL5⟩ := led_fin hp HG3.out (gRf _ _) HR3.out
 clear hp
 go_wp2_with fail
 exact end_led (fun w z0 z1 => by simp [results, Tryz.results33, go_sem, z0, z1]) rfl HB5.out HL5.out
theorem binds_48 {W : World} {n : Int} {ta ra da : Option Addr} {tl tc rl rc dl dc : Nat} {dk dn dp : Int} {ds : ByteArray} {s types : List Ty} {sv : Value} (hs : RowC W s sv) (hT : RowC W types (.slice ta tl tc)) (hc : standF s [11] = true) (hgd : s.all goodTy = true) (hn : s.length <= 1000) :
 Calls Tryz.prog 33 #[insV 48 n ta tl tc ra rl rc dk dn dp ds da dl dc, sv] W (LedPost (putF (s.drop 1) [(tyAt (tyAt s 0).args 0)]) W) := by
 obtain ⟨sa, sl, sc, e1⟩ := hs.form3
 subst e1
 unfold insV
 obtain ⟨hg3, hI3, hR3, hK3⟩ := start3 W (.cells #[.int .i64 48, .int .i64 n, .slice ta tl tc, .slice ra rl rc, .int .i64 dk, .int .i64 dn, .int .i64 dp, .string ds, .slice da dl dc] 59) (.cells #[.slice none 0 0, .bool false] 27) (.cells #[.int .i64 11] 3)
 have hs3 := hs.grow hg3
 have HST := jh (stand_any (ks := [11]) (kc := 1) hs3 (kinds1 hK3) (by decide))
 rw [hc] at HST
 have hT3 := hT.grow hg3
 have hlen : 1 <= s.length := stand_len hc
 obtain ⟨hsl, hsc, _⟩ := hs3.len
 obtain ⟨b, o, t0, a0, l0, k0, rfl, x0a, x0b, hA0⟩ := hs3.at 0 (by omega)
 have HA0 := jh hA0
 have hq0 : (tyAt s 0).args.length = 2 := cnt_at hc hgd 0 11 2 rfl (by decide) (by decide)
 obtain ⟨_, hr0⟩ := hA0.args
 obtain ⟨el0, ec0, _⟩ := hr0.len
 rw [hq0] at el0 ec0
 subst el0
 have HQ0 := jh hr0
 have HQL := jh hq0
 obtain ⟨nb0, no0, t00, a00, l00, k00, rfl, x00a, x00b, hA00⟩ := hr0.at 0 (by omega)
 have HA00 := jh hA00
 have bz1 : (1 : Int) <= (sl : Int) := by omega
 have by0 : 0 < sl := by omega
 have b1 : (sl : Int) <= (sc : Int) := by omega
 have HSL := jh hsl
 have HG3 := jh hg3
 have HI3 := jh hI3
 have HR3 := jh hR3
 have HS3 := jh hs3
 have HLEN := jh hlen
 simp only [Nat.reduceMul, Nat.reduceAdd, Nat.add_zero, Nat.mul_zero, Nat.zero_add] at x0a x0b x00a x00b
 clear hg3 hI3 hR3 hs hs3 hT hT3 hsl hlen hgd hc hK3 hA0 hr0 hq0 hA00
 go_enter Tryz.func33, Tryz.ntmps33
 go_wp2_with fail
 refine HST.out.mono ?_; rintro e w1 ⟨rfl, rfl⟩
 clear HST
 generalize ((W.alloc _).alloc _).alloc _ = W3 at *
 obtain ⟨i0, i1, i2, i3, _⟩ := box9 HI3.out
 have yx0a := fun (w' : World) (h : W3.grownBy w' (some (W.heap.size + 1))) => kDq HR3.out h x0a x0a
 have yx0b := fun (w' : World) (h : W3.grownBy w' (some (W.heap.size + 1))) => kDq HR3.out h x0a x0b
 have yx00a := fun (w' : World) (h : W3.grownBy w' (some (W.heap.size + 1))) => kDq HR3.out h x00a x00a
 have yx00b := fun (w' : World) (h : W3.grownBy w' (some (W.heap.size + 1))) => kDq HR3.out h x00a x00b
 have hS3 : W3.grownBy W3 (some (W.heap.size + 1)) := gRf _ _
 rcases (show (sc = 1 /\ sl = 1) \/ (¬ sc = 1 /\ ¬ sc - 1 = 0) by omega) with ⟨rfl, rfl⟩ | ⟨hc2, hc3⟩
 have HD := jh (HS3.out.dropAll 1 (by have := HSL.out; omega) (some ⟨b, o, none⟩) 0)
 rotate_left
 have HD := jh (HS3.out.drop 1 (by have := HLEN.out; omega))
 all_goals
  go_wp2_with fail
  go_region_held3 (fun w' => W3.grownBy w' (some (W.heap.size + 1))) (first | with_reducible assumption | with_reducible exact gDr (gRf _ _) | with_reducible exact grow_setR (by assumption) | with_reducible exact grow_trans (by assumption) (gAq (Lf.gb _)) | with_reducible exact gDr (gAq (Lf.gb _))) (first
   | (go_at_call 53; refine (put_any (HD.out.grow (gDr (Lf.gb _))) (RowC.dr (RowC.one (heap_alloc_new W3 _) (HA00.out.same (sAl (Lf.gb _))))) (by simp; omega)).mono ?_; rintro e w5 hp; obtain ⟨a5, l5, c5, f5, er5, rfl, hS5, q0, q1, q2, HB5, HL5⟩ := led_fin hp HG3.out (gDr (Lf.gb _)) HR3.out; clear hp))
  go_wp2_with fail
  exact end_led (fun w z0 z1 => by simp [results, Tryz.results33, go_sem, z0, z1]) rfl HB5.out HL5.out
theorem binds_48n {W : World} {n : Int} {ta ra da : Option Addr} {tl tc rl rc dl dc : Nat} {dk dn dp : Int} {ds : ByteArray} {s types : List Ty} {sv : Value} (hs : RowC W s sv) (hT : RowC W types (.slice ta tl tc)) (hc : standF s [11] = false) (hgd : s.all goodTy = true) (hn : s.length <= 1000) :
 Calls Tryz.prog 33 #[insV 48 n ta tl tc ra rl rc dk dn dp ds da dl dc, sv] W (LedPost (.no 5) W) := by
 obtain ⟨sa, sl, sc, e1⟩ := hs.form3
 subst e1
 unfold insV
 obtain ⟨hg3, hI3, hR3, hK3⟩ := start3 W (.cells #[.int .i64 48, .int .i64 n, .slice ta tl tc, .slice ra rl rc, .int .i64 dk, .int .i64 dn, .int .i64 dp, .string ds, .slice da dl dc] 59) (.cells #[.slice none 0 0, .bool false] 27) (.cells #[.int .i64 11] 3)
 have hs3 := hs.grow hg3
 have HST := jh (stand_any (ks := [11]) (kc := 1) hs3 (kinds1 hK3) (by decide))
 rw [hc] at HST
 have hT3 := hT.grow hg3
 have hlen : 0 <= s.length := Nat.zero_le _
 obtain ⟨hsl, hsc, _⟩ := hs3.len
 have b1 : (sl : Int) <= (sc : Int) := by omega
 have HSL := jh hsl
 have HG3 := jh hg3
 have HI3 := jh hI3
 have HR3 := jh hR3
 have HS3 := jh hs3
 have HLEN := jh hlen
 clear hg3 hI3 hR3 hs hs3 hT hT3 hsl hlen hgd hc hK3
 go_enter Tryz.func33, Tryz.ntmps33
 go_wp2_with fail
 refine HST.out.mono ?_; rintro e w1 ⟨rfl, rfl⟩
 clear HST
 generalize ((W.alloc _).alloc _).alloc _ = W3 at *
 obtain ⟨i0, i1, i2, i3, _⟩ := box9 HI3.out
 have hS3 : W3.grownBy W3 (some (W.heap.size + 1)) := gRf _ _
 go_wp2_with fail
 refine (refused_led 5 (by decide) _).mono ?_
 rintro e w5 hp
 obtain ⟨a5, l5, c5, f5, er5, rfl, hS5, q0, q1, q2, HB5, HL5⟩ := led_fin hp HG3.out (gRf _ _) HR3.out
 clear hp
 go_wp2_with fail
 exact end_led (fun w z0 z1 => by simp [results, Tryz.results33, go_sem, z0, z1]) rfl HB5.out HL5.out
theorem binds_49 {W : World} {n : Int} {ta ra da : Option Addr} {tl tc rl rc dl dc : Nat} {dk dn dp : Int} {ds : ByteArray} {s types : List Ty} {sv : Value} (hs : RowC W s sv) (hT : RowC W types (.slice ta tl tc)) (hc : standF s [11] = true) (hgd : s.all goodTy = true) (hn : s.length <= 1000) :
 Calls Tryz.prog 33 #[insV 49 n ta tl tc ra rl rc dk dn dp ds da dl dc, sv] W (LedPost (putF (s.drop 1) [(tyAt (tyAt s 0).args 1)]) W) := by
 obtain ⟨sa, sl, sc, e1⟩ := hs.form3
 subst e1
 unfold insV
 obtain ⟨hg3, hI3, hR3, hK3⟩ := start3 W (.cells #[.int .i64 49, .int .i64 n, .slice ta tl tc, .slice ra rl rc, .int .i64 dk, .int .i64 dn, .int .i64 dp, .string ds, .slice da dl dc] 59) (.cells #[.slice none 0 0, .bool false] 27) (.cells #[.int .i64 11] 3)
 have hs3 := hs.grow hg3
 have HST := jh (stand_any (ks := [11]) (kc := 1) hs3 (kinds1 hK3) (by decide))
 rw [hc] at HST
 have hT3 := hT.grow hg3
 have hlen : 1 <= s.length := stand_len hc
 obtain ⟨hsl, hsc, _⟩ := hs3.len
 obtain ⟨b, o, t0, a0, l0, k0, rfl, x0a, x0b, hA0⟩ := hs3.at 0 (by omega)
 have HA0 := jh hA0
 have hq0 : (tyAt s 0).args.length = 2 := cnt_at hc hgd 0 11 2 rfl (by decide) (by decide)
 obtain ⟨_, hr0⟩ := hA0.args
 obtain ⟨el0, ec0, _⟩ := hr0.len
 rw [hq0] at el0 ec0
 subst el0
 have HQ0 := jh hr0
 have HQL := jh hq0
 obtain ⟨nb0, no0, t01, a01, l01, k01, rfl, x01a, x01b, hA01⟩ := hr0.at 1 (by omega)
 have HA01 := jh hA01
 have bz1 : (1 : Int) <= (sl : Int) := by omega
 have by0 : 0 < sl := by omega
 have b1 : (sl : Int) <= (sc : Int) := by omega
 have HSL := jh hsl
 have HG3 := jh hg3
 have HI3 := jh hI3
 have HR3 := jh hR3
 have HS3 := jh hs3
 have HLEN := jh hlen
 simp only [Nat.reduceMul, Nat.reduceAdd, Nat.add_zero, Nat.mul_zero, Nat.zero_add] at x0a x0b x01a x01b
 clear hg3 hI3 hR3 hs hs3 hT hT3 hsl hlen hgd hc hK3 hA0 hr0 hq0 hA01
 go_enter Tryz.func33, Tryz.ntmps33
 go_wp2_with fail
 refine HST.out.mono ?_; rintro e w1 ⟨rfl, rfl⟩
 clear HST
 generalize ((W.alloc _).alloc _).alloc _ = W3 at *
 obtain ⟨i0, i1, i2, i3, _⟩ := box9 HI3.out
 have yx0a := fun (w' : World) (h : W3.grownBy w' (some (W.heap.size + 1))) => kDq HR3.out h x0a x0a
 have yx0b := fun (w' : World) (h : W3.grownBy w' (some (W.heap.size + 1))) => kDq HR3.out h x0a x0b
 have yx01a := fun (w' : World) (h : W3.grownBy w' (some (W.heap.size + 1))) => kDq HR3.out h x01a x01a
 have yx01b := fun (w' : World) (h : W3.grownBy w' (some (W.heap.size + 1))) => kDq HR3.out h x01a x01b
 have hS3 : W3.grownBy W3 (some (W.heap.size + 1)) := gRf _ _
 rcases (show (sc = 1 /\ sl = 1) \/ (¬ sc = 1 /\ ¬ sc - 1 = 0) by omega) with ⟨rfl, rfl⟩ | ⟨hc2, hc3⟩
 have HD := jh (HS3.out.dropAll 1 (by have := HSL.out; omega) (some ⟨b, o, none⟩) 0)
 rotate_left
 have HD := jh (HS3.out.drop 1 (by have := HLEN.out; omega))
 all_goals
  go_wp2_with fail
  go_region_held3 (fun w' => W3.grownBy w' (some (W.heap.size + 1))) (first | with_reducible assumption | with_reducible exact gDr (gRf _ _) | with_reducible exact grow_setR (by assumption) | with_reducible exact grow_trans (by assumption) (gAq (Lf.gb _)) | with_reducible exact gDr (gAq (Lf.gb _))) (first
   | (go_at_call 53; refine (put_any (HD.out.grow (gDr (Lf.gb _))) (RowC.dr (RowC.one (heap_alloc_new W3 _) (HA01.out.same (sAl (Lf.gb _))))) (by simp; omega)).mono ?_; rintro e w5 hp; obtain ⟨a5, l5, c5, f5, er5, rfl, hS5, q0, q1, q2, HB5, HL5⟩ := led_fin hp HG3.out (gDr (Lf.gb _)) HR3.out; clear hp))
  go_wp2_with fail
  exact end_led (fun w z0 z1 => by simp [results, Tryz.results33, go_sem, z0, z1]) rfl HB5.out HL5.out
theorem binds_49n {W : World} {n : Int} {ta ra da : Option Addr} {tl tc rl rc dl dc : Nat} {dk dn dp : Int} {ds : ByteArray} {s types : List Ty} {sv : Value} (hs : RowC W s sv) (hT : RowC W types (.slice ta tl tc)) (hc : standF s [11] = false) (hgd : s.all goodTy = true) (hn : s.length <= 1000) :
 Calls Tryz.prog 33 #[insV 49 n ta tl tc ra rl rc dk dn dp ds da dl dc, sv] W (LedPost (.no 5) W) := by
 obtain ⟨sa, sl, sc, e1⟩ := hs.form3
 subst e1
 unfold insV
 obtain ⟨hg3, hI3, hR3, hK3⟩ := start3 W (.cells #[.int .i64 49, .int .i64 n, .slice ta tl tc, .slice ra rl rc, .int .i64 dk, .int .i64 dn, .int .i64 dp, .string ds, .slice da dl dc] 59) (.cells #[.slice none 0 0, .bool false] 27) (.cells #[.int .i64 11] 3)
 have hs3 := hs.grow hg3
 have HST := jh (stand_any (ks := [11]) (kc := 1) hs3 (kinds1 hK3) (by decide))
 rw [hc] at HST
 have hT3 := hT.grow hg3
 have hlen : 0 <= s.length := Nat.zero_le _
 obtain ⟨hsl, hsc, _⟩ := hs3.len
 have b1 : (sl : Int) <= (sc : Int) := by omega
 have HSL := jh hsl
 have HG3 := jh hg3
 have HI3 := jh hI3
 have HR3 := jh hR3
 have HS3 := jh hs3
 have HLEN := jh hlen
 clear hg3 hI3 hR3 hs hs3 hT hT3 hsl hlen hgd hc hK3
 go_enter Tryz.func33, Tryz.ntmps33
 go_wp2_with fail
 refine HST.out.mono ?_; rintro e w1 ⟨rfl, rfl⟩
 clear HST
 generalize ((W.alloc _).alloc _).alloc _ = W3 at *
 obtain ⟨i0, i1, i2, i3, _⟩ := box9 HI3.out
 have hS3 : W3.grownBy W3 (some (W.heap.size + 1)) := gRf _ _
 go_wp2_with fail
 refine (refused_led 5 (by decide) _).mono ?_
 rintro e w5 hp
 obtain ⟨a5, l5, c5, f5, er5, rfl, hS5, q0, q1, q2, HB5, HL5⟩ := led_fin hp HG3.out (gRf _ _) HR3.out
 clear hp
 go_wp2_with fail
 exact end_led (fun w z0 z1 => by simp [results, Tryz.results33, go_sem, z0, z1]) rfl HB5.out HL5.out
theorem binds_50 {W : World} {n : Int} {ta ra da : Option Addr} {tl tc rl rc dl dc : Nat} {dk dn dp : Int} {ds : ByteArray} {s types : List Ty} {sv : Value} (hs : RowC W s sv) (hT : RowC W types (.slice ta tl tc)) (hc : standF s [0] = true) (htl : types.length = 1) (hgd : s.all goodTy = true) (hn : s.length <= 1000) :
 Calls Tryz.prog 33 #[insV 50 n ta tl tc ra rl rc dk dn dp ds da dl dc, sv] W (LedPost (putF (s.drop 1) [(.nd 12 [(tyAt s 0), (tyAt types 0)])]) W) := by
 obtain ⟨sa, sl, sc, e1⟩ := hs.form3
 subst e1
 unfold insV
 obtain ⟨hg3, hI3, hR3, hK3⟩ := start3 W (.cells #[.int .i64 50, .int .i64 n, .slice ta tl tc, .slice ra rl rc, .int .i64 dk, .int .i64 dn, .int .i64 dp, .string ds, .slice da dl dc] 59) (.cells #[.slice none 0 0, .bool false] 27) (.cells #[.int .i64 0] 3)
 have hs3 := hs.grow hg3
 have HST := jh (stand_any (ks := [0]) (kc := 1) hs3 (kinds1 hK3) (by decide))
 rw [hc] at HST
 have hT3 := hT.grow hg3
 have hlen : 1 <= s.length := stand_len hc
 obtain ⟨hsl, hsc, _⟩ := hs3.len
 obtain ⟨b, o, t0, a0, l0, k0, rfl, x0a, x0b, hA0⟩ := hs3.at 0 (by omega)
 have HA0 := jh hA0
 obtain ⟨et, ect, _⟩ := hT3.len
 rw [htl] at et ect
 subst et
 have HTY := jh hT3
 obtain ⟨bt, ot, ty0, ay0, ly0, ky0, rfl, xy0a, xy0b, hAy0⟩ := hT3.at 0 (by omega)
 have HAy0 := jh hAy0
 have bz1 : (1 : Int) <= (sl : Int) := by omega
 have by0 : 0 < sl := by omega
 have b1 : (sl : Int) <= (sc : Int) := by omega
 have HSL := jh hsl
 have HG3 := jh hg3
 have HI3 := jh hI3
 have HR3 := jh hR3
 have HS3 := jh hs3
 have HLEN := jh hlen
 simp only [Nat.reduceMul, Nat.reduceAdd, Nat.add_zero, Nat.mul_zero, Nat.zero_add] at x0a x0b xy0a xy0b
 clear hg3 hI3 hR3 hs hs3 hT hT3 hsl hlen hgd hc hK3 htl hA0 hAy0
 go_enter Tryz.func33, Tryz.ntmps33
 go_wp2_with fail
 refine HST.out.mono ?_; rintro e w1 ⟨rfl, rfl⟩
 clear HST
 generalize ((W.alloc _).alloc _).alloc _ = W3 at *
 obtain ⟨i0, i1, i2, i3, _⟩ := box9 HI3.out
 have yx0a := fun (w' : World) (h : W3.grownBy w' (some (W.heap.size + 1))) => kDq HR3.out h x0a x0a
 have yx0b := fun (w' : World) (h : W3.grownBy w' (some (W.heap.size + 1))) => kDq HR3.out h x0a x0b
 have yxy0a := fun (w' : World) (h : W3.grownBy w' (some (W.heap.size + 1))) => kDq HR3.out h xy0a xy0a
 have yxy0b := fun (w' : World) (h : W3.grownBy w' (some (W.heap.size + 1))) => kDq HR3.out h xy0a xy0b
 have yi2 := fun (w' : World) (h : W3.grownBy w' (some (W.heap.size + 1))) => (box9 (keepI HI3.out h)).2.2.1
 have hS3 : W3.grownBy W3 (some (W.heap.size + 1)) := gRf _ _
 rcases (show (sc = 1 /\ sl = 1) \/ (¬ sc = 1 /\ ¬ sc - 1 = 0) by omega) with ⟨rfl, rfl⟩ | ⟨hc2, hc3⟩
 have HD := jh (HS3.out.dropAll 1 (by have := HSL.out; omega) (some ⟨b, o, none⟩) 0)
 rotate_left
 have HD := jh (HS3.out.drop 1 (by have := HLEN.out; omega))
 all_goals
  go_wp2_with fail
  go_region_held3 (fun w' => W3.grownBy w' (some (W.heap.size + 1))) (first | with_reducible assumption | with_reducible exact gDr (gRf _ _) | with_reducible exact grow_setR (by assumption) | with_reducible exact grow_trans (by assumption) (gAq (Lf.gb _)) | with_reducible exact gDr (gAq (Lf.gb _))) (first
   | (go_at_call 56; refine (of_any 12 _ _ _ _).mono ?_; rintro e w10 ⟨rfl, hg⟩; have HU0 := jh (LiesT.ofC (t := 12) ⟨by decide, by decide⟩ (RowC.grow (RowC.two (heap_alloc_new W3 _) (HA0.out.same (sAl (Lf.gb _))) (HAy0.out.same (sAl (Lf.gb _)))) (undrew hg))); have HG10 : Hid (W3.grownBy w10 none) := Lf.gbt (Lf.gb _) (undrew hg); have hS : W3.grownBy w10 (some (W.heap.size + 1)) := gAq HG10.out; clear hg)
   | (go_at_call 53; have hprev := HG10.out; clear hprev; refine (put_any (HD.out.grow (Lf.gbt HG10.out (Lf.gb _))) (RowC.one (heap_alloc_new w10 _) (HU0.out.same (sAl (Lf.gb _)))) (by simp; omega)).mono ?_; rintro e w5 hp; obtain ⟨a5, l5, c5, f5, er5, rfl, hS5, q0, q1, q2, HB5, HL5⟩ := led_fin hp HG3.out (Lf.gbt HG10.out (Lf.gb _)) HR3.out; clear hp))
  go_wp2_with fail
  exact end_led (fun w z0 z1 => by simp [results, Tryz.results33, go_sem, z0, z1]) rfl HB5.out HL5.out
theorem binds_50n {W : World} {n : Int} {ta ra da : Option Addr} {tl tc rl rc dl dc : Nat} {dk dn dp : Int} {ds : ByteArray} {s types : List Ty} {sv : Value} (hs : RowC W s sv) (hT : RowC W types (.slice ta tl tc)) (hc : standF s [0] = false) (hgd : s.all goodTy = true) (hn : s.length <= 1000) :
 Calls Tryz.prog 33 #[insV 50 n ta tl tc ra rl rc dk dn dp ds da dl dc, sv] W (LedPost (.no 5) W) := by
 obtain ⟨sa, sl, sc, e1⟩ := hs.form3
 subst e1
 unfold insV
 obtain ⟨hg3, hI3, hR3, hK3⟩ := start3 W (.cells #[.int .i64 50, .int .i64 n, .slice ta tl tc, .slice ra rl rc, .int .i64 dk, .int .i64 dn, .int .i64 dp, .string ds, .slice da dl dc] 59) (.cells #[.slice none 0 0, .bool false] 27) (.cells #[.int .i64 0] 3)
 have hs3 := hs.grow hg3
 have HST := jh (stand_any (ks := [0]) (kc := 1) hs3 (kinds1 hK3) (by decide))
 rw [hc] at HST
 have hT3 := hT.grow hg3
 have hlen : 0 <= s.length := Nat.zero_le _
 obtain ⟨hsl, hsc, _⟩ := hs3.len
 have b1 : (sl : Int) <= (sc : Int) := by omega
 have HSL := jh hsl
 have HG3 := jh hg3
 have HI3 := jh hI3
 have HR3 := jh hR3
 have HS3 := jh hs3
 have HLEN := jh hlen
 clear hg3 hI3 hR3 hs hs3 hT hT3 hsl hlen hgd hc hK3
 go_enter Tryz.func33, Tryz.ntmps33
 go_wp2_with fail
 refine HST.out.mono ?_; rintro e w1 ⟨rfl, rfl⟩
 clear HST
 generalize ((W.alloc _).alloc _).alloc _ = W3 at *
 obtain ⟨i0, i1, i2, i3, _⟩ := box9 HI3.out
 have hS3 : W3.grownBy W3 (some (W.heap.size + 1)) := gRf _ _
 go_wp2_with fail
 refine (refused_led 5 (by decide) _).mono ?_
 rintro e w5 hp
 obtain ⟨a5, l5, c5, f5, er5, rfl, hS5, q0, q1, q2, HB5, HL5⟩ := led_fin hp HG3.out (gRf _ _) HR3.out
 clear hp
 go_wp2_with fail
 exact end_led (fun w z0 z1 => by simp [results, Tryz.results33, go_sem, z0, z1]) rfl HB5.out HL5.out
theorem binds_51 {W : World} {n : Int} {ta ra da : Option Addr} {tl tc rl rc dl dc : Nat} {dk dn dp : Int} {ds : ByteArray} {s types : List Ty} {sv : Value} (hs : RowC W s sv) (hT : RowC W types (.slice ta tl tc)) (hc : standF s [0] = true) (htl : types.length = 1) (hgd : s.all goodTy = true) (hn : s.length <= 1000) :
 Calls Tryz.prog 33 #[insV 51 n ta tl tc ra rl rc dk dn dp ds da dl dc, sv] W (LedPost (putF (s.drop 1) [(.nd 12 [(tyAt types 0), (tyAt s 0)])]) W) := by
 obtain ⟨sa, sl, sc, e1⟩ := hs.form3
 subst e1
 unfold insV
 obtain ⟨hg3, hI3, hR3, hK3⟩ := start3 W (.cells #[.int .i64 51, .int .i64 n, .slice ta tl tc, .slice ra rl rc, .int .i64 dk, .int .i64 dn, .int .i64 dp, .string ds, .slice da dl dc] 59) (.cells #[.slice none 0 0, .bool false] 27) (.cells #[.int .i64 0] 3)
 have hs3 := hs.grow hg3
 have HST := jh (stand_any (ks := [0]) (kc := 1) hs3 (kinds1 hK3) (by decide))
 rw [hc] at HST
 have hT3 := hT.grow hg3
 have hlen : 1 <= s.length := stand_len hc
 obtain ⟨hsl, hsc, _⟩ := hs3.len
 obtain ⟨b, o, t0, a0, l0, k0, rfl, x0a, x0b, hA0⟩ := hs3.at 0 (by omega)
 have HA0 := jh hA0
 obtain ⟨et, ect, _⟩ := hT3.len
 rw [htl] at et ect
 subst et
 have HTY := jh hT3
 obtain ⟨bt, ot, ty0, ay0, ly0, ky0, rfl, xy0a, xy0b, hAy0⟩ := hT3.at 0 (by omega)
 have HAy0 := jh hAy0
 have bz1 : (1 : Int) <= (sl : Int) := by omega
 have by0 : 0 < sl := by omega
 have b1 : (sl : Int) <= (sc : Int) := by omega
 have HSL := jh hsl
 have HG3 := jh hg3
 have HI3 := jh hI3
 have HR3 := jh hR3
 have HS3 := jh hs3
 have HLEN := jh hlen
 simp only [Nat.reduceMul, Nat.reduceAdd, Nat.add_zero, Nat.mul_zero, Nat.zero_add] at x0a x0b xy0a xy0b
 clear hg3 hI3 hR3 hs hs3 hT hT3 hsl hlen hgd hc hK3 htl hA0 hAy0
 go_enter Tryz.func33, Tryz.ntmps33
 go_wp2_with fail
 refine HST.out.mono ?_; rintro e w1 ⟨rfl, rfl⟩
 clear HST
 generalize ((W.alloc _).alloc _).alloc _ = W3 at *
 obtain ⟨i0, i1, i2, i3, _⟩ := box9 HI3.out
 have yx0a := fun (w' : World) (h : W3.grownBy w' (some (W.heap.size + 1))) => kDq HR3.out h x0a x0a
 have yx0b := fun (w' : World) (h : W3.grownBy w' (some (W.heap.size + 1))) => kDq HR3.out h x0a x0b
 have yxy0a := fun (w' : World) (h : W3.grownBy w' (some (W.heap.size + 1))) => kDq HR3.out h xy0a xy0a
 have yxy0b := fun (w' : World) (h : W3.grownBy w' (some (W.heap.size + 1))) => kDq HR3.out h xy0a xy0b
 have yi2 := fun (w' : World) (h : W3.grownBy w' (some (W.heap.size + 1))) => (box9 (keepI HI3.out h)).2.2.1
 have hS3 : W3.grownBy W3 (some (W.heap.size + 1)) := gRf _ _
 rcases (show (sc = 1 /\ sl = 1) \/ (¬ sc = 1 /\ ¬ sc - 1 = 0) by omega) with ⟨rfl, rfl⟩ | ⟨hc2, hc3⟩
 have HD := jh (HS3.out.dropAll 1 (by have := HSL.out; omega) (some ⟨b, o, none⟩) 0)
 rotate_left
 have HD := jh (HS3.out.drop 1 (by have := HLEN.out; omega))
 all_goals
  go_wp2_with fail
  go_region_held3 (fun w' => W3.grownBy w' (some (W.heap.size + 1))) (first | with_reducible assumption | with_reducible exact gDr (gRf _ _) | with_reducible exact grow_setR (by assumption) | with_reducible exact grow_trans (by assumption) (gAq (Lf.gb _)) | with_reducible exact gDr (gAq (Lf.gb _))) (first
   | (go_at_call 56; refine (of_any 12 _ _ _ _).mono ?_; rintro e w10 ⟨rfl, hg⟩; have HU0 := jh (LiesT.ofC (t := 12) ⟨by decide, by decide⟩ (RowC.grow (RowC.two (heap_alloc_new W3 _) (HAy0.out.same (sAl (Lf.gb _))) (HA0.out.same (sAl (Lf.gb _)))) (undrew hg))); have HG10 : Hid (W3.grownBy w10 none) := Lf.gbt (Lf.gb _) (undrew hg); have hS : W3.grownBy w10 (some (W.heap.size + 1)) := gAq HG10.out; clear hg)
   | (go_at_call 53; have hprev := HG10.out; clear hprev; refine (put_any (HD.out.grow (Lf.gbt HG10.out (Lf.gb _))) (RowC.one (heap_alloc_new w10 _) (HU0.out.same (sAl (Lf.gb _)))) (by simp; omega)).mono ?_; rintro e w5 hp; obtain ⟨a5, l5, c5, f5, er5, rfl, hS5, q0, q1, q2, HB5, HL5⟩ := led_fin hp HG3.out (Lf.gbt HG10.out (Lf.gb _)) HR3.out; clear hp))
  go_wp2_with fail
  exact end_led (fun w z0 z1 => by simp [results, Tryz.results33, go_sem, z0, z1]) rfl HB5.out HL5.out
theorem binds_51n {W : World} {n : Int} {ta ra da : Option Addr} {tl tc rl rc dl dc : Nat} {dk dn dp : Int} {ds : ByteArray} {s types : List Ty} {sv : Value} (hs : RowC W s sv) (hT : RowC W types (.slice ta tl tc)) (hc : standF s [0] = false) (hgd : s.all goodTy = true) (hn : s.length <= 1000) :
 Calls Tryz.prog 33 #[insV 51 n ta tl tc ra rl rc dk dn dp ds da dl dc, sv] W (LedPost (.no 5) W) := by
 obtain ⟨sa, sl, sc, e1⟩ := hs.form3
 subst e1
 unfold insV
 obtain ⟨hg3, hI3, hR3, hK3⟩ := start3 W (.cells #[.int .i64 51, .int .i64 n, .slice ta tl tc, .slice ra rl rc, .int .i64 dk, .int .i64 dn, .int .i64 dp, .string ds, .slice da dl dc] 59) (.cells #[.slice none 0 0, .bool false] 27) (.cells #[.int .i64 0] 3)
 have hs3 := hs.grow hg3
 have HST := jh (stand_any (ks := [0]) (kc := 1) hs3 (kinds1 hK3) (by decide))
 rw [hc] at HST
 have hT3 := hT.grow hg3
 have hlen : 0 <= s.length := Nat.zero_le _
 obtain ⟨hsl, hsc, _⟩ := hs3.len
 have b1 : (sl : Int) <= (sc : Int) := by omega
 have HSL := jh hsl
 have HG3 := jh hg3
 have HI3 := jh hI3
 have HR3 := jh hR3
 have HS3 := jh hs3
 have HLEN := jh hlen
 clear hg3 hI3 hR3 hs hs3 hT hT3 hsl hlen hgd hc hK3
 go_enter Tryz.func33, Tryz.ntmps33
 go_wp2_with fail
 refine HST.out.mono ?_; rintro e w1 ⟨rfl, rfl⟩
 clear HST
 generalize ((W.alloc _).alloc _).alloc _ = W3 at *
 obtain ⟨i0, i1, i2, i3, _⟩ := box9 HI3.out
 have hS3 : W3.grownBy W3 (some (W.heap.size + 1)) := gRf _ _
 go_wp2_with fail
 refine (refused_led 5 (by decide) _).mono ?_
 rintro e w5 hp
 obtain ⟨a5, l5, c5, f5, er5, rfl, hS5, q0, q1, q2, HB5, HL5⟩ := led_fin hp HG3.out (gRf _ _) HR3.out
 clear hp
 go_wp2_with fail
 exact end_led (fun w z0 z1 => by simp [results, Tryz.results33, go_sem, z0, z1]) rfl HB5.out HL5.out
theorem binds_53 {W : World} {n : Int} {ta ra da : Option Addr} {tl tc rl rc dl dc : Nat} {dk dn dp : Int} {ds : ByteArray} {s types : List Ty} {sv : Value} (hs : RowC W s sv) (hT : RowC W types (.slice ta tl tc)) (hc : standF s [0] = true) (hgd : s.all goodTy = true) (hn : s.length <= 1000) :
 Calls Tryz.prog 33 #[insV 53 n ta tl tc ra rl rc dk dn dp ds da dl dc, sv] W (LedPost (putF (s.drop 1) [(.nd 9 [(tyAt s 0)])]) W) := by
 obtain ⟨sa, sl, sc, e1⟩ := hs.form3
 subst e1
 unfold insV
 obtain ⟨hg3, hI3, hR3, hK3⟩ := start3 W (.cells #[.int .i64 53, .int .i64 n, .slice ta tl tc, .slice ra rl rc, .int .i64 dk, .int .i64 dn, .int .i64 dp, .string ds, .slice da dl dc] 59) (.cells #[.slice none 0 0, .bool false] 27) (.cells #[.int .i64 0] 3)
 have hs3 := hs.grow hg3
 have HST := jh (stand_any (ks := [0]) (kc := 1) hs3 (kinds1 hK3) (by decide))
 rw [hc] at HST
 have hT3 := hT.grow hg3
 have hlen : 1 <= s.length := stand_len hc
 obtain ⟨hsl, hsc, _⟩ := hs3.len
 obtain ⟨b, o, t0, a0, l0, k0, rfl, x0a, x0b, hA0⟩ := hs3.at 0 (by omega)
 have HA0 := jh hA0
 have bz1 : (1 : Int) <= (sl : Int) := by omega
 have by0 : 0 < sl := by omega
 have b1 : (sl : Int) <= (sc : Int) := by omega
 have HSL := jh hsl
 have HG3 := jh hg3
 have HI3 := jh hI3
 have HR3 := jh hR3
 have HS3 := jh hs3
 have HLEN := jh hlen
 simp only [Nat.reduceMul, Nat.reduceAdd, Nat.add_zero, Nat.mul_zero, Nat.zero_add] at x0a x0b
 clear hg3 hI3 hR3 hs hs3 hT hT3 hsl hlen hgd hc hK3 hA0
 go_enter Tryz.func33, Tryz.ntmps33
 go_wp2_with fail
 refine HST.out.mono ?_; rintro e w1 ⟨rfl, rfl⟩
 clear HST
 generalize ((W.alloc _).alloc _).alloc _ = W3 at *
 obtain ⟨i0, i1, i2, i3, _⟩ := box9 HI3.out
 have yx0a := fun (w' : World) (h : W3.grownBy w' (some (W.heap.size + 1))) => kDq HR3.out h x0a x0a
 have yx0b := fun (w' : World) (h : W3.grownBy w' (some (W.heap.size + 1))) => kDq HR3.out h x0a x0b
 have hS3 : W3.grownBy W3 (some (W.heap.size + 1)) := gRf _ _
 rcases (show (sc = 1 /\ sl = 1) \/ (¬ sc = 1 /\ ¬ sc - 1 = 0) by omega) with ⟨rfl, rfl⟩ | ⟨hc2, hc3⟩
 have HD := jh (HS3.out.dropAll 1 (by have := HSL.out; omega) (some ⟨b, o, none⟩) 0)
 rotate_left
 have HD := jh (HS3.out.drop 1 (by have := HLEN.out; omega))
 all_goals
  go_wp2_with fail
  go_region_held3 (fun w' => W3.grownBy w' (some (W.heap.size + 1))) (first | with_reducible assumption | with_reducible exact gDr (gRf _ _) | with_reducible exact grow_setR (by assumption) | with_reducible exact grow_trans (by assumption) (gAq (Lf.gb _)) | with_reducible exact gDr (gAq (Lf.gb _))) (first
   | (go_at_call 56; refine (of_any 9 _ _ _ _).mono ?_; rintro e w10 ⟨rfl, hg⟩; have HU0 := jh (LiesT.ofC (t := 9) ⟨by decide, by decide⟩ (RowC.grow (RowC.one (heap_alloc_new W3 _) (HA0.out.same (sAl (Lf.gb _)))) (undrew hg))); have HG10 : Hid (W3.grownBy w10 none) := Lf.gbt (Lf.gb _) (undrew hg); have hS : W3.grownBy w10 (some (W.heap.size + 1)) := gAq HG10.out; clear hg)
   | (go_at_call 53; have hprev := HG10.out; clear hprev; refine (put_any (HD.out.grow (Lf.gbt HG10.out (Lf.gb _))) (RowC.one (heap_alloc_new w10 _) (HU0.out.same (sAl (Lf.gb _)))) (by simp; omega)).mono ?_; rintro e w5 hp; obtain ⟨a5, l5, c5, f5, er5, rfl, hS5, q0, q1, q2, HB5, HL5⟩ := led_fin hp HG3.out (Lf.gbt HG10.out (Lf.gb _)) HR3.out; clear hp))
  go_wp2_with fail
  exact end_led (fun w z0 z1 => by simp [results, Tryz.results33, go_sem, z0, z1]) rfl HB5.out HL5.out
theorem binds_53n {W : World} {n : Int} {ta ra da : Option Addr} {tl tc rl rc dl dc : Nat} {dk dn dp : Int} {ds : ByteArray} {s types : List Ty} {sv : Value} (hs : RowC W s sv) (hT : RowC W types (.slice ta tl tc)) (hc : standF s [0] = false) (hgd : s.all goodTy = true) (hn : s.length <= 1000) :
 Calls Tryz.prog 33 #[insV 53 n ta tl tc ra rl rc dk dn dp ds da dl dc, sv] W (LedPost (.no 5) W) := by
 obtain ⟨sa, sl, sc, e1⟩ := hs.form3
 subst e1
 unfold insV
 obtain ⟨hg3, hI3, hR3, hK3⟩ := start3 W (.cells #[.int .i64 53, .int .i64 n, .slice ta tl tc, .slice ra rl rc, .int .i64 dk, .int .i64 dn, .int .i64 dp, .string ds, .slice da dl dc] 59) (.cells #[.slice none 0 0, .bool false] 27) (.cells #[.int .i64 0] 3)
 have hs3 := hs.grow hg3
 have HST := jh (stand_any (ks := [0]) (kc := 1) hs3 (kinds1 hK3) (by decide))
 rw [hc] at HST
 have hT3 := hT.grow hg3
 have hlen : 0 <= s.length := Nat.zero_le _
 obtain ⟨hsl, hsc, _⟩ := hs3.len
 have b1 : (sl : Int) <= (sc : Int) := by omega
 have HSL := jh hsl
 have HG3 := jh hg3
 have HI3 := jh hI3
 have HR3 := jh hR3
 have HS3 := jh hs3
 have HLEN := jh hlen
 clear hg3 hI3 hR3 hs hs3 hT hT3 hsl hlen hgd hc hK3
 go_enter Tryz.func33, Tryz.ntmps33
 go_wp2_with fail
 refine HST.out.mono ?_; rintro e w1 ⟨rfl, rfl⟩
 clear HST
 generalize ((W.alloc _).alloc _).alloc _ = W3 at *
 obtain ⟨i0, i1, i2, i3, _⟩ := box9 HI3.out
 have hS3 : W3.grownBy W3 (some (W.heap.size + 1)) := gRf _ _
 go_wp2_with fail
 refine (refused_led 5 (by decide) _).mono ?_
 rintro e w5 hp
 obtain ⟨a5, l5, c5, f5, er5, rfl, hS5, q0, q1, q2, HB5, HL5⟩ := led_fin hp HG3.out (gRf _ _) HR3.out
 clear hp
 go_wp2_with fail
 exact end_led (fun w z0 z1 => by simp [results, Tryz.results33, go_sem, z0, z1]) rfl HB5.out HL5.out
theorem binds_54 {W : World} {n : Int} {ta ra da : Option Addr} {tl tc rl rc dl dc : Nat} {dk dn dp : Int} {ds : ByteArray} {s types : List Ty} {sv : Value} (hs : RowC W s sv) (hT : RowC W types (.slice ta tl tc)) (htl : types.length = 1) (hgd : s.all goodTy = true) (hn : s.length <= 1000) :
 Calls Tryz.prog 33 #[insV 54 n ta tl tc ra rl rc dk dn dp ds da dl dc, sv] W (LedPost (putF s [(.nd 9 [(tyAt types 0)])]) W) := by
 obtain ⟨sa, sl, sc, e1⟩ := hs.form3
 subst e1
 unfold insV
 obtain ⟨hg3, hI3, hR3⟩ := start2 W (.cells #[.int .i64 54, .int .i64 n, .slice ta tl tc, .slice ra rl rc, .int .i64 dk, .int .i64 dn, .int .i64 dp, .string ds, .slice da dl dc] 59) (.cells #[.slice none 0 0, .bool false] 27)
 have hsz : ((W.alloc (.cells #[.int .i64 54, .int .i64 n, .slice ta tl tc, .slice ra rl rc, .int .i64 dk, .int .i64 dn, .int .i64 dp, .string ds, .slice da dl dc] 59)).alloc (.cells #[.slice none 0 0, .bool false] 27)).heap.size = W.heap.size + 1 + 1 := by simp
 have hs3 := hs.grow hg3
 have hT3 := hT.grow hg3
 have hlen : 0 <= s.length := Nat.zero_le _
 obtain ⟨hsl, hsc, _⟩ := hs3.len
 obtain ⟨et, ect, _⟩ := hT3.len
 rw [htl] at et ect
 subst et
 have HTY := jh hT3
 obtain ⟨bt, ot, ty0, ay0, ly0, ky0, rfl, xy0a, xy0b, hAy0⟩ := hT3.at 0 (by omega)
 have HAy0 := jh hAy0
 have b1 : (sl : Int) <= (sc : Int) := by omega
 have HSL := jh hsl
 have HG3 := jh hg3
 have HI3 := jh hI3
 have HR3 := jh hR3
 have HS3 := jh hs3
 have HLEN := jh hlen
 simp only [Nat.reduceMul, Nat.reduceAdd, Nat.add_zero, Nat.mul_zero, Nat.zero_add] at xy0a xy0b
 obtain ⟨i0, i1, i2, i3, _⟩ := box9 hI3
 clear hg3 hI3 hR3 hs hs3 hT hT3 hsl hlen hgd htl hAy0
 go_enter Tryz.func33, Tryz.ntmps33
 go_wp2_with fail
 generalize (W.alloc _).alloc _ = W3 at *
 have yxy0a := fun (w' : World) (h : W3.grownBy w' (some (W.heap.size + 1))) => kDq HR3.out h xy0a xy0a
 have yxy0b := fun (w' : World) (h : W3.grownBy w' (some (W.heap.size + 1))) => kDq HR3.out h xy0a xy0b
 have yi2 := fun (w' : World) (h : W3.grownBy w' (some (W.heap.size + 1))) => (box9 (keepI HI3.out h)).2.2.1
 have hS3 : W3.grownBy W3 (some (W.heap.size + 1)) := gRf _ _
 have HD := HS3
 refine (of_any 9 _ _ _ _).mono ?_
 rintro e w10 ⟨rfl, hg⟩
 have HU0 := jh (LiesT.ofC (t := 9) ⟨by decide, by decide⟩ (RowC.grow (RowC.one (new_at hsz) (HAy0.out.same (sAl (Lf.gb _)))) hg))
 have HG10 : Hid (W3.grownBy w10 none) := Lf.gbt (Lf.gb _) hg
 have hS : W3.grownBy w10 (some (W.heap.size + 1)) := gAq HG10.out
 clear hg
 go_wp2_with fail
 have hprev := HG10.out
 clear hprev
 refine (put_any (HD.out.grow (Lf.gbt HG10.out (Lf.gb _))) (RowC.one (heap_alloc_new w10 _) (HU0.out.same (sAl (Lf.gb _)))) (by simp <;> omega)).mono ?_
 rintro e w5 hp
 obtain ⟨a5, l5, c5, f5, er5, rfl, hS5, q0, q1, q2, HB5, HL5⟩ := led_fin hp HG3.out (Lf.gbt HG10.out (Lf.gb _)) HR3.out
 clear hp
 go_wp2_with fail
 exact end_led (fun w z0 z1 => by simp [results, Tryz.results33, go_sem, z0, z1]) rfl HB5.out HL5.out
end Go.Proofs.YtamohjlhndedhadGreatRRR
