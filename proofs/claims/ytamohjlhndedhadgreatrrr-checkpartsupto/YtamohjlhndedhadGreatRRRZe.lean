import Derived.Test.YtamohjlhndedhadGreatRRRZd
import Derived.Test.YtamohjlhndedhadGreatRRRZa
namespace Go.Proofs.YtamohjlhndedhadGreatRRR
set_option maxRecDepth 100000
set_option maxHeartbeats 4000000
open Go.ChangeShapes Go.WideShapes Go.ChangeAt Go.RowKit
set_option linter.unusedVariables false
set_option linter.unusedSimpArgs false
theorem moves_40 {W : World} {n : Int} {ta ra da : Option Addr} {tl tc rl rc dl dc : Nat} {dk dn dp : Int} {ds : ByteArray} {s types : List Ty} {sv : Value} (hs : RowC W s sv) (hT : RowC W types (.slice ta tl tc)) (hc : standF s [0] = true) (hgd : s.all goodTy = true) (hn : s.length <= 1000) :
 Calls Tryz.prog 32 #[insV 40 n ta tl tc ra rl rc dk dn dp ds da dl dc, sv] W (LedPost (putF (s.drop 1) []) W) := by
 obtain ⟨sa, sl, sc, e1⟩ := hs.form3
 subst e1
 unfold insV
 obtain ⟨hg3, hI3, hR3, hK3⟩ := start3 W (.cells #[.int .i64 40, .int .i64 n, .slice ta tl tc, .slice ra rl rc, .int .i64 dk, .int .i64 dn, .int .i64 dp, .string ds, .slice da dl dc] 59) (.cells #[.slice none 0 0, .bool false] 27) (.cells #[.int .i64 0] 3)
 have hs3 := hs.grow hg3
 have HST := jh (stand_any (ks := [0]) (kc := 1) hs3 (kinds1 hK3) (by decide))
 rw [hc] at HST
 have hT3 := hT.grow hg3
 have hlen : 1 <= s.length := stand_len hc
 obtain ⟨hsl, hsc, _⟩ := hs3.len
 obtain ⟨b, o, t0, a0, l0, k0, rfl, x0a, x0b, hA0⟩ := hs3.at 0 (by omega)
 have HA0 := jh hA0
 have bz1 : (1 : Int) <= (sl : Int) := by omega
 have by0 : 0 < sl := by omega
 have b1 : (sl : Int) <= (sc : Int) := by omega
 have HSL := jh hsl
 have HG3 := jh hg3
 have HI3 := jh hI3
 have HR3 := jh hR3
 have HS3 := jh hs3
 have HLEN := jh hlen
 simp only [Nat.reduceMul, Nat.reduceAdd, Nat.add_zero, Nat.mul_zero, Nat.zero_add] at x0a x0b
 clear hg3 hI3 hR3 hs hs3 hT hT3 hsl hlen hgd hc hK3 hA0
 go_enter Tryz.func32, Tryz.ntmps32
 go_wp2_with fail
 refine HST.out.mono ?_; rintro e w1 ⟨rfl, rfl⟩
 clear HST
 generalize ((W.alloc _).alloc _).alloc _ = W3 at *
 obtain ⟨i0, i1, i2, i3, _⟩ := box9 HI3.out
 have yx0a := fun (w' : World) (h : W3.grownBy w' (some (W.heap.size + 1))) => kDq HR3.out h x0a x0a
 have yx0b := fun (w' : World) (h : W3.grownBy w' (some (W.heap.size + 1))) => kDq HR3.out h x0a x0b
 have hS3 : W3.grownBy W3 (some (W.heap.size + 1)) := gRf _ _
 rcases (show (sc = 1 /\ sl = 1) \/ (¬ sc = 1 /\ ¬ sc - 1 = 0) by omega) with ⟨rfl, rfl⟩ | ⟨hc2, hc3⟩
 have HD := jh (HS3.out.dropAll 1 (by have := HSL.out; omega) (some ⟨b, o, none⟩) 0)
 rotate_left
 have HD := jh (HS3.out.drop 1 (by have := HLEN.out; omega))
 all_goals
  go_wp2_with fail
  refine (put_any (HD.out.grow (gRf _ _)) (RowC.nil _ none 0) (by simp <;> omega)).mono ?_
  rintro e w5 hp
  obtain ⟨a5, l5, c5, f5, er5, rfl, hS5, q0, q1, q2, HB5, HL5⟩ := led_fin hp HG3.out (gRf _ _) HR3.out
  clear hp
  go_wp2_with fail
  exact end_led (fun w z0 z1 => by simp [results, Tryz.results32, go_sem, z0, z1]) rfl HB5.out HL5.out
theorem moves_40n {W : World} {n : Int} {ta ra da : Option Addr} {tl tc rl rc dl dc : Nat} {dk dn dp : Int} {ds : ByteArray} {s types : List Ty} {sv : Value} (hs : RowC W s sv) (hT : RowC W types (.slice ta tl tc)) (hc : standF s [0] = false) (hgd : s.all goodTy = true) (hn : s.length <= 1000) :
 Calls Tryz.prog 32 #[insV 40 n ta tl tc ra rl rc dk dn dp ds da dl dc, sv] W (LedPost (.no 5) W) := by
 obtain ⟨sa, sl, sc, e1⟩ := hs.form3
 subst e1
 unfold insV
 obtain ⟨hg3, hI3, hR3, hK3⟩ := start3 W (.cells #[.int .i64 40, .int .i64 n, .slice ta tl tc, .slice ra rl rc, .int .i64 dk, .int .i64 dn, .int .i64 dp, .string ds, .slice da dl dc] 59) (.cells #[.slice none 0 0, .bool false] 27) (.cells #[.int .i64 0] 3)
 have hs3 := hs.grow hg3
 have HST := jh (stand_any (ks := [0]) (kc := 1) hs3 (kinds1 hK3) (by decide))
 rw [hc] at HST
 have hT3 := hT.grow hg3
 have hlen : 0 <= s.length := Nat.zero_le _
 obtain ⟨hsl, hsc, _⟩ := hs3.len
 have b1 : (sl : Int) <= (sc : Int) := by omega
 have HSL := jh hsl
 have HG3 := jh hg3
 have HI3 := jh hI3
 have HR3 := jh hR3
 have HS3 := jh hs3
 have HLEN := jh hlen
 clear hg3 hI3 hR3 hs hs3 hT hT3 hsl hlen hgd hc hK3
 go_enter Tryz.func32, Tryz.ntmps32
 go_wp2_with fail
 refine HST.out.mono ?_; rintro e w1 ⟨rfl, rfl⟩
 clear HST
 generalize ((W.alloc _).alloc _).alloc _ = W3 at *
 obtain ⟨i0, i1, i2, i3, _⟩ := box9 HI3.out
 have hS3 : W3.grownBy W3 (some (W.heap.size + 1)) := gRf _ _
 go_wp2_with fail
 refine (refused_led 5 (by decide) _).mono ?_
 rintro e w5 hp
 obtain ⟨a5, l5, c5, f5, er5, rfl, hS5, q0, q1, q2, HB5, HL5⟩ := led_fin hp HG3.out (gRf _ _) HR3.out
 clear hp
 go_wp2_with fail
 exact end_led (fun w z0 z1 => by simp [results, Tryz.results32, go_sem, z0, z1]) rfl HB5.out HL5.out
theorem moves_42 {W : World} {n : Int} {ta ra da : Option Addr} {tl tc rl rc dl dc : Nat} {dk dn dp : Int} {ds : ByteArray} {s types : List Ty} {sv : Value} (hs : RowC W s sv) (hT : RowC W types (.slice ta tl tc)) (hc : standF s [0, 0] = true) (hgd : s.all goodTy = true) (hn : s.length <= 1000) :
 Calls Tryz.prog 32 #[insV 42 n ta tl tc ra rl rc dk dn dp ds da dl dc, sv] W (LedPost (putF (s.drop 2) [(tyAt s 1), (tyAt s 0)]) W) := by
 obtain ⟨sa, sl, sc, e1⟩ := hs.form3
 subst e1
 unfold insV
 obtain ⟨hg3, hI3, hR3, hK3⟩ := start3 W (.cells #[.int .i64 42, .int .i64 n, .slice ta tl tc, .slice ra rl rc, .int .i64 dk, .int .i64 dn, .int .i64 dp, .string ds, .slice da dl dc] 59) (.cells #[.slice none 0 0, .bool false] 27) (.cells #[.int .i64 0, .int .i64 0] 3)
 have hs3 := hs.grow hg3
 have HST := jh (stand_any (ks := [0, 0]) (kc := 2) hs3 (kinds2 hK3) (by decide))
 rw [hc] at HST
 have hT3 := hT.grow hg3
 have hlen : 2 <= s.length := stand_len hc
 obtain ⟨hsl, hsc, _⟩ := hs3.len
 obtain ⟨b, o, t0, a0, l0, k0, rfl, x0a, x0b, hA0⟩ := hs3.at 0 (by omega)
 have HA0 := jh hA0
 obtain ⟨_, _, t1, a1, l1, k1, eb, x1a, x1b, hA1⟩ := hs3.at 1 (by omega)
 simp only [Option.some.injEq, Addr.mk.injEq, and_true] at eb
 obtain ⟨rfl, rfl⟩ := eb
 have HA1 := jh hA1
 have bz1 : (1 : Int) <= (sl : Int) := by omega
 have by0 : 0 < sl := by omega
 have bz2 : (2 : Int) <= (sl : Int) := by omega
 have by1 : (1 : Int) < (sl : Int) := by omega
 have b1 : (sl : Int) <= (sc : Int) := by omega
 have HSL := jh hsl
 have HG3 := jh hg3
 have HI3 := jh hI3
 have HR3 := jh hR3
 have HS3 := jh hs3
 have HLEN := jh hlen
 simp only [Nat.reduceMul, Nat.reduceAdd, Nat.add_zero, Nat.mul_zero, Nat.zero_add] at x0a x0b x1a x1b
 clear hg3 hI3 hR3 hs hs3 hT hT3 hsl hlen hgd hc hK3 hA0 hA1
 go_enter Tryz.func32, Tryz.ntmps32
 go_wp2_with fail
 refine HST.out.mono ?_; rintro e w1 ⟨rfl, rfl⟩
 clear HST
 generalize ((W.alloc _).alloc _).alloc _ = W3 at *
 obtain ⟨i0, i1, i2, i3, _⟩ := box9 HI3.out
 have yx0a := fun (w' : World) (h : W3.grownBy w' (some (W.heap.size + 1))) => kDq HR3.out h x0a x0a
 have yx0b := fun (w' : World) (h : W3.grownBy w' (some (W.heap.size + 1))) => kDq HR3.out h x0a x0b
 have yx1a := fun (w' : World) (h : W3.grownBy w' (some (W.heap.size + 1))) => kDq HR3.out h x1a x1a
 have yx1b := fun (w' : World) (h : W3.grownBy w' (some (W.heap.size + 1))) => kDq HR3.out h x1a x1b
 have hS3 : W3.grownBy W3 (some (W.heap.size + 1)) := gRf _ _
 rcases (show (sc = 2 /\ sl = 2) \/ (¬ sc = 2 /\ ¬ sc - 2 = 0) by omega) with ⟨rfl, rfl⟩ | ⟨hc2, hc3⟩
 have HD := jh (HS3.out.dropAll 2 (by have := HSL.out; omega) (some ⟨b, o, none⟩) 0)
 rotate_left
 have HD := jh (HS3.out.drop 2 (by have := HLEN.out; omega))
 all_goals
  go_wp2_with fail
  go_region_held3 (fun w' => W3.grownBy w' (some (W.heap.size + 1))) (first | with_reducible assumption | with_reducible exact gDr (gRf _ _) | with_reducible exact grow_setR (by assumption) | with_reducible exact grow_trans (by assumption) (gAq (Lf.gb _)) | with_reducible exact gDr (gAq (Lf.gb _))) (first
   | (go_at_call 53; refine (put_any (HD.out.grow (gDr (Lf.gb _))) (RowC.dr (RowC.two (heap_alloc_new W3 _) (HA1.out.same (sAl (Lf.gb _))) (HA0.out.same (sAl (Lf.gb _))))) (by simp; omega)).mono ?_; rintro e w5 hp; obtain ⟨a5, l5, c5, f5, er5, rfl, hS5, q0, q1, q2, HB5, HL5⟩ := led_fin hp HG3.out (gDr (Lf.gb _)) HR3.out; clear hp))
  go_wp2_with fail
  exact end_led (fun w z0 z1 => by simp [results, Tryz.results32, go_sem, z0, z1]) rfl HB5.out HL5.out
theorem moves_42n {W : World} {n : Int} {ta ra da : Option Addr} {tl tc rl rc dl dc : Nat} {dk dn dp : Int} {ds : ByteArray} {s types : List Ty} {sv : Value} (hs : RowC W s sv) (hT : RowC W types (.slice ta tl tc)) (hc : standF s [0, 0] = false) (hgd : s.all goodTy = true) (hn : s.length <= 1000) :
 Calls Tryz.prog 32 #[insV 42 n ta tl tc ra rl rc dk dn dp ds da dl dc, sv] W (LedPost (.no 5) W) := by
 obtain ⟨sa, sl, sc, e1⟩ := hs.form3
 subst e1
 unfold insV
 obtain ⟨hg3, hI3, hR3, hK3⟩ := start3 W (.cells #[.int .i64 42, .int .i64 n, .slice ta tl tc, .slice ra rl rc, .int .i64 dk, .int .i64 dn, .int .i64 dp, .string ds, .slice da dl dc] 59) (.cells #[.slice none 0 0, .bool false] 27) (.cells #[.int .i64 0, .int .i64 0] 3)
 have hs3 := hs.grow hg3
 have HST := jh (stand_any (ks := [0, 0]) (kc := 2) hs3 (kinds2 hK3) (by decide))
 rw [hc] at HST
 have hT3 := hT.grow hg3
 have hlen : 0 <= s.length := Nat.zero_le _
 obtain ⟨hsl, hsc, _⟩ := hs3.len
 have b1 : (sl : Int) <= (sc : Int) := by omega
 have HSL := jh hsl
 have HG3 := jh hg3
 have HI3 := jh hI3
 have HR3 := jh hR3
 have HS3 := jh hs3
 have HLEN := jh hlen
 clear hg3 hI3 hR3 hs hs3 hT hT3 hsl hlen hgd hc hK3
 go_enter Tryz.func32, Tryz.ntmps32
 go_wp2_with fail
 refine HST.out.mono ?_; rintro e w1 ⟨rfl, rfl⟩
 clear HST
 generalize ((W.alloc _).alloc _).alloc _ = W3 at *
 obtain ⟨i0, i1, i2, i3, _⟩ := box9 HI3.out
 have hS3 : W3.grownBy W3 (some (W.heap.size + 1)) := gRf _ _
 go_wp2_with fail
 refine (refused_led 5 (by decide) _).mono ?_
 rintro e w5 hp
 obtain ⟨a5, l5, c5, f5, er5, rfl, hS5, q0, q1, q2, HB5, HL5⟩ := led_fin hp HG3.out (gRf _ _) HR3.out
 clear hp
 go_wp2_with fail
 exact end_led (fun w z0 z1 => by simp [results, Tryz.results32, go_sem, z0, z1]) rfl HB5.out HL5.out
theorem reckons_93 {W : World} {n : Int} {ta ra da : Option Addr} {tl tc rl rc dl dc : Nat} {dk dn dp : Int} {ds : ByteArray} {s types : List Ty} {sv : Value} (hs : RowC W s sv) (hT : RowC W types (.slice ta tl tc)) (hc : standF s [3] = true) (hgd : s.all goodTy = true) (hn : s.length <= 1000) :
 Calls Tryz.prog 37 #[insV 93 n ta tl tc ra rl rc dk dn dp ds da dl dc, sv] W (LedPost (putF (s.drop 1) [(.nd 4 [])]) W) := by
 obtain ⟨sa, sl, sc, e1⟩ := hs.form3
 subst e1
 unfold insV
 obtain ⟨hg3, hI3, hR3, hK3⟩ := start3 W (.cells #[.int .i64 93, .int .i64 n, .slice ta tl tc, .slice ra rl rc, .int .i64 dk, .int .i64 dn, .int .i64 dp, .string ds, .slice da dl dc] 59) (.cells #[.slice none 0 0, .bool false] 27) (.cells #[.int .i64 3] 3)
 have hs3 := hs.grow hg3
 have HST := jh (stand_any (ks := [3]) (kc := 1) hs3 (kinds1 hK3) (by decide))
 rw [hc] at HST
 have hT3 := hT.grow hg3
 have hlen : 1 <= s.length := stand_len hc
 obtain ⟨hsl, hsc, _⟩ := hs3.len
 obtain ⟨b, o, t0, a0, l0, k0, rfl, x0a, x0b, hA0⟩ := hs3.at 0 (by omega)
 have HA0 := jh hA0
 have bz1 : (1 : Int) <= (sl : Int) := by omega
 have by0 : 0 < sl := by omega
 have b1 : (sl : Int) <= (sc : Int) := by omega
 have HSL := jh hsl
 have HG3 := jh hg3
 have HI3 := jh hI3
 have HR3 := jh hR3
 have HS3 := jh hs3
 have HLEN := jh hlen
 simp only [Nat.reduceMul, Nat.reduceAdd, Nat.add_zero, Nat.mul_zero, Nat.zero_add] at x0a x0b
 clear hg3 hI3 hR3 hs hs3 hT hT3 hsl hlen hgd hc hK3 hA0
 go_enter Tryz.func37, Tryz.ntmps37
 go_wp2_with fail
 refine HST.out.mono ?_; rintro e w1 ⟨rfl, rfl⟩
 clear HST
 generalize ((W.alloc _).alloc _).alloc _ = W3 at *
 obtain ⟨i0, i1, i2, i3, _⟩ := box9 HI3.out
 have yx0a := fun (w' : World) (h : W3.grownBy w' (some (W.heap.size + 1))) => kDq HR3.out h x0a x0a
 have yx0b := fun (w' : World) (h : W3.grownBy w' (some (W.heap.size + 1))) => kDq HR3.out h x0a x0b
 have hS3 : W3.grownBy W3 (some (W.heap.size + 1)) := gRf _ _
 rcases (show (sc = 1 /\ sl = 1) \/ (¬ sc = 1 /\ ¬ sc - 1 = 0) by omega) with ⟨rfl, rfl⟩ | ⟨hc2, hc3⟩
 have HD := jh (HS3.out.dropAll 1 (by have := HSL.out; omega) (some ⟨b, o, none⟩) 0)
 rotate_left
 have HD := jh (HS3.out.drop 1 (by have := HLEN.out; omega))
 all_goals
  go_wp2_with fail
  go_region_held3 (fun w' => W3.grownBy w' (some (W.heap.size + 1))) (first | with_reducible assumption | with_reducible exact gDr (gRf _ _) | with_reducible exact grow_setR (by assumption) | with_reducible exact grow_trans (by assumption) (gAq (Lf.gb _)) | with_reducible exact gDr (gAq (Lf.gb _))) (first
   | (go_at_call 56; refine (of_any 4 _ _ _ _).mono ?_; rintro e w10 ⟨rfl, hg⟩; have HU0 := jh (LiesT.ofC (t := 4) ⟨by decide, by decide⟩ (RowC.grow (RowC.nil _ none 0) (undrew hg))); have HG10 : Hid (W3.grownBy w10 none) := Lf.gbt (gRf _ _) (undrew hg); have hS : W3.grownBy w10 (some (W.heap.size + 1)) := gAq HG10.out; clear hg)
   | (go_at_call 53; have hprev := HG10.out; clear hprev; refine (put_any (HD.out.grow (Lf.gbt HG10.out (Lf.gb _))) (RowC.one (heap_alloc_new w10 _) (HU0.out.same (sAl (Lf.gb _)))) (by simp; omega)).mono ?_; rintro e w5 hp; obtain ⟨a5, l5, c5, f5, er5, rfl, hS5, q0, q1, q2, HB5, HL5⟩ := led_fin hp HG3.out (Lf.gbt HG10.out (Lf.gb _)) HR3.out; clear hp))
  go_wp2_with fail
  exact end_led (fun w z0 z1 => by simp [results, Tryz.results37, go_sem, z0, z1]) rfl HB5.out HL5.out
theorem reckons_93n {W : World} {n : Int} {ta ra da : Option Addr} {tl tc rl rc dl dc : Nat} {dk dn dp : Int} {ds : ByteArray} {s types : List Ty} {sv : Value} (hs : RowC W s sv) (hT : RowC W types (.slice ta tl tc)) (hc : standF s [3] = false) (hgd : s.all goodTy = true) (hn : s.length <= 1000) :
 Calls Tryz.prog 37 #[insV 93 n ta tl tc ra rl rc dk dn dp ds da dl dc, sv] W (LedPost (.no 5) W) := by
 obtain ⟨sa, sl, sc, e1⟩ := hs.form3
 subst e1
 unfold insV
 obtain ⟨hg3, hI3, hR3, hK3⟩ := start3 W (.cells #[.int .i64 93, .int .i64 n, .slice ta tl tc, .slice ra rl rc, .int .i64 dk, .int .i64 dn, .int .i64 dp, .string ds, .slice da dl dc] 59) (.cells #[.slice none 0 0, .bool false] 27) (.cells #[.int .i64 3] 3)
 have hs3 := hs.grow hg3
 have HST := jh (stand_any (ks := [3]) (kc := 1) hs3 (kinds1 hK3) (by decide))
 rw [hc] at HST
 have hT3 := hT.grow hg3
 have hlen : 0 <= s.length := Nat.zero_le _
 obtain ⟨hsl, hsc, _⟩ := hs3.len
 have b1 : (sl : Int) <= (sc : Int) := by omega
 have HSL := jh hsl
 have HG3 := jh hg3
 have HI3 := jh hI3
 have HR3 := jh hR3
 have HS3 := jh hs3
 have HLEN := jh hlen
 clear hg3 hI3 hR3 hs hs3 hT hT3 hsl hlen hgd hc hK3
 go_enter Tryz.func37, Tryz.ntmps37
 go_wp2_with fail
 refine HST.out.mono ?_; rintro e w1 ⟨rfl, rfl⟩
 clear HST
 generalize ((W.alloc _).alloc _).alloc _ = W3 at *
 obtain ⟨i0, i1, i2, i3, _⟩ := box9 HI3.out
 have hS3 : W3.grownBy W3 (some (W.heap.size + 1)) := gRf _ _
 go_wp2_with fail
 refine (isOfTwo_any 93 _).mono ?_; rintro e w9 ⟨rfl, rfl⟩
 go_wp2_with fail
 refine (refused_led 5 (by decide) _).mono ?_
 rintro e w5 hp
 obtain ⟨a5, l5, c5, f5, er5, rfl, hS5, q0, q1, q2, HB5, HL5⟩ := led_fin hp HG3.out (gRf _ _) HR3.out
 clear hp
 go_wp2_with fail
 exact end_led (fun w z0 z1 => by simp [results, Tryz.results37, go_sem, z0, z1]) rfl HB5.out HL5.out
theorem reckons_94 {W : World} {n : Int} {ta ra da : Option Addr} {tl tc rl rc dl dc : Nat} {dk dn dp : Int} {ds : ByteArray} {s types : List Ty} {sv : Value} (hs : RowC W s sv) (hT : RowC W types (.slice ta tl tc)) (hc : standF s [3] = true) (hgd : s.all goodTy = true) (hn : s.length <= 1000) :
 Calls Tryz.prog 37 #[insV 94 n ta tl tc ra rl rc dk dn dp ds da dl dc, sv] W (LedPost (putF (s.drop 1) [(.nd 9 [(.nd 4 [])])]) W) := by
 obtain ⟨sa, sl, sc, e1⟩ := hs.form3
 subst e1
 unfold insV
 obtain ⟨hg3, hI3, hR3, hK3⟩ := start3 W (.cells #[.int .i64 94, .int .i64 n, .slice ta tl tc, .slice ra rl rc, .int .i64 dk, .int .i64 dn, .int .i64 dp, .string ds, .slice da dl dc] 59) (.cells #[.slice none 0 0, .bool false] 27) (.cells #[.int .i64 3] 3)
 have hs3 := hs.grow hg3
 have HST := jh (stand_any (ks := [3]) (kc := 1) hs3 (kinds1 hK3) (by decide))
 rw [hc] at HST
 have hT3 := hT.grow hg3
 have hlen : 1 <= s.length := stand_len hc
 obtain ⟨hsl, hsc, _⟩ := hs3.len
 obtain ⟨b, o, t0, a0, l0, k0, rfl, x0a, x0b, hA0⟩ := hs3.at 0 (by omega)
 have HA0 := jh hA0
 have bz1 : (1 : Int) <= (sl : Int) := by omega
 have by0 : 0 < sl := by omega
 have b1 : (sl : Int) <= (sc : Int) := by omega
 have HSL := jh hsl
 have HG3 := jh hg3
 have HI3 := jh hI3
 have HR3 := jh hR3
 have HS3 := jh hs3
 have HLEN := jh hlen
 simp only [Nat.reduceMul, Nat.reduceAdd, Nat.add_zero, Nat.mul_zero, Nat.zero_add] at x0a x0b
 clear hg3 hI3 hR3 hs hs3 hT hT3 hsl hlen hgd hc hK3 hA0
 go_enter Tryz.func37, Tryz.ntmps37
 go_wp2_with fail
 refine HST.out.mono ?_; rintro e w1 ⟨rfl, rfl⟩
 clear HST
 generalize ((W.alloc _).alloc _).alloc _ = W3 at *
 obtain ⟨i0, i1, i2, i3, _⟩ := box9 HI3.out
 have yx0a := fun (w' : World) (h : W3.grownBy w' (some (W.heap.size + 1))) => kDq HR3.out h x0a x0a
 have yx0b := fun (w' : World) (h : W3.grownBy w' (some (W.heap.size + 1))) => kDq HR3.out h x0a x0b
 have hS3 : W3.grownBy W3 (some (W.heap.size + 1)) := gRf _ _
 rcases (show (sc = 1 /\ sl = 1) \/ (¬ sc = 1 /\ ¬ sc - 1 = 0) by omega) with ⟨rfl, rfl⟩ | ⟨hc2, hc3⟩
 have HD := jh (HS3.out.dropAll 1 (by have := HSL.out; omega) (some ⟨b, o, none⟩) 0)
 rotate_left
 have HD := jh (HS3.out.drop 1 (by have := HLEN.out; omega))
 all_goals
  go_wp2_with fail
  go_region_held3 (fun w' => W3.grownBy w' (some (W.heap.size + 1))) (first | with_reducible assumption | with_reducible exact gDr (gRf _ _) | with_reducible exact grow_setR (by assumption) | with_reducible exact grow_trans (by assumption) (gAq (Lf.gb _)) | with_reducible exact gDr (gAq (Lf.gb _))) (first
   | (go_at_call 56; have hprev := HG10.out; clear hprev; refine (of_any 9 _ _ _ _).mono ?_; rintro e w11 ⟨rfl, hg⟩; have HU1 := jh (LiesT.ofC (t := 9) ⟨by decide, by decide⟩ (RowC.grow (RowC.one (heap_alloc_new w10 _) (HU0.out.same (sAl (Lf.gb _)))) hg)); have HU0 := jh (HU0.out.same (sAl (Lf.gbt (Lf.gb _) hg))); have HG11 : Hid (W3.grownBy w11 none) := Lf.gbt (Lf.gbt HG10.out (Lf.gb _)) hg; have hS : W3.grownBy w11 (some (W.heap.size + 1)) := gAq HG11.out; clear hg)
   | (go_at_call 56; refine (of_any 4 _ _ _ _).mono ?_; rintro e w10 ⟨rfl, hg⟩; have HU0 := jh (LiesT.ofC (t := 4) ⟨by decide, by decide⟩ (RowC.grow (RowC.nil _ none 0) (undrew hg))); have HG10 : Hid (W3.grownBy w10 none) := Lf.gbt (gRf _ _) (undrew hg); have hS : W3.grownBy w10 (some (W.heap.size + 1)) := gAq HG10.out; clear hg)
   | (go_at_call 53; have hprev := HG11.out; clear hprev; refine (put_any (HD.out.grow (Lf.gbt HG11.out (Lf.gb _))) (RowC.one (heap_alloc_new w11 _) (HU1.out.same (sAl (Lf.gb _)))) (by simp; omega)).mono ?_; rintro e w5 hp; obtain ⟨a5, l5, c5, f5, er5, rfl, hS5, q0, q1, q2, HB5, HL5⟩ := led_fin hp HG3.out (Lf.gbt HG11.out (Lf.gb _)) HR3.out; clear hp))
  go_wp2_with fail
  exact end_led (fun w z0 z1 => by simp [results, Tryz.results37, go_sem, z0, z1]) rfl HB5.out HL5.out
theorem reckons_94n {W : World} {n : Int} {ta ra da : Option Addr} {tl tc rl rc dl dc : Nat} {dk dn dp : Int} {ds : ByteArray} {s types : List Ty} {sv : Value} (hs : RowC W s sv) (hT : RowC W types (.slice ta tl tc)) (hc : standF s [3] = false) (hgd : s.all goodTy = true) (hn : s.length <= 1000) :
 Calls Tryz.prog 37 #[insV 94 n ta tl tc ra rl rc dk dn dp ds da dl dc, sv] W (LedPost (.no 5) W) := by
 obtain ⟨sa, sl, sc, e1⟩ := hs.form3
 subst e1
 unfold insV
 obtain ⟨hg3, hI3, hR3, hK3⟩ := start3 W (.cells #[.int .i64 94, .int .i64 n, .slice ta tl tc, .slice ra rl rc, .int .i64 dk, .int .i64 dn, .int .i64 dp, .string ds, .slice da dl dc] 59) (.cells #[.slice none 0 0, .bool false] 27) (.cells #[.int .i64 3] 3)
 have hs3 := hs.grow hg3
 have HST := jh (stand_any (ks := [3]) (kc := 1) hs3 (kinds1 hK3) (by decide))
 rw [hc] at HST
 have hT3 := hT.grow hg3
 have hlen : 0 <= s.length := Nat.zero_le _
 obtain ⟨hsl, hsc, _⟩ := hs3.len
 have b1 : (sl : Int) <= (sc : Int) := by omega
 have HSL := jh hsl
 have HG3 := jh hg3
 have HI3 := jh hI3
 have HR3 := jh hR3
 have HS3 := jh hs3
 have HLEN := jh hlen
 clear hg3 hI3 hR3 hs hs3 hT hT3 hsl hlen hgd hc hK3
 go_enter Tryz.func37, Tryz.ntmps37
 go_wp2_with fail
 refine HST.out.mono ?_; rintro e w1 ⟨rfl, rfl⟩
 clear HST
 generalize ((W.alloc _).alloc _).alloc _ = W3 at *
 obtain ⟨i0, i1, i2, i3, _⟩ := box9 HI3.out
 have hS3 : W3.grownBy W3 (some (W.heap.size + 1)) := gRf _ _
 go_wp2_with fail
 refine (isOfTwo_any 94 _).mono ?_; rintro e w9 ⟨rfl, rfl⟩
 go_wp2_with fail
 refine (refused_led 5 (by decide) _).mono ?_
 rintro e w5 hp
 obtain ⟨a5, l5, c5, f5, er5, rfl, hS5, q0, q1, q2, HB5, HL5⟩ := led_fin hp HG3.out (gRf _ _) HR3.out
 clear hp
 go_wp2_with fail
 exact end_led (fun w z0 z1 => by simp [results, Tryz.results37, go_sem, z0, z1]) rfl HB5.out HL5.out
theorem reckons_95 {W : World} {n : Int} {ta ra da : Option Addr} {tl tc rl rc dl dc : Nat} {dk dn dp : Int} {ds : ByteArray} {s types : List Ty} {sv : Value} (hs : RowC W s sv) (hT : RowC W types (.slice ta tl tc)) (hc : standF s [4] = true) (hgd : s.all goodTy = true) (hn : s.length <= 1000) :
 Calls Tryz.prog 37 #[insV 95 n ta tl tc ra rl rc dk dn dp ds da dl dc, sv] W (LedPost (putF (s.drop 1) [(.nd 3 [])]) W) := by
 obtain ⟨sa, sl, sc, e1⟩ := hs.form3
 subst e1
 unfold insV
 obtain ⟨hg3, hI3, hR3, hK3⟩ := start3 W (.cells #[.int .i64 95, .int .i64 n, .slice ta tl tc, .slice ra rl rc, .int .i64 dk, .int .i64 dn, .int .i64 dp, .string ds, .slice da dl dc] 59) (.cells #[.slice none 0 0, .bool false] 27) (.cells #[.int .i64 4] 3)
 have hs3 := hs.grow hg3
 have HST := jh (stand_any (ks := [4]) (kc := 1) hs3 (kinds1 hK3) (by decide))
 rw [hc] at HST
 have hT3 := hT.grow hg3
 have hlen : 1 <= s.length := stand_len hc
 obtain ⟨hsl, hsc, _⟩ := hs3.len
 obtain ⟨b, o, t0, a0, l0, k0, rfl, x0a, x0b, hA0⟩ := hs3.at 0 (by omega)
 have HA0 := jh hA0
 have bz1 : (1 : Int) <= (sl : Int) := by omega
 have by0 : 0 < sl := by omega
 have b1 : (sl : Int) <= (sc : Int) := by omega
 have HSL := jh hsl
 have HG3 := jh hg3
 have HI3 := jh hI3
 have HR3 := jh hR3
 have HS3 := jh hs3
 have HLEN := jh hlen
 simp only [Nat.reduceMul, Nat.reduceAdd, Nat.add_zero, Nat.mul_zero, Nat.zero_add] at x0a x0b
 clear hg3 hI3 hR3 hs hs3 hT hT3 hsl hlen hgd hc hK3 hA0
 go_enter Tryz.func37, Tryz.ntmps37
 go_wp2_with fail
 refine HST.out.mono ?_; rintro e w1 ⟨rfl, rfl⟩
 clear HST
 generalize ((W.alloc _).alloc _).alloc _ = W3 at *
 obtain ⟨i0, i1, i2, i3, _⟩ := box9 HI3.out
 have yx0a := fun (w' : World) (h : W3.grownBy w' (some (W.heap.size + 1))) => kDq HR3.out h x0a x0a
 have yx0b := fun (w' : World) (h : W3.grownBy w' (some (W.heap.size + 1))) => kDq HR3.out h x0a x0b
 have hS3 : W3.grownBy W3 (some (W.heap.size + 1)) := gRf _ _
 rcases (show (sc = 1 /\ sl = 1) \/ (¬ sc = 1 /\ ¬ sc - 1 = 0) by omega) with ⟨rfl, rfl⟩ | ⟨hc2, hc3⟩
 have HD := jh (HS3.out.dropAll 1 (by have := HSL.out; omega) (some ⟨b, o, none⟩) 0)
 rotate_left
 have HD := jh (HS3.out.drop 1 (by have := HLEN.out; omega))
 all_goals
  go_wp2_with fail
  go_region_held3 (fun w' => W3.grownBy w' (some (W.heap.size + 1))) (first | with_reducible assumption | with_reducible exact gDr (gRf _ _) | with_reducible exact grow_setR (by assumption) | with_reducible exact grow_trans (by assumption) (gAq (Lf.gb _)) | with_reducible exact gDr (gAq (Lf.gb _))) (first
   | (go_at_call 56; refine (of_any 3 _ _ _ _).mono ?_; rintro e w10 ⟨rfl, hg⟩; have HU0 := jh (LiesT.ofC (t := 3) ⟨by decide, by decide⟩ (RowC.grow (RowC.nil _ none 0) (undrew hg))); have HG10 : Hid (W3.grownBy w10 none) := Lf.gbt (gRf _ _) (undrew hg); have hS : W3.grownBy w10 (some (W.heap.size + 1)) := gAq HG10.out; clear hg)
   | (go_at_call 53; have hprev := HG10.out; clear hprev; refine (put_any (HD.out.grow (Lf.gbt HG10.out (Lf.gb _))) (RowC.one (heap_alloc_new w10 _) (HU0.out.same (sAl (Lf.gb _)))) (by simp; omega)).mono ?_; rintro e w5 hp; obtain ⟨a5, l5, c5, f5, er5, rfl, hS5, q0, q1, q2, HB5, HL5⟩ := led_fin hp HG3.out (Lf.gbt HG10.out (Lf.gb _)) HR3.out; clear hp))
  go_wp2_with fail
  exact end_led (fun w z0 z1 => by simp [results, Tryz.results37, go_sem, z0, z1]) rfl HB5.out HL5.out
theorem reckons_95n {W : World} {n : Int} {ta ra da : Option Addr} {tl tc rl rc dl dc : Nat} {dk dn dp : Int} {ds : ByteArray} {s types : List Ty} {sv : Value} (hs : RowC W s sv) (hT : RowC W types (.slice ta tl tc)) (hc : standF s [4] = false) (hgd : s.all goodTy = true) (hn : s.length <= 1000) :
 Calls Tryz.prog 37 #[insV 95 n ta tl tc ra rl rc dk dn dp ds da dl dc, sv] W (LedPost (.no 5) W) := by
 obtain ⟨sa, sl, sc, e1⟩ := hs.form3
 subst e1
 unfold insV
 obtain ⟨hg3, hI3, hR3, hK3⟩ := start3 W (.cells #[.int .i64 95, .int .i64 n, .slice ta tl tc, .slice ra rl rc, .int .i64 dk, .int .i64 dn, .int .i64 dp, .string ds, .slice da dl dc] 59) (.cells #[.slice none 0 0, .bool false] 27) (.cells #[.int .i64 4] 3)
 have hs3 := hs.grow hg3
 have HST := jh (stand_any (ks := [4]) (kc := 1) hs3 (kinds1 hK3) (by decide))
 rw [hc] at HST
 have hT3 := hT.grow hg3
 have hlen : 0 <= s.length := Nat.zero_le _
 obtain ⟨hsl, hsc, _⟩ := hs3.len
 have b1 : (sl : Int) <= (sc : Int) := by omega
 have HSL := jh hsl
 have HG3 := jh hg3
 have HI3 := jh hI3
 have HR3 := jh hR3
 have HS3 := jh hs3
 have HLEN := jh hlen
 clear hg3 hI3 hR3 hs hs3 hT hT3 hsl hlen hgd hc hK3
 go_enter Tryz.func37, Tryz.ntmps37
 go_wp2_with fail
 refine HST.out.mono ?_; rintro e w1 ⟨rfl, rfl⟩
 clear HST
 generalize ((W.alloc _).alloc _).alloc _ = W3 at *
 obtain ⟨i0, i1, i2, i3, _⟩ := box9 HI3.out
 have hS3 : W3.grownBy W3 (some (W.heap.size + 1)) := gRf _ _
 go_wp2_with fail
 refine (isOfTwo_any 95 _).mono ?_; rintro e w9 ⟨rfl, rfl⟩
 go_wp2_with fail
 refine (refused_led 5 (by decide) _).mono ?_
 rintro e w5 hp
 obtain ⟨a5, l5, c5, f5, er5, rfl, hS5, q0, q1, q2, HB5, HL5⟩ := led_fin hp HG3.out (gRf _ _) HR3.out
 clear hp
 go_wp2_with fail
 exact end_led (fun w z0 z1 => by simp [results, Tryz.results37, go_sem, z0, z1]) rfl HB5.out HL5.out
theorem sends_else {W : World} {p n : Int} {ta ra da : Option Addr} {tl tc rl rc dl dc : Nat} {dk dn dp : Int} {ds : ByteArray} {s : List Ty} {sv : Value} (hs : RowC W s sv) (q1 : p ≠ 88) (q2 : p ≠ 89) (q3 : p ≠ 90) (q4 : p ≠ 91) (q5 : p ≠ 92) :
 Calls Tryz.prog 41 #[insV p n ta tl tc ra rl rc dk dn dp ds da dl dc, sv] W (LedPost (.no 5) W) := by
 obtain ⟨sa, sl, sc, e1⟩ := hs.form3
 subst e1
 unfold insV
 obtain ⟨hg3, hI3, hR3⟩ := start2 W (.cells #[.int .i64 p, .int .i64 n, .slice ta tl tc, .slice ra rl rc, .int .i64 dk, .int .i64 dn, .int .i64 dp, .string ds, .slice da dl dc] 59) (.cells #[.slice none 0 0, .bool false] 27)
 have hs3 := hs.grow hg3
 obtain ⟨hsl, hsc, _⟩ := hs3.len
 have p0 : (p == 88) = false := by rw [beq_eq_false_iff_ne]; omega
 have p1 : (p == 89) = false := by rw [beq_eq_false_iff_ne]; omega
 have p2 : (p == 90) = false := by rw [beq_eq_false_iff_ne]; omega
 have p3 : (p == 91) = false := by rw [beq_eq_false_iff_ne]; omega
 have p4 : (p == 92) = false := by rw [beq_eq_false_iff_ne]; omega
 have HG3 := jh hg3
 have HI3 := jh hI3
 have HR3 := jh hR3
 have HS3 := jh hs3
 obtain ⟨i0, i1, i2, i3, _⟩ := box9 hI3
 clear hg3 hI3 hR3 hs hs3 hsl q1 q2 q3 q4 q5
 go_enter Tryz.func41, Tryz.ntmps41
 go_wp2_with fail
 generalize (W.alloc _).alloc _ = W3 at *
 refine (refused_led 5 (by decide) _).mono ?_
 rintro e w5 hp
 obtain ⟨a5, l5, c5, f5, er5, rfl, hS5, q0, q1, q2, HB5, HL5⟩ := led_fin hp HG3.out (gRf _ _) HR3.out
 clear hp
 go_wp2_with fail
 exact end_led (fun w z0 z1 => by simp [results, Tryz.results41, go_sem, z0, z1]) rfl HB5.out HL5.out
theorem moves_41a {W : World} {n : Int} {ta ra da : Option Addr} {tl tc rl rc dl dc : Nat} {dk dn dp : Int} {ds : ByteArray} {s : List Ty} {sv : Value} (hs : RowC W s sv) (h : ¬ 1 <= n) :
 Calls Tryz.prog 32 #[insV 41 n ta tl tc ra rl rc dk dn dp ds da dl dc, sv] W (LedPost (.no 5) W) := by
 obtain ⟨sa, sl, sc, e1⟩ := hs.form3
 subst e1
 unfold insV
 obtain ⟨hg3, hI3, hR3⟩ := start2 W (.cells #[.int .i64 41, .int .i64 n, .slice ta tl tc, .slice ra rl rc, .int .i64 dk, .int .i64 dn, .int .i64 dp, .string ds, .slice da dl dc] 59) (.cells #[.slice none 0 0, .bool false] 27)
 have hs3 := hs.grow hg3
 obtain ⟨hsl, hsc, _⟩ := hs3.len
 have HG3 := jh hg3
 have HI3 := jh hI3
 have HR3 := jh hR3
 have HS3 := jh hs3
 obtain ⟨i0, i1, i2, i3, _⟩ := box9 hI3
 clear hg3 hI3 hR3 hs hs3 hsl
 go_enter Tryz.func32, Tryz.ntmps32
 go_wp2_with fail
 generalize (W.alloc _).alloc _ = W3 at *
 refine (refused_led 5 (by decide) _).mono ?_
 rintro e w5 hp
 obtain ⟨a5, l5, c5, f5, er5, rfl, hS5, q0, q1, q2, HB5, HL5⟩ := led_fin hp HG3.out (gRf _ _) HR3.out
 clear hp
 go_wp2_with fail
 exact end_led (fun w z0 z1 => by simp [results, Tryz.results32, go_sem, z0, z1]) rfl HB5.out HL5.out
theorem moves_41b {W : World} {n : Int} {ta ra da : Option Addr} {tl tc rl rc dl dc : Nat} {dk dn dp : Int} {ds : ByteArray} {s : List Ty} {sv : Value} (hs : RowC W s sv) (h1 : 1 <= n) (h : ¬ n <= (s.length : Int)) :
 Calls Tryz.prog 32 #[insV 41 n ta tl tc ra rl rc dk dn dp ds da dl dc, sv] W (LedPost (.no 5) W) := by
 obtain ⟨sa, sl, sc, e1⟩ := hs.form3
 subst e1
 unfold insV
 obtain ⟨hg3, hI3, hR3⟩ := start2 W (.cells #[.int .i64 41, .int .i64 n, .slice ta tl tc, .slice ra rl rc, .int .i64 dk, .int .i64 dn, .int .i64 dp, .string ds, .slice da dl dc] 59) (.cells #[.slice none 0 0, .bool false] 27)
 have hs3 := hs.grow hg3
 obtain ⟨hsl, hsc, _⟩ := hs3.len
 have hx : ¬ n <= (sl : Int) := by omega
 have HG3 := jh hg3
 have HI3 := jh hI3
 have HR3 := jh hR3
 have HS3 := jh hs3
 obtain ⟨i0, i1, i2, i3, _⟩ := box9 hI3
 clear hg3 hI3 hR3 hs hs3 hsl h
 go_enter Tryz.func32, Tryz.ntmps32
 go_wp2_with fail
 generalize (W.alloc _).alloc _ = W3 at *
 refine (refused_led 5 (by decide) _).mono ?_
 rintro e w5 hp
 obtain ⟨a5, l5, c5, f5, er5, rfl, hS5, q0, q1, q2, HB5, HL5⟩ := led_fin hp HG3.out (gRf _ _) HR3.out
 clear hp
 go_wp2_with fail
 exact end_led (fun w z0 z1 => by simp [results, Tryz.results32, go_sem, z0, z1]) rfl HB5.out HL5.out
theorem moves_41c {W : World} {m : Nat} {ta ra da : Option Addr} {tl tc rl rc dl dc : Nat} {dk dn dp : Int} {ds : ByteArray} {s : List Ty} {sv : Value} (hs : RowC W s sv) (hm : m < s.length) (hcp : copyT (tyAt s m) = false) (hz : (tyAt s m).size <= 50000000) (hn : s.length <= 1000) :
 Calls Tryz.prog 32 #[insV 41 ((m : Int) + 1) ta tl tc ra rl rc dk dn dp ds da dl dc, sv] W (LedPost (.no 5) W) := by
 obtain ⟨sa, sl, sc, e1⟩ := hs.form3
 subst e1
 unfold insV
 obtain ⟨hg3, hI3, hR3⟩ := start2 W (.cells #[.int .i64 41, .int .i64 ((m : Int) + 1), .slice ta tl tc, .slice ra rl rc, .int .i64 dk, .int .i64 dn, .int .i64 dp, .string ds, .slice da dl dc] 59) (.cells #[.slice none 0 0, .bool false] 27)
 have hs3 := hs.grow hg3
 obtain ⟨hsl, hsc, _⟩ := hs3.len
 obtain ⟨b, o, t0, a0, l0, k0, rfl, x0a, x0b, hA0⟩ := hs3.at m hm
 have b0 : (1 : Int) <= (m : Int) + 1 := by omega
 have b2 : (m : Int) + 1 <= (sl : Int) := by omega
 have b3 : (m : Int) < (sl : Int) := by omega
 have b4 : m < sl := by omega
 have b5 : (m : Int) <= 1000 := by omega
 rw [show 2 * m = m * 2 from Nat.mul_comm _ _] at x0a x0b
 rw [← Nat.add_assoc] at x0b
 have HA0 := jh hA0
 have HG3 := jh hg3
 have HI3 := jh hI3
 have HR3 := jh hR3
 have HS3 := jh hs3
 obtain ⟨i0, i1, i2, i3, _⟩ := box9 hI3
 clear hg3 hI3 hR3 hs hs3 hsl hA0 hm
 go_enter Tryz.func32, Tryz.ntmps32
 go_wp2_with fail
 generalize (W.alloc _).alloc _ = W3 at *
 refine (copied_any HA0.out.low hz).mono ?_; rintro e w1 ⟨rfl, hg⟩
 rw [hcp]
 replace i0 := kNq hg i0
 replace i1 := kNq hg i1
 replace HR3 := jh (kBq HR3.out hg)
 replace HG3 := jh (Lf.gbt HG3.out hg)
 clear hg i2 i3
 go_wp2_with fail
 refine (refused_led 5 (by decide) _).mono ?_
 rintro e w5 hp
 obtain ⟨a5, l5, c5, f5, er5, rfl, hS5, q0, q1, q2, HB5, HL5⟩ := led_fin hp HG3.out (gRf _ _) HR3.out
 clear hp
 go_wp2_with fail
 exact end_led (fun w z0 z1 => by simp [results, Tryz.results32, go_sem, z0, z1]) rfl HB5.out HL5.out
theorem moves_43n {W : World} {n : Int} {ta ra da : Option Addr} {tl tc rl rc dl dc : Nat} {dk dn dp : Int} {ds : ByteArray} {s : List Ty} {sv : Value} (hs : RowC W s sv) (h : ¬ n < (s.length : Int)) :
 Calls Tryz.prog 32 #[insV 43 n ta tl tc ra rl rc dk dn dp ds da dl dc, sv] W (LedPost (.no 5) W) := by
 obtain ⟨sa, sl, sc, e1⟩ := hs.form3
 subst e1
 unfold insV
 obtain ⟨hg3, hI3, hR3⟩ := start2 W (.cells #[.int .i64 43, .int .i64 n, .slice ta tl tc, .slice ra rl rc, .int .i64 dk, .int .i64 dn, .int .i64 dp, .string ds, .slice da dl dc] 59) (.cells #[.slice none 0 0, .bool false] 27)
 have hs3 := hs.grow hg3
 obtain ⟨hsl, hsc, _⟩ := hs3.len
 have hx : ¬ n < (sl : Int) := by omega
 have HG3 := jh hg3
 have HI3 := jh hI3
 have HR3 := jh hR3
 have HS3 := jh hs3
 obtain ⟨i0, i1, i2, i3, _⟩ := box9 hI3
 clear hg3 hI3 hR3 hs hs3 hsl h
 go_enter Tryz.func32, Tryz.ntmps32
 go_wp2_with fail
 generalize (W.alloc _).alloc _ = W3 at *
 refine (refused_led 5 (by decide) _).mono ?_
 rintro e w5 hp
 obtain ⟨a5, l5, c5, f5, er5, rfl, hS5, q0, q1, q2, HB5, HL5⟩ := led_fin hp HG3.out (gRf _ _) HR3.out
 clear hp
 go_wp2_with fail
 exact end_led (fun w z0 z1 => by simp [results, Tryz.results32, go_sem, z0, z1]) rfl HB5.out HL5.out
theorem moves_44n {W : World} {n : Int} {ta ra da : Option Addr} {tl tc rl rc dl dc : Nat} {dk dn dp : Int} {ds : ByteArray} {s : List Ty} {sv : Value} (hs : RowC W s sv) (h : ¬ n < (s.length : Int)) :
 Calls Tryz.prog 32 #[insV 44 n ta tl tc ra rl rc dk dn dp ds da dl dc, sv] W (LedPost (.no 5) W) := by
 obtain ⟨sa, sl, sc, e1⟩ := hs.form3
 subst e1
 unfold insV
 obtain ⟨hg3, hI3, hR3⟩ := start2 W (.cells #[.int .i64 44, .int .i64 n, .slice ta tl tc, .slice ra rl rc, .int .i64 dk, .int .i64 dn, .int .i64 dp, .string ds, .slice da dl dc] 59) (.cells #[.slice none 0 0, .bool false] 27)
 have hs3 := hs.grow hg3
 obtain ⟨hsl, hsc, _⟩ := hs3.len
 have hx : ¬ n < (sl : Int) := by omega
 have HG3 := jh hg3
 have HI3 := jh hI3
 have HR3 := jh hR3
 have HS3 := jh hs3
 obtain ⟨i0, i1, i2, i3, _⟩ := box9 hI3
 clear hg3 hI3 hR3 hs hs3 hsl h
 go_enter Tryz.func32, Tryz.ntmps32
 go_wp2_with fail
 generalize (W.alloc _).alloc _ = W3 at *
 refine (refused_led 5 (by decide) _).mono ?_
 rintro e w5 hp
 obtain ⟨a5, l5, c5, f5, er5, rfl, hS5, q0, q1, q2, HB5, HL5⟩ := led_fin hp HG3.out (gRf _ _) HR3.out
 clear hp
 go_wp2_with fail
 exact end_led (fun w z0 z1 => by simp [results, Tryz.results32, go_sem, z0, z1]) rfl HB5.out HL5.out
theorem moves_41 {W : World} {m : Nat} {ta ra da : Option Addr} {tl tc rl rc dl dc : Nat} {dk dn dp : Int} {ds : ByteArray} {s : List Ty} {sv : Value} (hs : RowC W s sv) (hm : m < s.length) (hcp : copyT (tyAt s m) = true) (hz : (tyAt s m).size <= 50000000) (hn : s.length <= 1000) :
 Calls Tryz.prog 32 #[insV 41 ((m : Int) + 1) ta tl tc ra rl rc dk dn dp ds da dl dc, sv] W (LedPost (putF s [tyAt s m]) W) := by
 obtain ⟨sa, sl, sc, e1⟩ := hs.form3
 subst e1
 unfold insV
 obtain ⟨hg3, hI3, hR3⟩ := start2 W (.cells #[.int .i64 41, .int .i64 ((m : Int) + 1), .slice ta tl tc, .slice ra rl rc, .int .i64 dk, .int .i64 dn, .int .i64 dp, .string ds, .slice da dl dc] 59) (.cells #[.slice none 0 0, .bool false] 27)
 have hs3 := hs.grow hg3
 obtain ⟨hsl, hsc, _⟩ := hs3.len
 obtain ⟨b, o, t0, a0, l0, k0, rfl, x0a, x0b, hA0⟩ := hs3.at m hm
 have b0 : (1 : Int) <= (m : Int) + 1 := by omega
 have b2 : (m : Int) + 1 <= (sl : Int) := by omega
 have b3 : (m : Int) < (sl : Int) := by omega
 have b4 : m < sl := by omega
 have b5 : (m : Int) <= 1000 := by omega
 rw [show 2 * m = m * 2 from Nat.mul_comm _ _] at x0a x0b
 rw [← Nat.add_assoc] at x0b
 have HA0 := jh hA0
 have HG3 := jh hg3
 have HI3 := jh hI3
 have HR3 := jh hR3
 have HS3 := jh hs3
 obtain ⟨i0, i1, i2, i3, _⟩ := box9 hI3
 clear hg3 hI3 hR3 hs hs3 hA0 hsl hm
 go_enter Tryz.func32, Tryz.ntmps32
 go_wp2_with fail
 generalize (W.alloc _).alloc _ = W3 at *
 refine (copied_any HA0.out.low hz).mono ?_; rintro e w1 ⟨rfl, hg⟩
 rw [hcp]
 replace i0 := kNq hg i0
 replace i1 := kNq hg i1
 replace x0a := kNq hg x0a
 replace x0b := kNq hg x0b
 replace HR3 := jh (kBq HR3.out hg)
 replace HS3 := jh (HS3.out.grow hg)
 replace HG3 := jh (Lf.gbt HG3.out hg)
 replace HA0 := jh (HA0.out.same (sAl hg))
 clear hg i2 i3
 go_wp2_with fail
 refine (put_any (HS3.out.grow (Lf.gb _)) (RowC.one (heap_alloc_new w1 _) (HA0.out.same (sAl (Lf.gb _)))) (by simp <;> omega)).mono ?_
 rintro e w5 hp
 obtain ⟨a5, l5, c5, f5, er5, rfl, hS5, q0, q1, q2, HB5, HL5⟩ := led_fin hp HG3.out (Lf.gb _) HR3.out
 clear hp
 go_wp2_with fail
 exact end_led (fun w z0 z1 => by simp [results, Tryz.results32, go_sem, z0, z1]) rfl HB5.out HL5.out
end Go.Proofs.YtamohjlhndedhadGreatRRR
