import Derived.Test.YtamohjlhndedhadGreatRRRCkTwo
namespace Go.Proofs.YtamohjlhndedhadGreatRRR
set_option maxRecDepth 100000
set_option maxHeartbeats 4000000
open Go.ChangeShapes Go.WideShapes Go.ChangeAt Go.RowKit
set_option linter.unusedVariables false
set_option linter.unusedSimpArgs false
theorem ParsePost.form {T : Ty} {t : Tr} {W : World} {e : Ending} {w' : World} (h : ParsePost T t W e w') : ∃ kk nn aa ss xa xl xc ya yl yc za zl zc er, e = .returned (.tuple #[vaV kk nn aa ss xa xl xc ya yl yc za zl zc, .int .i64 er]) /\ W.grownBy w' none /\ ((er = 0 /\ (parseF T t).isSome = true) \/ (er = 1 /\ (parseF T t).isSome = false)) := by
 rcases h.2 with ⟨x, v, h1, rfl, h2⟩ | ⟨h1, rfl⟩
 ·cases h2 with
  | mk V VT VN => exact ⟨_, _, _, _, _, _, _, _, _, _, _, _, _, 0, rfl, h.1, .inl ⟨rfl, by rw [h1]; rfl⟩⟩
 ·exact ⟨_, _, _, _, _, _, _, _, _, _, _, _, _, 1, rfl, h.1, .inr ⟨rfl, by rw [h1]; rfl⟩⟩
def PushCut (r : Bool) (w1 : World) (pv qv : Value) (wx : World) : Prop := ∃ er : Int, qv = .int .i64 er /\ w1.grownBy wx none /\ ((er = 0 /\ r = true) \/ (er = 1 /\ r = false))
theorem pushCut_one {r : Bool} {w1 w2 : World} {o : Obj} {pv : Value} {er : Int} (h : w1.grownBy w2 none) (h2 : (er = 0 /\ r = true) \/ (er = 1 /\ r = false)) : PushCut r w1 pv (.int .i64 er) (w2.alloc o) := ⟨er, rfl, Lf.gbt h (Lf.gb _), h2⟩
theorem pushCut_two {r : Bool} {w1 w2 : World} {v0 v1 v2 v3 v4 v5 v6 : Value} {pv : Value} {er : Int} (h : w1.grownBy w2 none) (h2 : (er = 0 /\ r = true) \/ (er = 1 /\ r = false)) : PushCut r w1 pv (.int .i64 er) (((((((w2.setCell ⟨w1.heap.size, 0, none⟩ v0).setCell ⟨w1.heap.size, 1, none⟩ v1).setCell ⟨w1.heap.size, 2, none⟩ v2).setCell ⟨w1.heap.size, 3, none⟩ v3).setCell ⟨w1.heap.size, 4, none⟩ v4).setCell ⟨w1.heap.size, 5, none⟩ v5).setCell ⟨w1.heap.size, 6, none⟩ v6) := ⟨er, rfl, grow_set7New h (Nat.le_refl _), h2⟩
theorem tells_45n {W : World} {n : Int} {ta ra da : Option Addr} {tl tc rl rc dl dc : Nat} {dk dn dp : Int} {ds : ByteArray} {s types : List Ty} {sv : Value} (hs : RowC W s sv) (hT : RowC W types (.slice ta tl tc)) (htl : types.length = 1) (ht : packT (tyAt types 0) = false) (hz : (tyAt types 0).size <= 50000000) :
 Calls Tryz.prog 39 #[insV 45 n ta tl tc ra rl rc dk dn dp ds da dl dc, sv] W (LedPost (.no 5) W) := by
 obtain ⟨sa, sl, sc, e1⟩ := hs.form3
 subst e1
 unfold insV
 obtain ⟨hg3, hI3, hR3⟩ := start2 W (.cells #[.int .i64 45, .int .i64 n, .slice ta tl tc, .slice ra rl rc, .int .i64 dk, .int .i64 dn, .int .i64 dp, .string ds, .slice da dl dc] 59) (.cells #[.slice none 0 0, .bool false] 27)
 have hT3 := hT.grow hg3
 obtain ⟨et, ect, _⟩ := hT3.len
 rw [htl] at et ect
 subst et
 obtain ⟨bt, ot, t0, a0, l0, k0, rfl, x0a, x0b, hA0⟩ := hT3.at 0 (by omega)
 simp only [Nat.reduceMul, Nat.reduceAdd, Nat.add_zero, Nat.mul_zero, Nat.zero_add] at x0a x0b
 have HPK := jh (packed_any hA0.low hz)
 rw [ht] at HPK
 have HG3 := jh hg3
 have HR3 := jh hR3
 obtain ⟨i0, i1, i2, i3, _⟩ := box9 hI3
 clear hg3 hI3 hR3 hs hT hT3 hA0 ht
 go_enter Tryz.func39, Tryz.ntmps39
 go_wp2_with fail
 generalize (W.alloc _).alloc _ = W3 at *
 unfold tyV at HPK
 refine HPK.out.mono ?_; rintro e w1 ⟨rfl, hg⟩
 replace i0 := kNq hg i0
 replace HR3 := jh (kBq HR3.out hg)
 replace HG3 := jh (Lf.gbt HG3.out hg)
 clear hg i1 i2 i3 HPK x0a x0b
 go_wp2_with fail
 refine (refused_led 5 (by decide) _).mono ?_
 rintro e w5 hp
 obtain ⟨a5, l5, c5, f5, er5, rfl, hS5, q0, q1, q2, HB5, HL5⟩ := led_fin hp HG3.out (gRf _ _) HR3.out
 clear hp
 go_wp2_with fail
 exact end_led (fun w z0 z1 => by simp [results, Tryz.results39, go_sem, z0, z1]) rfl HB5.out HL5.out
theorem tells_45 {W : World} {n : Int} {ta ra da : Option Addr} {tl tc rl rc dc : Nat} {d : Tr} {s types : List Ty} {sv : Value} (hs : RowC W s sv) (hT : RowC W types (.slice ta tl tc)) (htl : types.length = 1) (ht : packT (tyAt types 0) = true) (hz : (tyAt types 0).size <= 50000000) (hn : s.length <= 1000)
 (hD : Lies (fun _ => True) W d (nodeV d.k0 d.n0 d.p0 d.s0 da d.args0.length dc)) (hdz : d.size <= 4611686018427387903) :
 Calls Tryz.prog 39 #[insV 45 n ta tl tc ra rl rc d.k0 d.n0 d.p0 d.s0 da d.args0.length dc, sv] W (LedPost (if (parseF (tyAt types 0) d).isSome = true then putF s [tyAt types 0] else .no 5) W) := by
 obtain ⟨sa, sl, sc, e1⟩ := hs.form3
 subst e1
 unfold insV
 obtain ⟨hg3, hI3, hR3⟩ := start2 W (.cells #[.int .i64 45, .int .i64 n, .slice ta tl tc, .slice ra rl rc, .int .i64 d.k0, .int .i64 d.n0, .int .i64 d.p0, .string d.s0, .slice da d.args0.length dc] 59) (.cells #[.slice none 0 0, .bool false] 27)
 have hT3 := hT.grow hg3
 have hs3 := hs.grow hg3
 obtain ⟨hsl, _⟩ := hs3.len
 subst hsl
 obtain ⟨et, ect, _⟩ := hT3.len
 rw [htl] at et ect
 subst et
 obtain ⟨bt, ot, t0, a0, l0, k0, rfl, x0a, x0b, hA0⟩ := hT3.at 0 (by omega)
 simp only [Nat.reduceMul, Nat.reduceAdd, Nat.add_zero, Nat.mul_zero, Nat.zero_add] at x0a x0b
 have HPK := jh (packed_any hA0.low hz)
 rw [ht] at HPK
 have HD := jh (hD.same (sAl hg3))
 have HA0 := jh hA0
 have HS3 := jh hs3
 have HG3 := jh hg3
 have HR3 := jh hR3
 have HI3 := jh hI3
 obtain ⟨i0, i1, i2, i3, i4, i5, i6, i7, i8⟩ := box9 hI3
 clear hg3 hI3 hR3 hs hT hT3 hA0 ht hD hs3
 obtain ⟨q, hq⟩ : ∃ q : Led, q = (if (parseF (tyAt types 0) d).isSome = true then putF s [tyAt types 0] else .no 5) := ⟨_, rfl⟩
 rw [← hq]
 have HQ := jh hq
 clear hq
 go_enter Tryz.func39, Tryz.ntmps39
 go_wp2_with fail
 generalize (W.alloc _).alloc _ = W3 at *
 unfold tyV at HPK
 refine HPK.out.mono ?_; rintro e w1 ⟨rfl, hg⟩
 replace i0 := kNq hg i0
 replace i2 := kNq hg i2
 replace i4 := kNq hg i4
 replace i5 := kNq hg i5
 replace i6 := kNq hg i6
 replace i7 := kNq hg i7
 replace i8 := kNq hg i8
 replace x0a := kNq hg x0a
 replace x0b := kNq hg x0b
 replace HR3 := jh (kBq HR3.out hg)
 replace HI3 := jh (kBq HI3.out hg)
 replace HG3 := jh (Lf.gbt HG3.out hg)
 replace HS3 := jh (HS3.out.grow hg)
 replace HA0 := jh (HA0.out.same (sAl hg))
 replace HD := jh (HD.out.same (sAl hg))
 clear hg i1 i3 HPK
 have HC : Hid (∀ W2, w1.grownBy W2 none -> Calls Tryz.prog 64 #[tyV t0 a0 l0 k0, nodeV d.k0 d.n0 d.p0 d.s0 da d.args0.length dc] W2 (ParsePost (tyAt types 0) d W2)) := fun W2 h => parse_any (HA0.out.same (sAl h)) (HD.out.same (sAl h)) hdz
 unfold tyV nodeV at HC
 have y2 := fun (w' : World) (h : w1.grownBy w' none) => kNq h i2
 have y4 := fun (w' : World) (h : w1.grownBy w' none) => kNq h i4
 have y5 := fun (w' : World) (h : w1.grownBy w' none) => kNq h i5
 have y6 := fun (w' : World) (h : w1.grownBy w' none) => kNq h i6
 have y7 := fun (w' : World) (h : w1.grownBy w' none) => kNq h i7
 have y8 := fun (w' : World) (h : w1.grownBy w' none) => kNq h i8
 have u0 : ∀ w', w1.grownBy w' none -> w'.cell? ⟨bt, ot, none⟩ = some (.int .i64 t0) := fun w' h => kNq h x0a
 have u1 : ∀ w', w1.grownBy w' none -> w'.cell? ⟨bt, ot + 1, none⟩ = some (.slice a0 l0 k0) := fun w' h => kNq h x0b
 have hS0 : w1.grownBy w1 none := gRf _ _
 go_wp2_with fail
 go_cut [6, 7] (fun pv qv wx => PushCut (parseF (tyAt types 0) d).isSome w1 pv qv wx)
 case first =>
  go_region_held3 (fun w' => w1.grownBy w' none) (first | with_reducible assumption | with_reducible exact grow_set7New (by assumption) (Nat.le_refl _) | with_reducible exact Lf.gbt (by assumption) (Lf.gb _) | with_reducible exact gDr (gRf _ _) | with_reducible exact gDr (Lf.gb _)) (first
   | (go_at_call 64; refine (HC.out _ (by assumption)).mono ?_; rintro e w2 hpost; obtain ⟨kk, nn, aa, ss, xa, xl, xc, ya, yl, yc, za, zl, zc, er, rfl, hgp, hpc⟩ := hpost.form; have HPC := jh hpc; have HGP := jh hgp; have hS := Lf.gbt (by assumption) hgp; have hb9 : w2.heap[w1.heap.size]? = some (.cells #[.int .i64 0, .int .i64 0, .int .i64 0, .string ⟨#[]⟩, .slice none 0 0, .slice none 0 0, .slice none 0 0] 79 (0, 0)) := (hgp.block _ (by simp) (by simp)).trans (heap_alloc_new w1.drew _); obtain ⟨v0, v1, v2, v3, v4, v5, v6⟩ := box7 hb9; have fz := free7 hb9; have HB9 := jh hb9; clear hpost hpc hgp hb9; unfold vaV)
   | (go_at_call 64; refine (HC.out _ (by assumption)).mono ?_; rintro e w2 hpost; obtain ⟨kk, nn, aa, ss, xa, xl, xc, ya, yl, yc, za, zl, zc, er, rfl, hgp, hpc⟩ := hpost.form; have HPC := jh hpc; have HGP := jh hgp; have hS := Lf.gbt (by assumption) hgp; clear hpost hpc hgp; unfold vaV))
  all_goals
   have HSS := jh hS
   go_wp2_with fail
   go_meet
   first
   | with_reducible exact pushCut_one HSS.out HPC.out
   | with_reducible exact pushCut_two HSS.out HPC.out
 case rest =>
  obtain ⟨er, rfl, hg, hcase⟩ := hcut
  replace HR3 := jh (kBq HR3.out hg)
  replace HI3 := jh (kBq HI3.out hg)
  replace HG3 := jh (Lf.gbt HG3.out hg)
  replace HS3 := jh (HS3.out.grow hg)
  replace HA0 := jh (HA0.out.same (sAl hg))
  replace x0a := kNq hg x0a
  replace x0b := kNq hg x0b
  replace i2 := kNq hg i2
  clear y2 y4 y5 y6 y7 y8 u0 u1 hS0 i0 i4 i5 i6 i7 i8 HC hg
  rcases hcase with ⟨rfl, hr⟩ | ⟨rfl, hr⟩
  ·rw [hr, if_pos rfl] at HQ
   have HQ2 : Hid (q = putF s [tyAt types 0]) := HQ.out
   clear HQ hr
   go_wp2_with fail
   refine (put_any (HS3.out.grow (Lf.gb _)) (RowC.one (heap_alloc_new wc _) (HA0.out.same (sAl (Lf.gb _)))) (by simp <;> omega)).mono ?_
   rintro e w5 hp
   rw [← HQ2.out] at hp
   obtain ⟨a5, l5, c5, f5, er5, rfl, hS5, q0, q1, q2, HB5, HL5⟩ := led_fin hp HG3.out (Lf.gb _) HR3.out
   clear hp
   go_wp2_with fail
   exact end_led (fun w z0 z1 => by simp [results, Tryz.results39, go_sem, z0, z1]) rfl HB5.out HL5.out
  ·rw [hr, if_neg (by decide)] at HQ
   have HQ2 : Hid (q = .no 5) := HQ.out
   clear HQ hr
   go_wp2_with fail
   refine (refused_led 5 (by decide) _).mono ?_
   rintro e w5 hp
   rw [← HQ2.out] at hp
   obtain ⟨a5, l5, c5, f5, er5, rfl, hS5, q0, q1, q2, HB5, HL5⟩ := led_fin hp HG3.out (gRf _ _) HR3.out
   clear hp
   go_wp2_with fail
   exact end_led (fun w z0 z1 => by simp [results, Tryz.results39, go_sem, z0, z1]) rfl HB5.out HL5.out
end Go.Proofs.YtamohjlhndedhadGreatRRR
