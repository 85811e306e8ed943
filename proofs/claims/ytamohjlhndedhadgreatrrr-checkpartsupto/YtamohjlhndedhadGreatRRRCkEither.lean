import Derived.Test.YtamohjlhndedhadGreatRRRZi
import Derived.Test.YtamohjlhndedhadGreatRRRZf
namespace Go.Proofs.YtamohjlhndedhadGreatRRR
set_option maxRecDepth 100000
set_option maxHeartbeats 16000000
open Go.ChangeShapes Go.WideShapes Go.ChangeAt Go.RowKit
set_option linter.unusedVariables false
set_option linter.unusedSimpArgs false
theorem concat_y {W : World} {x y : List Ty} {xv yv : Value} (hx : RowC W x xv) (hy : RowC W y yv) (hn : x.length + y.length <= 20000000) :
 Calls Tryz.prog 55 #[.slice (some ⟨W.heap.size, 0, none⟩) 2 2] (W.alloc (.cells #[xv, yv] 25)) fun e w' => ∃ v, e = .returned v /\ RowC w' (x ++ y) v /\ W.grownBy w' none :=
 (concat_any (heap_alloc_new W _) (hx.grow (Lf.gb _)) (hy.grow (Lf.gb _)) hn).mono fun e w' ⟨v, h1, h2, h3⟩ => ⟨v, h1, h2, Lf.gbt (Lf.gb _) h3⟩
theorem either_any {W : World} {p n : Int} {ta da na nb : Option Addr} {rb ro tl tc rc dl dc nl nc ml mc : Nat} {dk dn dp : Int} {ds : ByteArray} {s x y : List Ty} {sv xv yv : Value} {r1 r2 : Led} (hs : RowC W s sv) (hx : RowC W x xv) (hy : RowC W y yv)
 (hcell : W.cell? ⟨rb, ro, none⟩ = some (.slice na nl nc)) (hcell2 : W.cell? ⟨rb, ro + 1, none⟩ = some (.slice nb ml mc))
 (hrow1 : ∀ W2 (a2 : Option Addr) (l2 c2 : Nat), W.grownBy W2 none -> RowC W2 (x ++ s) (.slice a2 l2 c2) -> Calls Tryz.prog 14 #[.slice na nl nc, .slice a2 l2 c2] W2 (LedPost r1 W2))
 (hrow2 : ∀ W2 (a2 : Option Addr) (l2 c2 : Nat), W.grownBy W2 none -> RowC W2 (y ++ s) (.slice a2 l2 c2) -> Calls Tryz.prog 14 #[.slice nb ml mc, .slice a2 l2 c2] W2 (LedPost r2 W2))
 (hsz : ∀ f ts, r1 = .ok f ts -> ts.length <= 20000000 /\ tysizes ts <= 20000000) (hxl : x.length + s.length <= 20000000) (hyl : y.length + s.length <= 20000000) :
 Calls Tryz.prog 57 #[insV p n ta tl tc (some ⟨rb, ro, none⟩) 2 rc dk dn dp ds da dl dc, sv, xv, yv] W (LedPost (meetF r1 r2) W) := by
 obtain ⟨sa, sl, sc, e1⟩ := hs.form3
 obtain ⟨xa, xl, xc, e2⟩ := hx.form3
 obtain ⟨ya, yl, yc, e3⟩ := hy.form3
 subst e1; subst e2; subst e3
 unfold insV
 obtain ⟨hg3, hI3, hR3⟩ := start2 W (.cells #[.int .i64 p, .int .i64 n, .slice ta tl tc, .slice (some ⟨rb, ro, none⟩) 2 rc, .int .i64 dk, .int .i64 dn, .int .i64 dp, .string ds, .slice da dl dc] 59) (.cells #[.slice none 0 0, .bool false] 27)
 have HLB : Hid (rb < W.heap.size) := World.block_lt_of_cell? W _ hcell
 have xr := kNq hg3 hcell
 have xr2 := kNq hg3 hcell2
 have HROW1 : Hid (∀ W2 (a2 : Option Addr) (l2 c2 : Nat), W.grownBy W2 none -> RowC W2 (x ++ s) (.slice a2 l2 c2) -> Calls Tryz.prog 14 #[.slice na nl nc, .slice a2 l2 c2] W2 (LedPost r1 W2)) := hrow1
 have HROW2 : Hid (∀ W2 (a2 : Option Addr) (l2 c2 : Nat), W.grownBy W2 none -> RowC W2 (y ++ s) (.slice a2 l2 c2) -> Calls Tryz.prog 14 #[.slice nb ml mc, .slice a2 l2 c2] W2 (LedPost r2 W2)) := hrow2
 have HS3 := jh (hs.grow hg3)
 have HX := jh (hx.grow hg3)
 have HY := jh (hy.grow hg3)
 have HG3 := jh hg3
 have HI3 := jh hI3
 have HR3 := jh hR3
 have HSZ := jh hsz
 clear hg3 hI3 hR3 hx hy hs hrow1 hrow2 hcell hcell2 hsz
 go_enter Tryz.func57, Tryz.ntmps57
 go_wp2_with fail
 generalize (W.alloc _).alloc _ = W3 at *
 have yr : ∀ w', W3.grownBy w' (some (W.heap.size + 1)) -> w'.cell? ⟨rb, ro, none⟩ = some (.slice na nl nc) := fun w' h => (World.cell?_of_block (h.block _ (World.block_lt_of_cell? W3 _ xr) (by have := HLB.out; simp; omega))).trans xr
 have yr2 : ∀ w', W3.grownBy w' (some (W.heap.size + 1)) -> w'.cell? ⟨rb, ro + 1, none⟩ = some (.slice nb ml mc) := fun w' h => (World.cell?_of_block (h.block _ (World.block_lt_of_cell? W3 _ xr2) (by have := HLB.out; simp; omega))).trans xr2
 have yi3 : ∀ w', W3.grownBy w' (some (W.heap.size + 1)) -> w'.cell? ⟨W.heap.size, 3, none⟩ = some (.slice (some ⟨rb, ro, none⟩) 2 rc) := fun w' h => (box9 (keepI HI3.out h)).2.2.2.1
 have hS0 : W3.grownBy W3 (some (W.heap.size + 1)) := gRf _ _
 go_region_held3 (fun w' => W3.grownBy w' (some (W.heap.size + 1))) (first | with_reducible assumption | with_reducible exact gDr (gRf _ _) | with_reducible exact grow_setR (by assumption) | with_reducible exact grow_trans (by assumption) (gAq (Lf.gb _)) | with_reducible exact gDr (gAq (Lf.gb _)) | with_reducible exact gDr (gAq (Lf.gbt (Lf.gb _) (Lf.gb _)))) (first
  | (go_at_call 73; with_reducible refine (meet_any HJ1.out HJ2.out (fun ts h => HSZ.out _ ts h)).mono ?_; rintro e w9 hp; obtain ⟨a5, l5, c5, f5, er5, rfl, hS5, q0, q1, q2, HB5, HL5⟩ := led_fin hp HG3.out HG8.out HR3.out; clear hp)
  | (go_at_call 74; have g0 := HI2.out; clear g0; with_reducible refine (led_any _ _ _ _ _ _).mono ?_; rintro e w8 ⟨rfl, hg⟩; have HJ2 := jh (HI2.out.grow hg); have HJ1 := jh (HI1.out.grow (Lf.gbt HG67.out hg)); have HG8 := jh (Lf.gbt HG7.out hg); have hSw8 : W3.grownBy w8 (some (W.heap.size + 1)) := gAq HG8.out; clear hg)
  | (go_at_call 14; have g0 := HC2.out; clear g0; with_reducible refine (HROW2.out _ _ _ _ (Lf.gbt HG3.out HG6.out) HC2.out).mono ?_; rintro e w7 hp; obtain ⟨a7, l7, c7, f7, er7, rfl, hg, his⟩ := hp.is; have HI2 := jh his; have HG67 := jh (Lf.gbt HG56.out hg); have HG7 := jh (Lf.gbt HG6.out hg); have hSw7 : W3.grownBy w7 (some (W.heap.size + 1)) := gAq HG7.out; clear hg his hp)
  | (go_at_call 55; have g0 := HI1.out; have g1 := HXB.out; clear g0 g1; with_reducible refine (concat_any HXB.out (HY.out.grow HG5.out) (HS3.out.grow HG5.out) (by omega)).mono ?_; rintro e w6 ⟨v6, rfl, hr6, hg⟩; obtain ⟨a6, l6, c6, e6⟩ := hr6.form3; subst e6; have HC2 := jh hr6; have HG56 := jh hg; have HG6 := jh (Lf.gbt HG5.out hg); have hSw6 : W3.grownBy w6 (some (W.heap.size + 1)) := gAq HG6.out; clear hg hr6)
  | (go_at_call 55; have g0 := HI1.out; clear g0; with_reducible refine (concat_y (HY.out.grow HG5.out) (HS3.out.grow HG5.out) (by omega)).mono ?_; rintro e w6 ⟨v6, rfl, hr6, hg⟩; obtain ⟨a6, l6, c6, e6⟩ := hr6.form3; subst e6; have HC2 := jh hr6; have HG56 := jh hg; have HG6 := jh (Lf.gbt HG5.out hg); have hSw6 : W3.grownBy w6 (some (W.heap.size + 1)) := gAq HG6.out; clear hg hr6)
  | (go_at_call 74; have g0 := HI0.out; clear g0; with_reducible refine (led_any _ _ _ _ _ _).mono ?_; rintro e w5 ⟨rfl, hg⟩; have HXB := jh (kBq (heap_alloc_new w4b _) hg); have HI1 := jh (HI0.out.grow (Lf.gbt (Lf.gb _) hg)); have HG5 := jh (Lf.gbt HG4b.out (Lf.gbt (Lf.gb _) hg)); have hSw5 : W3.grownBy w5 (some (W.heap.size + 1)) := gAq HG5.out; clear hg)
  | (go_at_call 74; have g0 := HI0.out; clear g0; with_reducible refine (led_any _ _ _ _ _ _).mono ?_; rintro e w5 ⟨rfl, hg⟩; have HXB := jh (kBq HXB.out hg); have HI1 := jh (HI0.out.grow hg); have HG5 := jh (Lf.gbt HG4b.out hg); have hSw5 : W3.grownBy w5 (some (W.heap.size + 1)) := gAq HG5.out; clear hg)
  | (go_at_call 74; have g0 := HI0.out; clear g0; with_reducible refine (led_any _ _ _ _ _ _).mono ?_; rintro e w5 ⟨rfl, hg⟩; have HI1 := jh (HI0.out.grow hg); have HG5 := jh (Lf.gbt HG4b.out hg); have hSw5 : W3.grownBy w5 (some (W.heap.size + 1)) := gAq HG5.out; clear hg)
  | (go_at_call 14; have g0 := HC1.out; clear g0; with_reducible refine (HROW1.out _ _ _ _ (Lf.gbt HG3.out (Lf.gbt HG4.out (Lf.gb _))) (HC1.out.grow (Lf.gb _))).mono ?_; rintro e w4b hp; obtain ⟨a7, l7, c7, f7, er7, rfl, hg, his⟩ := hp.is; have HXB := jh (kBq (heap_alloc_new w4 _) hg); have HI0 := jh his; have HG4b := jh (Lf.gbt HG4.out (Lf.gbt (Lf.gb _) hg)); have hSw4b : W3.grownBy w4b (some (W.heap.size + 1)) := gAq HG4b.out; clear hg his hp)
  | (go_at_call 14; have g0 := HC1.out; clear g0; with_reducible refine (HROW1.out _ _ _ _ (Lf.gbt HG3.out HG4.out) HC1.out).mono ?_; rintro e w4b hp; obtain ⟨a7, l7, c7, f7, er7, rfl, hg, his⟩ := hp.is; have HXB := jh (kBq HXB.out hg); have HI0 := jh his; have HG4b := jh (Lf.gbt HG4.out hg); have hSw4b : W3.grownBy w4b (some (W.heap.size + 1)) := gAq HG4b.out; clear hg his hp)
  | (go_at_call 14; have g0 := HC1.out; clear g0; with_reducible refine (HROW1.out _ _ _ _ (Lf.gbt HG3.out HG4.out) HC1.out).mono ?_; rintro e w4b hp; obtain ⟨a7, l7, c7, f7, er7, rfl, hg, his⟩ := hp.is; have HI0 := jh his; have HG4b := jh (Lf.gbt HG4.out hg); have hSw4b : W3.grownBy w4b (some (W.heap.size + 1)) := gAq HG4b.out; clear hg his hp)
  | (go_at_call 55; with_reducible refine (concat_w1 HX.out HS3.out (by omega)).mono ?_; rintro e w4 ⟨v4, rfl, hr4, hg⟩; obtain ⟨a4, l4, c4, e4⟩ := hr4.form3; subst e4; have HC1 := jh hr4; have HG4 := jh hg; have hSw4 : W3.grownBy w4 (some (W.heap.size + 1)) := gAq HG4.out; clear hg hr4)
  | (go_at_call 55; with_reducible refine (concat_w2 HX.out HS3.out (by omega)).mono ?_; rintro e w4 ⟨v4, rfl, hr4, hg, hx4⟩; obtain ⟨a4, l4, c4, e4⟩ := hr4.form3; subst e4; have HC1 := jh hr4; have HXB := jh hx4; have HG4 := jh hg; have hSw4 : W3.grownBy w4 (some (W.heap.size + 1)) := gAq HG4.out; clear hg hr4 hx4)
  | (go_at_call 55; with_reducible refine (concat_w3 HX.out HS3.out (by omega)).mono ?_; rintro e w4 ⟨v4, rfl, hr4, hg, hx4⟩; obtain ⟨a4, l4, c4, e4⟩ := hr4.form3; subst e4; have HC1 := jh hr4; have HXB := jh hx4; have HG4 := jh hg; have hSw4 : W3.grownBy w4 (some (W.heap.size + 1)) := gAq HG4.out; clear hg hr4 hx4))
 all_goals
  go_wp2_with fail
  exact end_led (fun w z0 z1 => by simp [results, Tryz.results57, go_sem, z0, z1]) rfl HB5.out HL5.out
end Go.Proofs.YtamohjlhndedhadGreatRRR
